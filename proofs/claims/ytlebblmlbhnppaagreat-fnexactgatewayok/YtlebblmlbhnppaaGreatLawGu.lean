/- Guests in the laws: measured, copied, compared. -/
import Derived.Test.YtlebblmlbhnppaaGreatLawL
import Derived.Test.YtlebblmlbhnppaaGreatKeeps
namespace Go.Proofs.YtlebblmlbhnppaaGreat
open Go.RowKit Go.PlainAid Go.Proofs.YtlebblmlbhnppaaGreat.Bt Go.Sort
set_option linter.unusedVariables false
set_option maxRecDepth 20000
/-- How much a list holds. -/
def szL {α : Type} (wt : α → Int) (xs : List α) : Int := xs.foldr (fun r n => wt r + n) 0
section Sz
variable {α : Type} {wt : α → Int}
theorem szL_cons (r : α) (xs : List α) : szL wt (r :: xs) = wt r + szL wt xs := rfl
theorem szL_nonneg (h0 : ∀ x, 0 ≤ wt x) : ∀ xs : List α, 0 ≤ szL wt xs
  | [] => Int.le_refl _
  | r :: xs => by have := szL_nonneg h0 xs; have := h0 r; rw [szL_cons]; omega
theorem szL_mem (h0 : ∀ x, 0 ≤ wt x) : ∀ (xs : List α) (r : α), r ∈ xs → wt r ≤ szL wt xs
  | [], r, h => by simp at h
  | x :: xs, r, h => by
    rw [szL_cons]
    rcases List.mem_cons.1 h with rfl | h
    · have := szL_nonneg h0 xs; omega
    · have := szL_mem h0 xs r h; have := h0 x; omega
theorem szL_step : ∀ (xs : List α) (k : Nat) (r : α), xs[k]? = some r → szL wt (xs.take (k + 1)) = szL wt (xs.take k) + wt r
  | [], k, r, h => by simp at h
  | x :: xs, 0, r, h => by
    simp at h
    subst h
    simp [szL]
  | x :: xs, k + 1, r, h => by
    have := szL_step xs k r (by simpa using h)
    rw [List.take_succ_cons, List.take_succ_cons, szL_cons, szL_cons, this]
    omega
end Sz
theorem rw_off {α : Type} {R : World → α → List Value → Prop} {K : Nat} {w : World} {a : Option Addr} {xs : List α} (h : Rw R K w a xs) (hR : ∀ w w' x vs, R w x vs → R w' x vs) {p : Addr} (hp : ∀ b off, a = some ⟨b, off, none⟩ → b ≠ p.block) (v : Value) : Rw R K (w.setCell p v) a xs := by
  intro h0
  obtain ⟨b, off, rfl, hlt, hc⟩ := h h0
  refine ⟨b, off, rfl, by simpa using hlt, fun i x hx => ?_⟩
  obtain ⟨vs, h1, h2, h3⟩ := hc i x hx
  refine ⟨vs, h1, hR _ _ _ _ h2, fun j u hu => ?_⟩
  rw [World.cell?_of_block (w := w) (Below.heap_setCell w p v b (hp b off rfl))]
  exact h3 j u hu

def wtUser (u : UserV) : Int := (u.nm.size : Int) + (u.sa.size : Int) + (u.ha.size : Int) + (u.ro.size : Int)
theorem wtUser_nn (u : UserV) : 0 ≤ wtUser u := by unfold wtUser; omega
set_option maxHeartbeats 1000000 in
theorem szUser_any (nm : ByteArray) (sa : ByteArray) (ha : ByteArray) (ro : ByteArray) (bl : Int) (lg : Int) (l : Int) (w : World) (hnm : nm.size ≤ 9223372036854775807) (hsa : sa.size ≤ 9223372036854775807) (hha : ha.size ≤ 9223372036854775807) (hro : ro.size ≤ 9223372036854775807) (h0 : 0 ≤ l) (h1 : l ≤ 1048576) :
    Calls Tryz.prog 105 #[.agg #[.string nm, .string sa, .string ha, .string ro, .int .i64 bl, .int .i64 lg], .int .i64 l] w fun e w' => ∃ r : Int, e = .returned (.int .i64 r) ∧ (0 ≤ r → r = l - ((nm.size : Int) + (sa.size : Int) + (ha.size : Int) + (ro.size : Int))) ∧ -1 ≤ r ∧ r ≤ 1048576 ∧ Grw w w' := by
  by_cases hx0 : (nm.size : Int) ≤ l
  rotate_left
  · go_enter Tryz.func105, Tryz.ntmps105
    go_wp2
    go_ret
    exact ⟨-1, rfl, fun h => absurd h (by omega), by omega, by omega, (Grw.refl _).alloc _⟩
  by_cases hx1 : (sa.size : Int) ≤ l - nm.size
  rotate_left
  · go_enter Tryz.func105, Tryz.ntmps105
    go_wp2
    go_ret
    exact ⟨-1, rfl, fun h => absurd h (by omega), by omega, by omega, (Grw.refl _).alloc _⟩
  by_cases hx2 : (ha.size : Int) ≤ l - nm.size - sa.size
  rotate_left
  · go_enter Tryz.func105, Tryz.ntmps105
    go_wp2
    go_ret
    exact ⟨-1, rfl, fun h => absurd h (by omega), by omega, by omega, (Grw.refl _).alloc _⟩
  by_cases hx3 : (ro.size : Int) ≤ l - nm.size - sa.size - ha.size
  rotate_left
  · go_enter Tryz.func105, Tryz.ntmps105
    go_wp2
    go_ret
    exact ⟨-1, rfl, fun h => absurd h (by omega), by omega, by omega, (Grw.refl _).alloc _⟩
  go_enter Tryz.func105, Tryz.ntmps105
  go_wp2
  go_ret
  exact ⟨_, rfl, fun _ => by omega, by omega, by omega, (Grw.refl _).alloc _⟩

set_option maxHeartbeats 2000000 in
theorem szUserS_any (a : Option Addr) (len cap : Nat) (xs : List UserV) (l : Int) (w : World) (h : Rw UsR 6 w a xs) (hl : xs.length = len) (hlm : len ≤ 9223372036854775807) (h0 : 0 ≤ l) (h1 : l ≤ 1048576) :
    Calls Tryz.prog 36 #[.slice a len cap, .int .i64 l] w fun e w' => ∃ r : Int, e = .returned (.int .i64 r) ∧ (0 ≤ r → r = l - len - szL wtUser xs) ∧ -1 ≤ r ∧ r ≤ 1048576 ∧ Grw w w' := by
  have RW : Hid (Rw UsR 6 w a xs) := h
  clear h
  by_cases hle : (len : Int) ≤ l
  rotate_left
  · go_enter Tryz.func36, Tryz.ntmps36
    go_wp2
    go_ret
    exact ⟨-1, rfl, fun h => absurd h (by omega), by omega, by omega, Grw.refl _⟩
  go_enter Tryz.func36, Tryz.ntmps36
  go_wp2
  go_loopw [1, 5] (fun p x wr => ∃ (k : Nat) (r : Int), k ≤ len ∧ x = .int .i64 k ∧ p = .int .i64 r ∧ 0 ≤ r ∧ r ≤ 1048576 ∧ Hid (r = l - len - szL wtUser (xs.take k)) ∧ Hid (Grw w wr)) (fun _ x _ => len - (intOf x).toNat)
  case atStart => exact ⟨0, l - len, Nat.zero_le _, rfl, rfl, by omega, by omega, by show l - len = l - len - 0; omega, Grw.refl _⟩
  case round =>
    obtain ⟨k, r, hk, rfl, rfl, hr0, hr1, HR, HG⟩ := hrel
    by_cases hlt : k < len
    · obtain ⟨x, hx⟩ := at_of hl hlt
      obtain ⟨b, off, vs, rfl, hb, hvl, hR, hc⟩ := RW.out.at UsR.kp HG.out.below hx
      have HS : Hid (szL wtUser (xs.take (k + 1)) = szL wtUser (xs.take k) + wtUser x) := szL_step xs k x hx
      obtain ⟨nm, sa, ha, ro, bl, lg⟩ := x
      obtain ⟨rfl, hok⟩ := hR
      have q0 : wr.cell? ⟨b, off + k * 6, none⟩ = some (.string nm) := hc 0 _ rfl
      have q1 : wr.cell? ⟨b, off + k * 6 + 1, none⟩ = some (.string sa) := hc 1 _ rfl
      have q2 : wr.cell? ⟨b, off + k * 6 + 2, none⟩ = some (.string ha) := hc 2 _ rfl
      have q3 : wr.cell? ⟨b, off + k * 6 + 3, none⟩ = some (.string ro) := hc 3 _ rfl
      have q4 : wr.cell? ⟨b, off + k * 6 + 4, none⟩ = some (.int .i64 bl) := hc 4 _ rfl
      have q5 : wr.cell? ⟨b, off + k * 6 + 5, none⟩ = some (.int .i64 lg) := hc 5 _ rfl
      have HN : Hid (∀ w, Calls Tryz.prog 105 #[.agg #[.string nm, .string sa, .string ha, .string ro, .int .i64 bl, .int .i64 lg], .int .i64 r] w fun e w' => ∃ r' : Int, e = .returned (.int .i64 r') ∧ (0 ≤ r' → r' = r - ((nm.size : Int) + (sa.size : Int) + (ha.size : Int) + (ro.size : Int))) ∧ -1 ≤ r' ∧ r' ≤ 1048576 ∧ Grw w w') := fun w => by
        unfold UsRok maxLen at hok; dsimp only at hok
        exact szUser_any nm sa ha ro bl lg r w (by omega) (by omega) (by omega) (by omega) hr0 hr1
      have hltz : (k : Int) < (len : Int) := by omega
      clear hc hvl hx hok
      go_wp2_with fail
      refine (HN.out _).mono ?_
      rintro e w1 ⟨r', rfl, hr', hr2, hr3, g1⟩
      have HG1 : Hid (Grw w w1) := HG.out.trans g1
      clear q0 q1 q2 q3 q4 q5 HN g1 HG
      by_cases hneg : r' < 0
      · go_wp2
        go_ret
        exact ⟨-1, rfl, fun h => absurd h (by omega), by omega, by omega, HG1.out⟩
      · have HR' : Hid (r' = l - len - szL wtUser (xs.take (k + 1))) := by
          have e1 := HR.out
          have e2 : szL wtUser (xs.take (k + 1)) = szL wtUser (xs.take k) + ((nm.size : Int) + (sa.size : Int) + (ha.size : Int) + (ro.size : Int)) := HS.out
          have e3 := hr' (by omega)
          show r' = _
          rw [e2]
          omega
        clear HR HS hr'
        go_wp2
        go_roundw
        case rel => exact ⟨k + 1, r', by omega, by go_num, rfl, by omega, hr3, HR', HG1⟩
        case measure => simp [intOf]; omega
    · obtain rfl : k = len := by omega
      have hfin : Hid (r = l - k - szL wtUser xs) := by
        have e1 := HR.out
        rw [List.take_of_length_le (by omega)] at e1
        exact e1
      go_wp2
      go_ret
      exact ⟨r, rfl, fun _ => hfin.out, by omega, hr1, HG.out⟩

def wtSession (u : SessV) : Int := (u.mc.size : Int)
theorem wtSession_nn (u : SessV) : 0 ≤ wtSession u := by unfold wtSession; omega
set_option maxHeartbeats 1000000 in
theorem szSession_any (id : Int) (us : Int) (mc : ByteArray) (ip : Int) (be : Int) (la : Int) (ud : Int) (qu : Int) (un : Int) (il : Int) (l : Int) (w : World) (hmc : mc.size ≤ 9223372036854775807) (h0 : 0 ≤ l) (h1 : l ≤ 1048576) :
    Calls Tryz.prog 106 #[.agg #[.int .i64 id, .int .i64 us, .string mc, .int .i64 ip, .int .i64 be, .int .i64 la, .int .i64 ud, .int .i64 qu, .int .i64 un, .int .i64 il], .int .i64 l] w fun e w' => ∃ r : Int, e = .returned (.int .i64 r) ∧ (0 ≤ r → r = l - ((mc.size : Int))) ∧ -1 ≤ r ∧ r ≤ 1048576 ∧ Grw w w' := by
  by_cases hx0 : (mc.size : Int) ≤ l
  rotate_left
  · go_enter Tryz.func106, Tryz.ntmps106
    go_wp2
    go_ret
    exact ⟨-1, rfl, fun h => absurd h (by omega), by omega, by omega, (Grw.refl _).alloc _⟩
  go_enter Tryz.func106, Tryz.ntmps106
  go_wp2
  go_ret
  exact ⟨_, rfl, fun _ => by omega, by omega, by omega, (Grw.refl _).alloc _⟩

set_option maxHeartbeats 2000000 in
theorem szSessionS_any (a : Option Addr) (len cap : Nat) (xs : List SessV) (l : Int) (w : World) (h : Rw SeR 10 w a xs) (hl : xs.length = len) (hlm : len ≤ 9223372036854775807) (h0 : 0 ≤ l) (h1 : l ≤ 1048576) :
    Calls Tryz.prog 37 #[.slice a len cap, .int .i64 l] w fun e w' => ∃ r : Int, e = .returned (.int .i64 r) ∧ (0 ≤ r → r = l - len - szL wtSession xs) ∧ -1 ≤ r ∧ r ≤ 1048576 ∧ Grw w w' := by
  have RW : Hid (Rw SeR 10 w a xs) := h
  clear h
  by_cases hle : (len : Int) ≤ l
  rotate_left
  · go_enter Tryz.func37, Tryz.ntmps37
    go_wp2
    go_ret
    exact ⟨-1, rfl, fun h => absurd h (by omega), by omega, by omega, Grw.refl _⟩
  go_enter Tryz.func37, Tryz.ntmps37
  go_wp2
  go_loopw [1, 5] (fun p x wr => ∃ (k : Nat) (r : Int), k ≤ len ∧ x = .int .i64 k ∧ p = .int .i64 r ∧ 0 ≤ r ∧ r ≤ 1048576 ∧ Hid (r = l - len - szL wtSession (xs.take k)) ∧ Hid (Grw w wr)) (fun _ x _ => len - (intOf x).toNat)
  case atStart => exact ⟨0, l - len, Nat.zero_le _, rfl, rfl, by omega, by omega, by show l - len = l - len - 0; omega, Grw.refl _⟩
  case round =>
    obtain ⟨k, r, hk, rfl, rfl, hr0, hr1, HR, HG⟩ := hrel
    by_cases hlt : k < len
    · obtain ⟨x, hx⟩ := at_of hl hlt
      obtain ⟨b, off, vs, rfl, hb, hvl, hR, hc⟩ := RW.out.at SeR.kp HG.out.below hx
      have HS : Hid (szL wtSession (xs.take (k + 1)) = szL wtSession (xs.take k) + wtSession x) := szL_step xs k x hx
      obtain ⟨id, us, mc, ip, be, la, ud, qu, un, il⟩ := x
      obtain ⟨rfl, hok⟩ := hR
      have q0 : wr.cell? ⟨b, off + k * 10, none⟩ = some (.int .i64 id) := hc 0 _ rfl
      have q1 : wr.cell? ⟨b, off + k * 10 + 1, none⟩ = some (.int .i64 us) := hc 1 _ rfl
      have q2 : wr.cell? ⟨b, off + k * 10 + 2, none⟩ = some (.string mc) := hc 2 _ rfl
      have q3 : wr.cell? ⟨b, off + k * 10 + 3, none⟩ = some (.int .i64 ip) := hc 3 _ rfl
      have q4 : wr.cell? ⟨b, off + k * 10 + 4, none⟩ = some (.int .i64 be) := hc 4 _ rfl
      have q5 : wr.cell? ⟨b, off + k * 10 + 5, none⟩ = some (.int .i64 la) := hc 5 _ rfl
      have q6 : wr.cell? ⟨b, off + k * 10 + 6, none⟩ = some (.int .i64 ud) := hc 6 _ rfl
      have q7 : wr.cell? ⟨b, off + k * 10 + 7, none⟩ = some (.int .i64 qu) := hc 7 _ rfl
      have q8 : wr.cell? ⟨b, off + k * 10 + 8, none⟩ = some (.int .i64 un) := hc 8 _ rfl
      have q9 : wr.cell? ⟨b, off + k * 10 + 9, none⟩ = some (.int .i64 il) := hc 9 _ rfl
      have HN : Hid (∀ w, Calls Tryz.prog 106 #[.agg #[.int .i64 id, .int .i64 us, .string mc, .int .i64 ip, .int .i64 be, .int .i64 la, .int .i64 ud, .int .i64 qu, .int .i64 un, .int .i64 il], .int .i64 r] w fun e w' => ∃ r' : Int, e = .returned (.int .i64 r') ∧ (0 ≤ r' → r' = r - ((mc.size : Int))) ∧ -1 ≤ r' ∧ r' ≤ 1048576 ∧ Grw w w') := fun w => by
        unfold SeRok maxLen at hok; dsimp only at hok
        exact szSession_any id us mc ip be la ud qu un il r w (by omega) hr0 hr1
      have hltz : (k : Int) < (len : Int) := by omega
      clear hc hvl hx hok
      go_wp2_with fail
      refine (HN.out _).mono ?_
      rintro e w1 ⟨r', rfl, hr', hr2, hr3, g1⟩
      have HG1 : Hid (Grw w w1) := HG.out.trans g1
      clear q0 q1 q2 q3 q4 q5 q6 q7 q8 q9 HN g1 HG
      by_cases hneg : r' < 0
      · go_wp2
        go_ret
        exact ⟨-1, rfl, fun h => absurd h (by omega), by omega, by omega, HG1.out⟩
      · have HR' : Hid (r' = l - len - szL wtSession (xs.take (k + 1))) := by
          have e1 := HR.out
          have e2 : szL wtSession (xs.take (k + 1)) = szL wtSession (xs.take k) + ((mc.size : Int)) := HS.out
          have e3 := hr' (by omega)
          show r' = _
          rw [e2]
          omega
        clear HR HS hr'
        go_wp2
        go_roundw
        case rel => exact ⟨k + 1, r', by omega, by go_num, rfl, by omega, hr3, HR', HG1⟩
        case measure => simp [intOf]; omega
    · obtain rfl : k = len := by omega
      have hfin : Hid (r = l - k - szL wtSession xs) := by
        have e1 := HR.out
        rw [List.take_of_length_le (by omega)] at e1
        exact e1
      go_wp2
      go_ret
      exact ⟨r, rfl, fun _ => hfin.out, by omega, hr1, HG.out⟩

def wtFail (u : FailV) : Int := (u.mc.size : Int)
theorem wtFail_nn (u : FailV) : 0 ≤ wtFail u := by unfold wtFail; omega
set_option maxHeartbeats 1000000 in
theorem szFail_any (mc : ByteArray) (ct : Int) (un : Int) (l : Int) (w : World) (hmc : mc.size ≤ 9223372036854775807) (h0 : 0 ≤ l) (h1 : l ≤ 1048576) :
    Calls Tryz.prog 107 #[.agg #[.string mc, .int .i64 ct, .int .i64 un], .int .i64 l] w fun e w' => ∃ r : Int, e = .returned (.int .i64 r) ∧ (0 ≤ r → r = l - ((mc.size : Int))) ∧ -1 ≤ r ∧ r ≤ 1048576 ∧ Grw w w' := by
  by_cases hx0 : (mc.size : Int) ≤ l
  rotate_left
  · go_enter Tryz.func107, Tryz.ntmps107
    go_wp2
    go_ret
    exact ⟨-1, rfl, fun h => absurd h (by omega), by omega, by omega, (Grw.refl _).alloc _⟩
  go_enter Tryz.func107, Tryz.ntmps107
  go_wp2
  go_ret
  exact ⟨_, rfl, fun _ => by omega, by omega, by omega, (Grw.refl _).alloc _⟩

set_option maxHeartbeats 2000000 in
theorem szFailS_any (a : Option Addr) (len cap : Nat) (xs : List FailV) (l : Int) (w : World) (h : Rw FaR 3 w a xs) (hl : xs.length = len) (hlm : len ≤ 9223372036854775807) (h0 : 0 ≤ l) (h1 : l ≤ 1048576) :
    Calls Tryz.prog 38 #[.slice a len cap, .int .i64 l] w fun e w' => ∃ r : Int, e = .returned (.int .i64 r) ∧ (0 ≤ r → r = l - len - szL wtFail xs) ∧ -1 ≤ r ∧ r ≤ 1048576 ∧ Grw w w' := by
  have RW : Hid (Rw FaR 3 w a xs) := h
  clear h
  by_cases hle : (len : Int) ≤ l
  rotate_left
  · go_enter Tryz.func38, Tryz.ntmps38
    go_wp2
    go_ret
    exact ⟨-1, rfl, fun h => absurd h (by omega), by omega, by omega, Grw.refl _⟩
  go_enter Tryz.func38, Tryz.ntmps38
  go_wp2
  go_loopw [1, 5] (fun p x wr => ∃ (k : Nat) (r : Int), k ≤ len ∧ x = .int .i64 k ∧ p = .int .i64 r ∧ 0 ≤ r ∧ r ≤ 1048576 ∧ Hid (r = l - len - szL wtFail (xs.take k)) ∧ Hid (Grw w wr)) (fun _ x _ => len - (intOf x).toNat)
  case atStart => exact ⟨0, l - len, Nat.zero_le _, rfl, rfl, by omega, by omega, by show l - len = l - len - 0; omega, Grw.refl _⟩
  case round =>
    obtain ⟨k, r, hk, rfl, rfl, hr0, hr1, HR, HG⟩ := hrel
    by_cases hlt : k < len
    · obtain ⟨x, hx⟩ := at_of hl hlt
      obtain ⟨b, off, vs, rfl, hb, hvl, hR, hc⟩ := RW.out.at FaR.kp HG.out.below hx
      have HS : Hid (szL wtFail (xs.take (k + 1)) = szL wtFail (xs.take k) + wtFail x) := szL_step xs k x hx
      obtain ⟨mc, ct, un⟩ := x
      obtain ⟨rfl, hok⟩ := hR
      have q0 : wr.cell? ⟨b, off + k * 3, none⟩ = some (.string mc) := hc 0 _ rfl
      have q1 : wr.cell? ⟨b, off + k * 3 + 1, none⟩ = some (.int .i64 ct) := hc 1 _ rfl
      have q2 : wr.cell? ⟨b, off + k * 3 + 2, none⟩ = some (.int .i64 un) := hc 2 _ rfl
      have HN : Hid (∀ w, Calls Tryz.prog 107 #[.agg #[.string mc, .int .i64 ct, .int .i64 un], .int .i64 r] w fun e w' => ∃ r' : Int, e = .returned (.int .i64 r') ∧ (0 ≤ r' → r' = r - ((mc.size : Int))) ∧ -1 ≤ r' ∧ r' ≤ 1048576 ∧ Grw w w') := fun w => by
        unfold FaRok maxLen at hok; dsimp only at hok
        exact szFail_any mc ct un r w (by omega) hr0 hr1
      have hltz : (k : Int) < (len : Int) := by omega
      clear hc hvl hx hok
      go_wp2_with fail
      refine (HN.out _).mono ?_
      rintro e w1 ⟨r', rfl, hr', hr2, hr3, g1⟩
      have HG1 : Hid (Grw w w1) := HG.out.trans g1
      clear q0 q1 q2 HN g1 HG
      by_cases hneg : r' < 0
      · go_wp2
        go_ret
        exact ⟨-1, rfl, fun h => absurd h (by omega), by omega, by omega, HG1.out⟩
      · have HR' : Hid (r' = l - len - szL wtFail (xs.take (k + 1))) := by
          have e1 := HR.out
          have e2 : szL wtFail (xs.take (k + 1)) = szL wtFail (xs.take k) + ((mc.size : Int)) := HS.out
          have e3 := hr' (by omega)
          show r' = _
          rw [e2]
          omega
        clear HR HS hr'
        go_wp2
        go_roundw
        case rel => exact ⟨k + 1, r', by omega, by go_num, rfl, by omega, hr3, HR', HG1⟩
        case measure => simp [intOf]; omega
    · obtain rfl : k = len := by omega
      have hfin : Hid (r = l - k - szL wtFail xs) := by
        have e1 := HR.out
        rw [List.take_of_length_le (by omega)] at e1
        exact e1
      go_wp2
      go_ret
      exact ⟨r, rfl, fun _ => hfin.out, by omega, hr1, HG.out⟩

set_option maxHeartbeats 4000000 in
theorem szGuests_any (ua sa fa ra : Option Addr) (ul uc sl sc fl fc rl rc : Nat) (us : List UserV) (ss : List SessV) (fs : List FailV) (rs : List RecV) (nx : Int) (l : Int) (w : World) (hu : Rw UsR 6 w ua us) (lu : us.length = ul) (hs : Rw SeR 10 w sa ss) (ls : ss.length = sl) (hf : Rw FaR 3 w fa fs) (lf : fs.length = fl) (hr : Rw ReR 5 w ra rs) (lr : rs.length = rl) (bu : ul ≤ 9223372036854775807) (bs : sl ≤ 9223372036854775807) (bf : fl ≤ 9223372036854775807) (br : rl ≤ 9223372036854775807) (h0 : 0 ≤ l) (h1 : l ≤ 1048576) :
    Calls Tryz.prog 9 #[.agg #[.slice ua ul uc, .slice sa sl sc, .slice fa fl fc, .slice ra rl rc, .int .i64 nx], .int .i64 l] w fun e w' => ∃ r : Int, e = .returned (.int .i64 r) ∧ (0 ≤ r → ((ul : Int) + szL wtUser us + sl + szL wtSession ss + fl + szL wtFail fs + rl) ≤ l) ∧ -1 ≤ r ∧ r ≤ 1048576 ∧ Grw w w' := by
  have Ru : Hid (Rw UsR 6 w ua us) := hu
  have Rs : Hid (Rw SeR 10 w sa ss) := hs
  have Rf : Hid (Rw FaR 3 w fa fs) := hf
  have Rr : Hid (Rw ReR 5 w ra rs) := hr
  clear hu hs hf hr
  have Hu : Hid (∀ (l : Int) w, Rw UsR 6 w ua us → 0 ≤ l → l ≤ 1048576 → Calls Tryz.prog 36 #[.slice ua ul uc, .int .i64 l] w fun e w' => ∃ r : Int, e = .returned (.int .i64 r) ∧ (0 ≤ r → r = l - ul - szL wtUser us) ∧ -1 ≤ r ∧ r ≤ 1048576 ∧ Grw w w') := fun l w h h0 h1 => szUserS_any ua ul uc us l w h lu bu h0 h1
  have Hs : Hid (∀ (l : Int) w, Rw SeR 10 w sa ss → 0 ≤ l → l ≤ 1048576 → Calls Tryz.prog 37 #[.slice sa sl sc, .int .i64 l] w fun e w' => ∃ r : Int, e = .returned (.int .i64 r) ∧ (0 ≤ r → r = l - sl - szL wtSession ss) ∧ -1 ≤ r ∧ r ≤ 1048576 ∧ Grw w w') := fun l w h h0 h1 => szSessionS_any sa sl sc ss l w h ls bs h0 h1
  have Hf : Hid (∀ (l : Int) w, Rw FaR 3 w fa fs → 0 ≤ l → l ≤ 1048576 → Calls Tryz.prog 38 #[.slice fa fl fc, .int .i64 l] w fun e w' => ∃ r : Int, e = .returned (.int .i64 r) ∧ (0 ≤ r → r = l - fl - szL wtFail fs) ∧ -1 ≤ r ∧ r ≤ 1048576 ∧ Grw w w') := fun l w h h0 h1 => szFailS_any fa fl fc fs l w h lf bf h0 h1
  have Hr : Hid (∀ (l : Int) w, 0 ≤ l → l ≤ 1048576 → Calls Tryz.prog 39 #[.slice ra rl rc, .int .i64 l] w fun e w' => ∃ r : Int, e = .returned (.int .i64 r) ∧ (0 ≤ r → (rl : Int) ≤ l) ∧ -1 ≤ r ∧ r ≤ 1048576 ∧ w' = w) := fun l w h0 h1 => szRecordS_any ra rl rc l w br h0 h1
  go_enter Tryz.func9, Tryz.ntmps9
  go_wp2_with fail
  refine (Hu.out l _ (Ru.out.keep UsR.kp ((Grw.refl w).alloc _).below) (by omega) (by omega)).mono ?_
  rintro e w0 ⟨r0, rfl, hr0, hn0, hm0, g0⟩
  have BX0 : Hid (Grw w w0) := ((Grw.refl w).alloc _).trans g0
  have c0_0 : w0.cell? ⟨w.heap.size, 0, none⟩ = some (.slice ua ul uc) := g0.keep (a := ⟨w.heap.size, 0, none⟩) (v := .slice ua ul uc) (by simp [go_sem])
  have c0_1 : w0.cell? ⟨w.heap.size, 1, none⟩ = some (.slice sa sl sc) := g0.keep (a := ⟨w.heap.size, 1, none⟩) (v := .slice sa sl sc) (by simp [go_sem])
  have c0_2 : w0.cell? ⟨w.heap.size, 2, none⟩ = some (.slice fa fl fc) := g0.keep (a := ⟨w.heap.size, 2, none⟩) (v := .slice fa fl fc) (by simp [go_sem])
  have c0_3 : w0.cell? ⟨w.heap.size, 3, none⟩ = some (.slice ra rl rc) := g0.keep (a := ⟨w.heap.size, 3, none⟩) (v := .slice ra rl rc) (by simp [go_sem])
  have c0_4 : w0.cell? ⟨w.heap.size, 4, none⟩ = some (.int .i64 nx) := g0.keep (a := ⟨w.heap.size, 4, none⟩) (v := .int .i64 nx) (by simp [go_sem])
  clear g0
  by_cases hz0 : r0 < 0
  · go_wp2
    go_ret
    exact ⟨-1, rfl, fun h => absurd h (by omega), by omega, by omega, BX0.out⟩
  have E0 : Hid (r0 = l - ul - szL wtUser us) := hr0 (by omega)
  clear hr0
  go_wp2_with fail
  refine (Hs.out r0 _ (Rs.out.keep SeR.kp BX0.out.below) (by omega) (by omega)).mono ?_
  rintro e w1 ⟨r1, rfl, hr1, hn1, hm1, g1⟩
  have BX1 : Hid (Grw w w1) := BX0.out.trans g1
  have c1_0 := g1.keep c0_0
  have c1_1 := g1.keep c0_1
  have c1_2 := g1.keep c0_2
  have c1_3 := g1.keep c0_3
  have c1_4 := g1.keep c0_4
  clear g1 c0_0 c0_1 c0_2 c0_3 c0_4 BX0
  by_cases hz1 : r1 < 0
  · go_wp2
    go_ret
    exact ⟨-1, rfl, fun h => absurd h (by omega), by omega, by omega, BX1.out⟩
  have E1 : Hid (r1 = r0 - sl - szL wtSession ss) := hr1 (by omega)
  clear hr1
  go_wp2_with fail
  refine (Hf.out r1 _ (Rf.out.keep FaR.kp BX1.out.below) (by omega) (by omega)).mono ?_
  rintro e w2 ⟨r2, rfl, hr2, hn2, hm2, g2⟩
  have BX2 : Hid (Grw w w2) := BX1.out.trans g2
  have c2_0 := g2.keep c1_0
  have c2_1 := g2.keep c1_1
  have c2_2 := g2.keep c1_2
  have c2_3 := g2.keep c1_3
  have c2_4 := g2.keep c1_4
  clear g2 c1_0 c1_1 c1_2 c1_3 c1_4 BX1
  by_cases hz2 : r2 < 0
  · go_wp2
    go_ret
    exact ⟨-1, rfl, fun h => absurd h (by omega), by omega, by omega, BX2.out⟩
  have E2 : Hid (r2 = r1 - fl - szL wtFail fs) := hr2 (by omega)
  clear hr2
  go_wp2_with fail
  refine (Hr.out r2 _ (by omega) (by omega)).mono ?_
  rintro e w3 ⟨r3, rfl, hr3, hn3, hm3, rfl⟩
  by_cases hz3 : r3 < 0
  · go_wp2
    go_ret
    exact ⟨-1, rfl, fun h => absurd h (by omega), by omega, by omega, BX2.out⟩
  have E3 : Hid (((ul : Int) + szL wtUser us + sl + szL wtSession ss + fl + szL wtFail fs + rl) ≤ l) := by
    have a := hr3 (by omega)
    have b := E0.out
    have c := E1.out
    have d := E2.out
    show ((ul : Int) + szL wtUser us + sl + szL wtSession ss + fl + szL wtFail fs + rl) ≤ l
    omega
  clear hr3
  go_wp2
  go_ret
  exact ⟨r3, rfl, fun _ => E3.out, by omega, hm3, BX2.out⟩

set_option maxHeartbeats 4000000 in
theorem toGuests_any (ua sa fa ra : Option Addr) (ul uc sl sc fl fc rl rc : Nat) (us : List UserV) (ss : List SessV) (fs : List FailV) (rs : List RecV) (nx : Int) (w : World) (hu : Rw UsR 6 w ua us) (lu : us.length = ul) (hs : Rw SeR 10 w sa ss) (ls : ss.length = sl) (hf : Rw FaR 3 w fa fs) (lf : fs.length = fl) (hr : Rw ReR 5 w ra rs) (lr : rs.length = rl) (mu : ul ≤ 1048576) (ms : sl ≤ 1048576) (mf : fl ≤ 1048576) (mr : rl ≤ 1048576) :
    Calls Tryz.prog 12 #[.agg #[.slice ua ul uc, .slice sa sl sc, .slice fa fl fc, .slice ra rl rc, .int .i64 nx]] w fun e w' => ∃ bu bs bf br : Nat, e = .returned (.agg #[.slice (some ⟨bu, 0, none⟩) ul ul, .slice (some ⟨bs, 0, none⟩) sl sl, .slice (some ⟨bf, 0, none⟩) fl fl, .slice (some ⟨br, 0, none⟩) rl rl, .int .i64 nx]) ∧ (w.heap.size ≤ bu ∧ bu < bs ∧ bs < bf ∧ bf < br) ∧ (Rw UsR 6 w' (some ⟨bu, 0, none⟩) us ∧ Rw SeR 10 w' (some ⟨bs, 0, none⟩) ss ∧ Rw FaR 3 w' (some ⟨bf, 0, none⟩) fs ∧ Rw ReR 5 w' (some ⟨br, 0, none⟩) rs) ∧ Below w.heap.size w w' := by
  have Ru : Hid (Rw UsR 6 w ua us) := hu
  have Rs : Hid (Rw SeR 10 w sa ss) := hs
  have Rf : Hid (Rw FaR 3 w fa fs) := hf
  have Rr : Hid (Rw ReR 5 w ra rs) := hr
  have Hu : Hid (∀ w, Rw UsR 6 w ua us → Calls Tryz.prog 45 #[.slice ua ul uc] w fun e w' => e = .returned (.slice (some ⟨w.heap.size, 0, none⟩) ul ul) ∧ Rw UsR 6 w' (some ⟨w.heap.size, 0, none⟩) us ∧ w.heap.size < w'.heap.size ∧ Below w.heap.size w w') := fun w h => toUserS_any ua ul uc us w h lu mu
  have Hs : Hid (∀ w, Rw SeR 10 w sa ss → Calls Tryz.prog 46 #[.slice sa sl sc] w fun e w' => e = .returned (.slice (some ⟨w.heap.size, 0, none⟩) sl sl) ∧ Rw SeR 10 w' (some ⟨w.heap.size, 0, none⟩) ss ∧ w.heap.size < w'.heap.size ∧ Below w.heap.size w w') := fun w h => toSessionS_any sa sl sc ss w h ls ms
  have Hf : Hid (∀ w, Rw FaR 3 w fa fs → Calls Tryz.prog 47 #[.slice fa fl fc] w fun e w' => e = .returned (.slice (some ⟨w.heap.size, 0, none⟩) fl fl) ∧ Rw FaR 3 w' (some ⟨w.heap.size, 0, none⟩) fs ∧ w.heap.size < w'.heap.size ∧ Below w.heap.size w w') := fun w h => toFailS_any fa fl fc fs w h lf mf
  have Hr : Hid (∀ w, Rw ReR 5 w ra rs → Calls Tryz.prog 48 #[.slice ra rl rc] w fun e w' => e = .returned (.slice (some ⟨w.heap.size, 0, none⟩) rl rl) ∧ Rw ReR 5 w' (some ⟨w.heap.size, 0, none⟩) rs ∧ w.heap.size < w'.heap.size ∧ Below w.heap.size w w') := fun w h => toRecordS_any ra rl rc rs w h lr mr
  clear hu hs hf hr
  go_enter Tryz.func12, Tryz.ntmps12
  go_wp2_with fail
  refine (Hu.out _ (Ru.out.keep UsR.kp ((((Below.refl w.heap.size w).alloc (by simp <;> omega) _).alloc (by simp <;> omega) _).alloc (by simp <;> omega) _))).mono ?_
  rintro e wx1 ⟨rfl, hp, hz, bx⟩
  have c1_0_0 : wx1.cell? ⟨w.heap.size, 0, none⟩ = some (.slice ua ul uc) := bkeep bx (by simp [go_sem])
  have c1_0_1 : wx1.cell? ⟨w.heap.size, 1, none⟩ = some (.slice sa sl sc) := bkeep bx (by simp [go_sem])
  have c1_0_2 : wx1.cell? ⟨w.heap.size, 2, none⟩ = some (.slice fa fl fc) := bkeep bx (by simp [go_sem])
  have c1_0_3 : wx1.cell? ⟨w.heap.size, 3, none⟩ = some (.slice ra rl rc) := bkeep bx (by simp [go_sem])
  have c1_0_4 : wx1.cell? ⟨w.heap.size, 4, none⟩ = some (.int .i64 nx) := bkeep bx (by simp [go_sem])
  have c1_1_0 : wx1.cell? ⟨w.heap.size + 1, 0, none⟩ = some (.slice none 0 0) := bkeep bx (by simp [go_sem])
  have f1_1_0 : wx1.frozen? ⟨w.heap.size + 1, 0, none⟩ = false := bthaw bx (v := .slice none 0 0) (by simp [go_sem]) (by simp [go_sem])
  have c1_1_1 : wx1.cell? ⟨w.heap.size + 1, 1, none⟩ = some (.slice none 0 0) := bkeep bx (by simp [go_sem])
  have f1_1_1 : wx1.frozen? ⟨w.heap.size + 1, 1, none⟩ = false := bthaw bx (v := .slice none 0 0) (by simp [go_sem]) (by simp [go_sem])
  have c1_1_2 : wx1.cell? ⟨w.heap.size + 1, 2, none⟩ = some (.slice none 0 0) := bkeep bx (by simp [go_sem])
  have f1_1_2 : wx1.frozen? ⟨w.heap.size + 1, 2, none⟩ = false := bthaw bx (v := .slice none 0 0) (by simp [go_sem]) (by simp [go_sem])
  have c1_1_3 : wx1.cell? ⟨w.heap.size + 1, 3, none⟩ = some (.slice none 0 0) := bkeep bx (by simp [go_sem])
  have f1_1_3 : wx1.frozen? ⟨w.heap.size + 1, 3, none⟩ = false := bthaw bx (v := .slice none 0 0) (by simp [go_sem]) (by simp [go_sem])
  have c1_1_4 : wx1.cell? ⟨w.heap.size + 1, 4, none⟩ = some (.int .i64 0) := bkeep bx (by simp [go_sem])
  have f1_1_4 : wx1.frozen? ⟨w.heap.size + 1, 4, none⟩ = false := bthaw bx (v := .int .i64 0) (by simp [go_sem]) (by simp [go_sem])
  have c1_2_0 : wx1.cell? ⟨w.heap.size + 1 + 1, 0, none⟩ = some (.slice none 0 0) := bkeep bx (by simp [go_sem])
  have f1_2_0 : wx1.frozen? ⟨w.heap.size + 1 + 1, 0, none⟩ = false := bthaw bx (v := .slice none 0 0) (by simp [go_sem]) (by simp [go_sem])
  have c1_2_1 : wx1.cell? ⟨w.heap.size + 1 + 1, 1, none⟩ = some (.slice none 0 0) := bkeep bx (by simp [go_sem])
  have f1_2_1 : wx1.frozen? ⟨w.heap.size + 1 + 1, 1, none⟩ = false := bthaw bx (v := .slice none 0 0) (by simp [go_sem]) (by simp [go_sem])
  have c1_2_2 : wx1.cell? ⟨w.heap.size + 1 + 1, 2, none⟩ = some (.slice none 0 0) := bkeep bx (by simp [go_sem])
  have f1_2_2 : wx1.frozen? ⟨w.heap.size + 1 + 1, 2, none⟩ = false := bthaw bx (v := .slice none 0 0) (by simp [go_sem]) (by simp [go_sem])
  have c1_2_3 : wx1.cell? ⟨w.heap.size + 1 + 1, 3, none⟩ = some (.slice none 0 0) := bkeep bx (by simp [go_sem])
  have f1_2_3 : wx1.frozen? ⟨w.heap.size + 1 + 1, 3, none⟩ = false := bthaw bx (v := .slice none 0 0) (by simp [go_sem]) (by simp [go_sem])
  have c1_2_4 : wx1.cell? ⟨w.heap.size + 1 + 1, 4, none⟩ = some (.int .i64 0) := bkeep bx (by simp [go_sem])
  have f1_2_4 : wx1.frozen? ⟨w.heap.size + 1 + 1, 4, none⟩ = false := bthaw bx (v := .int .i64 0) (by simp [go_sem]) (by simp [go_sem])
  have BX1 : Hid (Below w.heap.size w wx1) := ((((Below.refl w.heap.size w).alloc (by simp <;> omega) _).alloc (by simp <;> omega) _).alloc (by simp <;> omega) _).trans (bx.mono (by simp <;> omega))
  clear bx
  simp [go_sem] at hp hz
  have P1_0 : Hid (Rw UsR 6 wx1 (some ⟨w.heap.size + 1 + 1 + 1, 0, none⟩) us) := hp
  clear hp
  have L1 : w.heap.size + 1 + 1 < wx1.heap.size := World.block_lt_of_cell? wx1 _ c1_2_0
  have LL1 : w.heap.size + 1 + 1 + 1 < wx1.heap.size := hz
  clear hz
  replace P1_0 : Hid (Rw UsR 6 (wx1.setCell ⟨w.heap.size + 1 + 1, 0, none⟩ (.slice (some ⟨w.heap.size + 1 + 1 + 1, 0, none⟩) ul ul)) (some ⟨w.heap.size + 1 + 1 + 1, 0, none⟩) us) := rw_off P1_0.out (fun _ _ _ _ h => h) (fun b off e => by cases e; show _ ≠ w.heap.size + 1 + 1; omega) _
  go_wp2_with fail
  refine (Hs.out _ (Rs.out.keep SeR.kp (BX1.out.setCell (p := ⟨w.heap.size + 1 + 1, _, _⟩) (by show w.heap.size ≤ w.heap.size + 1 + 1; omega) _))).mono ?_
  rintro e wx2 ⟨rfl, hp, hz, bx⟩
  have c2_0_0 : wx2.cell? ⟨w.heap.size, 0, none⟩ = some (.slice ua ul uc) := bkeep bx (by first | (simp [go_sem]; done) | simp [go_sem, c1_0_0])
  have c2_0_1 : wx2.cell? ⟨w.heap.size, 1, none⟩ = some (.slice sa sl sc) := bkeep bx (by first | (simp [go_sem]; done) | simp [go_sem, c1_0_1])
  have c2_0_2 : wx2.cell? ⟨w.heap.size, 2, none⟩ = some (.slice fa fl fc) := bkeep bx (by first | (simp [go_sem]; done) | simp [go_sem, c1_0_2])
  have c2_0_3 : wx2.cell? ⟨w.heap.size, 3, none⟩ = some (.slice ra rl rc) := bkeep bx (by first | (simp [go_sem]; done) | simp [go_sem, c1_0_3])
  have c2_0_4 : wx2.cell? ⟨w.heap.size, 4, none⟩ = some (.int .i64 nx) := bkeep bx (by first | (simp [go_sem]; done) | simp [go_sem, c1_0_4])
  have c2_1_0 : wx2.cell? ⟨w.heap.size + 1, 0, none⟩ = some (.slice none 0 0) := bkeep bx (by first | (simp [go_sem]; done) | simp [go_sem, c1_1_0])
  have f2_1_0 : wx2.frozen? ⟨w.heap.size + 1, 0, none⟩ = false := bthaw bx (v := .slice none 0 0) (by first | (simp [go_sem]; done) | simp [go_sem, c1_1_0]) (by first | (simp [go_sem]; done) | simp [go_sem, f1_1_0])
  have c2_1_1 : wx2.cell? ⟨w.heap.size + 1, 1, none⟩ = some (.slice none 0 0) := bkeep bx (by first | (simp [go_sem]; done) | simp [go_sem, c1_1_1])
  have f2_1_1 : wx2.frozen? ⟨w.heap.size + 1, 1, none⟩ = false := bthaw bx (v := .slice none 0 0) (by first | (simp [go_sem]; done) | simp [go_sem, c1_1_1]) (by first | (simp [go_sem]; done) | simp [go_sem, f1_1_1])
  have c2_1_2 : wx2.cell? ⟨w.heap.size + 1, 2, none⟩ = some (.slice none 0 0) := bkeep bx (by first | (simp [go_sem]; done) | simp [go_sem, c1_1_2])
  have f2_1_2 : wx2.frozen? ⟨w.heap.size + 1, 2, none⟩ = false := bthaw bx (v := .slice none 0 0) (by first | (simp [go_sem]; done) | simp [go_sem, c1_1_2]) (by first | (simp [go_sem]; done) | simp [go_sem, f1_1_2])
  have c2_1_3 : wx2.cell? ⟨w.heap.size + 1, 3, none⟩ = some (.slice none 0 0) := bkeep bx (by first | (simp [go_sem]; done) | simp [go_sem, c1_1_3])
  have f2_1_3 : wx2.frozen? ⟨w.heap.size + 1, 3, none⟩ = false := bthaw bx (v := .slice none 0 0) (by first | (simp [go_sem]; done) | simp [go_sem, c1_1_3]) (by first | (simp [go_sem]; done) | simp [go_sem, f1_1_3])
  have c2_1_4 : wx2.cell? ⟨w.heap.size + 1, 4, none⟩ = some (.int .i64 0) := bkeep bx (by first | (simp [go_sem]; done) | simp [go_sem, c1_1_4])
  have f2_1_4 : wx2.frozen? ⟨w.heap.size + 1, 4, none⟩ = false := bthaw bx (v := .int .i64 0) (by first | (simp [go_sem]; done) | simp [go_sem, c1_1_4]) (by first | (simp [go_sem]; done) | simp [go_sem, f1_1_4])
  have c2_2_0 : wx2.cell? ⟨w.heap.size + 1 + 1, 0, none⟩ = some (.slice (some ⟨w.heap.size + 1 + 1 + 1, 0, none⟩) ul ul) := bkeep bx (by first | (simp [go_sem]; done) | simp [go_sem, c1_2_0])
  have f2_2_0 : wx2.frozen? ⟨w.heap.size + 1 + 1, 0, none⟩ = false := bthaw bx (v := .slice (some ⟨w.heap.size + 1 + 1 + 1, 0, none⟩) ul ul) (by first | (simp [go_sem]; done) | simp [go_sem, c1_2_0]) (by first | (simp [go_sem]; done) | simp [go_sem, f1_2_0])
  have c2_2_1 : wx2.cell? ⟨w.heap.size + 1 + 1, 1, none⟩ = some (.slice none 0 0) := bkeep bx (by first | (simp [go_sem]; done) | simp [go_sem, c1_2_1])
  have f2_2_1 : wx2.frozen? ⟨w.heap.size + 1 + 1, 1, none⟩ = false := bthaw bx (v := .slice none 0 0) (by first | (simp [go_sem]; done) | simp [go_sem, c1_2_1]) (by first | (simp [go_sem]; done) | simp [go_sem, f1_2_1])
  have c2_2_2 : wx2.cell? ⟨w.heap.size + 1 + 1, 2, none⟩ = some (.slice none 0 0) := bkeep bx (by first | (simp [go_sem]; done) | simp [go_sem, c1_2_2])
  have f2_2_2 : wx2.frozen? ⟨w.heap.size + 1 + 1, 2, none⟩ = false := bthaw bx (v := .slice none 0 0) (by first | (simp [go_sem]; done) | simp [go_sem, c1_2_2]) (by first | (simp [go_sem]; done) | simp [go_sem, f1_2_2])
  have c2_2_3 : wx2.cell? ⟨w.heap.size + 1 + 1, 3, none⟩ = some (.slice none 0 0) := bkeep bx (by first | (simp [go_sem]; done) | simp [go_sem, c1_2_3])
  have f2_2_3 : wx2.frozen? ⟨w.heap.size + 1 + 1, 3, none⟩ = false := bthaw bx (v := .slice none 0 0) (by first | (simp [go_sem]; done) | simp [go_sem, c1_2_3]) (by first | (simp [go_sem]; done) | simp [go_sem, f1_2_3])
  have c2_2_4 : wx2.cell? ⟨w.heap.size + 1 + 1, 4, none⟩ = some (.int .i64 0) := bkeep bx (by first | (simp [go_sem]; done) | simp [go_sem, c1_2_4])
  have f2_2_4 : wx2.frozen? ⟨w.heap.size + 1 + 1, 4, none⟩ = false := bthaw bx (v := .int .i64 0) (by first | (simp [go_sem]; done) | simp [go_sem, c1_2_4]) (by first | (simp [go_sem]; done) | simp [go_sem, f1_2_4])
  have BX2 : Hid (Below w.heap.size w wx2) := (BX1.out.setCell (p := ⟨w.heap.size + 1 + 1, _, _⟩) (by show w.heap.size ≤ w.heap.size + 1 + 1; omega) _).trans (bx.mono (by have := BX1.out.size; simp <;> omega))
  have P2_0 : Hid (Rw UsR 6 wx2 (some ⟨w.heap.size + 1 + 1 + 1, 0, none⟩) us) := P1_0.out.keep UsR.kp bx
  clear bx c1_0_0 c1_0_1 c1_0_2 c1_0_3 c1_0_4 c1_1_0 c1_1_1 c1_1_2 c1_1_3 c1_1_4 c1_2_0 c1_2_1 c1_2_2 c1_2_3 c1_2_4 f1_1_0 f1_1_1 f1_1_2 f1_1_3 f1_1_4 f1_2_0 f1_2_1 f1_2_2 f1_2_3 f1_2_4 BX1
  simp [go_sem] at hp hz
  have P2_1 : Hid (Rw SeR 10 wx2 (some ⟨wx1.heap.size, 0, none⟩) ss) := hp
  clear hp
  clear P1_0
  have L2 : w.heap.size + 1 + 1 < wx2.heap.size := World.block_lt_of_cell? wx2 _ c2_2_0
  have LL2 : wx1.heap.size < wx2.heap.size := hz
  clear hz
  replace P2_0 : Hid (Rw UsR 6 (wx2.setCell ⟨w.heap.size + 1 + 1, 1, none⟩ (.slice (some ⟨wx1.heap.size, 0, none⟩) sl sl)) (some ⟨w.heap.size + 1 + 1 + 1, 0, none⟩) us) := rw_off P2_0.out (fun _ _ _ _ h => h) (fun b off e => by cases e; show _ ≠ w.heap.size + 1 + 1; omega) _
  replace P2_1 : Hid (Rw SeR 10 (wx2.setCell ⟨w.heap.size + 1 + 1, 1, none⟩ (.slice (some ⟨wx1.heap.size, 0, none⟩) sl sl)) (some ⟨wx1.heap.size, 0, none⟩) ss) := rw_off P2_1.out (fun _ _ _ _ h => h) (fun b off e => by cases e; show _ ≠ w.heap.size + 1 + 1; omega) _
  go_wp2_with fail
  refine (Hf.out _ (Rf.out.keep FaR.kp (BX2.out.setCell (p := ⟨w.heap.size + 1 + 1, _, _⟩) (by show w.heap.size ≤ w.heap.size + 1 + 1; omega) _))).mono ?_
  rintro e wx3 ⟨rfl, hp, hz, bx⟩
  have c3_0_0 : wx3.cell? ⟨w.heap.size, 0, none⟩ = some (.slice ua ul uc) := bkeep bx (by first | (simp [go_sem]; done) | simp [go_sem, c2_0_0])
  have c3_0_1 : wx3.cell? ⟨w.heap.size, 1, none⟩ = some (.slice sa sl sc) := bkeep bx (by first | (simp [go_sem]; done) | simp [go_sem, c2_0_1])
  have c3_0_2 : wx3.cell? ⟨w.heap.size, 2, none⟩ = some (.slice fa fl fc) := bkeep bx (by first | (simp [go_sem]; done) | simp [go_sem, c2_0_2])
  have c3_0_3 : wx3.cell? ⟨w.heap.size, 3, none⟩ = some (.slice ra rl rc) := bkeep bx (by first | (simp [go_sem]; done) | simp [go_sem, c2_0_3])
  have c3_0_4 : wx3.cell? ⟨w.heap.size, 4, none⟩ = some (.int .i64 nx) := bkeep bx (by first | (simp [go_sem]; done) | simp [go_sem, c2_0_4])
  have c3_1_0 : wx3.cell? ⟨w.heap.size + 1, 0, none⟩ = some (.slice none 0 0) := bkeep bx (by first | (simp [go_sem]; done) | simp [go_sem, c2_1_0])
  have f3_1_0 : wx3.frozen? ⟨w.heap.size + 1, 0, none⟩ = false := bthaw bx (v := .slice none 0 0) (by first | (simp [go_sem]; done) | simp [go_sem, c2_1_0]) (by first | (simp [go_sem]; done) | simp [go_sem, f2_1_0])
  have c3_1_1 : wx3.cell? ⟨w.heap.size + 1, 1, none⟩ = some (.slice none 0 0) := bkeep bx (by first | (simp [go_sem]; done) | simp [go_sem, c2_1_1])
  have f3_1_1 : wx3.frozen? ⟨w.heap.size + 1, 1, none⟩ = false := bthaw bx (v := .slice none 0 0) (by first | (simp [go_sem]; done) | simp [go_sem, c2_1_1]) (by first | (simp [go_sem]; done) | simp [go_sem, f2_1_1])
  have c3_1_2 : wx3.cell? ⟨w.heap.size + 1, 2, none⟩ = some (.slice none 0 0) := bkeep bx (by first | (simp [go_sem]; done) | simp [go_sem, c2_1_2])
  have f3_1_2 : wx3.frozen? ⟨w.heap.size + 1, 2, none⟩ = false := bthaw bx (v := .slice none 0 0) (by first | (simp [go_sem]; done) | simp [go_sem, c2_1_2]) (by first | (simp [go_sem]; done) | simp [go_sem, f2_1_2])
  have c3_1_3 : wx3.cell? ⟨w.heap.size + 1, 3, none⟩ = some (.slice none 0 0) := bkeep bx (by first | (simp [go_sem]; done) | simp [go_sem, c2_1_3])
  have f3_1_3 : wx3.frozen? ⟨w.heap.size + 1, 3, none⟩ = false := bthaw bx (v := .slice none 0 0) (by first | (simp [go_sem]; done) | simp [go_sem, c2_1_3]) (by first | (simp [go_sem]; done) | simp [go_sem, f2_1_3])
  have c3_1_4 : wx3.cell? ⟨w.heap.size + 1, 4, none⟩ = some (.int .i64 0) := bkeep bx (by first | (simp [go_sem]; done) | simp [go_sem, c2_1_4])
  have f3_1_4 : wx3.frozen? ⟨w.heap.size + 1, 4, none⟩ = false := bthaw bx (v := .int .i64 0) (by first | (simp [go_sem]; done) | simp [go_sem, c2_1_4]) (by first | (simp [go_sem]; done) | simp [go_sem, f2_1_4])
  have c3_2_0 : wx3.cell? ⟨w.heap.size + 1 + 1, 0, none⟩ = some (.slice (some ⟨w.heap.size + 1 + 1 + 1, 0, none⟩) ul ul) := bkeep bx (by first | (simp [go_sem]; done) | simp [go_sem, c2_2_0])
  have f3_2_0 : wx3.frozen? ⟨w.heap.size + 1 + 1, 0, none⟩ = false := bthaw bx (v := .slice (some ⟨w.heap.size + 1 + 1 + 1, 0, none⟩) ul ul) (by first | (simp [go_sem]; done) | simp [go_sem, c2_2_0]) (by first | (simp [go_sem]; done) | simp [go_sem, f2_2_0])
  have c3_2_1 : wx3.cell? ⟨w.heap.size + 1 + 1, 1, none⟩ = some (.slice (some ⟨wx1.heap.size, 0, none⟩) sl sl) := bkeep bx (by first | (simp [go_sem]; done) | simp [go_sem, c2_2_1])
  have f3_2_1 : wx3.frozen? ⟨w.heap.size + 1 + 1, 1, none⟩ = false := bthaw bx (v := .slice (some ⟨wx1.heap.size, 0, none⟩) sl sl) (by first | (simp [go_sem]; done) | simp [go_sem, c2_2_1]) (by first | (simp [go_sem]; done) | simp [go_sem, f2_2_1])
  have c3_2_2 : wx3.cell? ⟨w.heap.size + 1 + 1, 2, none⟩ = some (.slice none 0 0) := bkeep bx (by first | (simp [go_sem]; done) | simp [go_sem, c2_2_2])
  have f3_2_2 : wx3.frozen? ⟨w.heap.size + 1 + 1, 2, none⟩ = false := bthaw bx (v := .slice none 0 0) (by first | (simp [go_sem]; done) | simp [go_sem, c2_2_2]) (by first | (simp [go_sem]; done) | simp [go_sem, f2_2_2])
  have c3_2_3 : wx3.cell? ⟨w.heap.size + 1 + 1, 3, none⟩ = some (.slice none 0 0) := bkeep bx (by first | (simp [go_sem]; done) | simp [go_sem, c2_2_3])
  have f3_2_3 : wx3.frozen? ⟨w.heap.size + 1 + 1, 3, none⟩ = false := bthaw bx (v := .slice none 0 0) (by first | (simp [go_sem]; done) | simp [go_sem, c2_2_3]) (by first | (simp [go_sem]; done) | simp [go_sem, f2_2_3])
  have c3_2_4 : wx3.cell? ⟨w.heap.size + 1 + 1, 4, none⟩ = some (.int .i64 0) := bkeep bx (by first | (simp [go_sem]; done) | simp [go_sem, c2_2_4])
  have f3_2_4 : wx3.frozen? ⟨w.heap.size + 1 + 1, 4, none⟩ = false := bthaw bx (v := .int .i64 0) (by first | (simp [go_sem]; done) | simp [go_sem, c2_2_4]) (by first | (simp [go_sem]; done) | simp [go_sem, f2_2_4])
  have BX3 : Hid (Below w.heap.size w wx3) := (BX2.out.setCell (p := ⟨w.heap.size + 1 + 1, _, _⟩) (by show w.heap.size ≤ w.heap.size + 1 + 1; omega) _).trans (bx.mono (by have := BX2.out.size; simp <;> omega))
  have P3_1 : Hid (Rw SeR 10 wx3 (some ⟨wx1.heap.size, 0, none⟩) ss) := P2_1.out.keep SeR.kp bx
  have P3_0 : Hid (Rw UsR 6 wx3 (some ⟨w.heap.size + 1 + 1 + 1, 0, none⟩) us) := P2_0.out.keep UsR.kp bx
  clear bx c2_0_0 c2_0_1 c2_0_2 c2_0_3 c2_0_4 c2_1_0 c2_1_1 c2_1_2 c2_1_3 c2_1_4 c2_2_0 c2_2_1 c2_2_2 c2_2_3 c2_2_4 f2_1_0 f2_1_1 f2_1_2 f2_1_3 f2_1_4 f2_2_0 f2_2_1 f2_2_2 f2_2_3 f2_2_4 BX2
  simp [go_sem] at hp hz
  have P3_2 : Hid (Rw FaR 3 wx3 (some ⟨wx2.heap.size, 0, none⟩) fs) := hp
  clear hp
  clear P2_0 P2_1
  have L3 : w.heap.size + 1 + 1 < wx3.heap.size := World.block_lt_of_cell? wx3 _ c3_2_0
  have LL3 : wx2.heap.size < wx3.heap.size := hz
  clear hz
  replace P3_0 : Hid (Rw UsR 6 (wx3.setCell ⟨w.heap.size + 1 + 1, 2, none⟩ (.slice (some ⟨wx2.heap.size, 0, none⟩) fl fl)) (some ⟨w.heap.size + 1 + 1 + 1, 0, none⟩) us) := rw_off P3_0.out (fun _ _ _ _ h => h) (fun b off e => by cases e; show _ ≠ w.heap.size + 1 + 1; omega) _
  replace P3_1 : Hid (Rw SeR 10 (wx3.setCell ⟨w.heap.size + 1 + 1, 2, none⟩ (.slice (some ⟨wx2.heap.size, 0, none⟩) fl fl)) (some ⟨wx1.heap.size, 0, none⟩) ss) := rw_off P3_1.out (fun _ _ _ _ h => h) (fun b off e => by cases e; show _ ≠ w.heap.size + 1 + 1; omega) _
  replace P3_2 : Hid (Rw FaR 3 (wx3.setCell ⟨w.heap.size + 1 + 1, 2, none⟩ (.slice (some ⟨wx2.heap.size, 0, none⟩) fl fl)) (some ⟨wx2.heap.size, 0, none⟩) fs) := rw_off P3_2.out (fun _ _ _ _ h => h) (fun b off e => by cases e; show _ ≠ w.heap.size + 1 + 1; omega) _
  go_wp2_with fail
  refine (Hr.out _ (Rr.out.keep ReR.kp (BX3.out.setCell (p := ⟨w.heap.size + 1 + 1, _, _⟩) (by show w.heap.size ≤ w.heap.size + 1 + 1; omega) _))).mono ?_
  rintro e wx4 ⟨rfl, hp, hz, bx⟩
  have c4_0_0 : wx4.cell? ⟨w.heap.size, 0, none⟩ = some (.slice ua ul uc) := bkeep bx (by first | (simp [go_sem]; done) | simp [go_sem, c3_0_0])
  have c4_0_1 : wx4.cell? ⟨w.heap.size, 1, none⟩ = some (.slice sa sl sc) := bkeep bx (by first | (simp [go_sem]; done) | simp [go_sem, c3_0_1])
  have c4_0_2 : wx4.cell? ⟨w.heap.size, 2, none⟩ = some (.slice fa fl fc) := bkeep bx (by first | (simp [go_sem]; done) | simp [go_sem, c3_0_2])
  have c4_0_3 : wx4.cell? ⟨w.heap.size, 3, none⟩ = some (.slice ra rl rc) := bkeep bx (by first | (simp [go_sem]; done) | simp [go_sem, c3_0_3])
  have c4_0_4 : wx4.cell? ⟨w.heap.size, 4, none⟩ = some (.int .i64 nx) := bkeep bx (by first | (simp [go_sem]; done) | simp [go_sem, c3_0_4])
  have c4_1_0 : wx4.cell? ⟨w.heap.size + 1, 0, none⟩ = some (.slice none 0 0) := bkeep bx (by first | (simp [go_sem]; done) | simp [go_sem, c3_1_0])
  have f4_1_0 : wx4.frozen? ⟨w.heap.size + 1, 0, none⟩ = false := bthaw bx (v := .slice none 0 0) (by first | (simp [go_sem]; done) | simp [go_sem, c3_1_0]) (by first | (simp [go_sem]; done) | simp [go_sem, f3_1_0])
  have c4_1_1 : wx4.cell? ⟨w.heap.size + 1, 1, none⟩ = some (.slice none 0 0) := bkeep bx (by first | (simp [go_sem]; done) | simp [go_sem, c3_1_1])
  have f4_1_1 : wx4.frozen? ⟨w.heap.size + 1, 1, none⟩ = false := bthaw bx (v := .slice none 0 0) (by first | (simp [go_sem]; done) | simp [go_sem, c3_1_1]) (by first | (simp [go_sem]; done) | simp [go_sem, f3_1_1])
  have c4_1_2 : wx4.cell? ⟨w.heap.size + 1, 2, none⟩ = some (.slice none 0 0) := bkeep bx (by first | (simp [go_sem]; done) | simp [go_sem, c3_1_2])
  have f4_1_2 : wx4.frozen? ⟨w.heap.size + 1, 2, none⟩ = false := bthaw bx (v := .slice none 0 0) (by first | (simp [go_sem]; done) | simp [go_sem, c3_1_2]) (by first | (simp [go_sem]; done) | simp [go_sem, f3_1_2])
  have c4_1_3 : wx4.cell? ⟨w.heap.size + 1, 3, none⟩ = some (.slice none 0 0) := bkeep bx (by first | (simp [go_sem]; done) | simp [go_sem, c3_1_3])
  have f4_1_3 : wx4.frozen? ⟨w.heap.size + 1, 3, none⟩ = false := bthaw bx (v := .slice none 0 0) (by first | (simp [go_sem]; done) | simp [go_sem, c3_1_3]) (by first | (simp [go_sem]; done) | simp [go_sem, f3_1_3])
  have c4_1_4 : wx4.cell? ⟨w.heap.size + 1, 4, none⟩ = some (.int .i64 0) := bkeep bx (by first | (simp [go_sem]; done) | simp [go_sem, c3_1_4])
  have f4_1_4 : wx4.frozen? ⟨w.heap.size + 1, 4, none⟩ = false := bthaw bx (v := .int .i64 0) (by first | (simp [go_sem]; done) | simp [go_sem, c3_1_4]) (by first | (simp [go_sem]; done) | simp [go_sem, f3_1_4])
  have c4_2_0 : wx4.cell? ⟨w.heap.size + 1 + 1, 0, none⟩ = some (.slice (some ⟨w.heap.size + 1 + 1 + 1, 0, none⟩) ul ul) := bkeep bx (by first | (simp [go_sem]; done) | simp [go_sem, c3_2_0])
  have f4_2_0 : wx4.frozen? ⟨w.heap.size + 1 + 1, 0, none⟩ = false := bthaw bx (v := .slice (some ⟨w.heap.size + 1 + 1 + 1, 0, none⟩) ul ul) (by first | (simp [go_sem]; done) | simp [go_sem, c3_2_0]) (by first | (simp [go_sem]; done) | simp [go_sem, f3_2_0])
  have c4_2_1 : wx4.cell? ⟨w.heap.size + 1 + 1, 1, none⟩ = some (.slice (some ⟨wx1.heap.size, 0, none⟩) sl sl) := bkeep bx (by first | (simp [go_sem]; done) | simp [go_sem, c3_2_1])
  have f4_2_1 : wx4.frozen? ⟨w.heap.size + 1 + 1, 1, none⟩ = false := bthaw bx (v := .slice (some ⟨wx1.heap.size, 0, none⟩) sl sl) (by first | (simp [go_sem]; done) | simp [go_sem, c3_2_1]) (by first | (simp [go_sem]; done) | simp [go_sem, f3_2_1])
  have c4_2_2 : wx4.cell? ⟨w.heap.size + 1 + 1, 2, none⟩ = some (.slice (some ⟨wx2.heap.size, 0, none⟩) fl fl) := bkeep bx (by first | (simp [go_sem]; done) | simp [go_sem, c3_2_2])
  have f4_2_2 : wx4.frozen? ⟨w.heap.size + 1 + 1, 2, none⟩ = false := bthaw bx (v := .slice (some ⟨wx2.heap.size, 0, none⟩) fl fl) (by first | (simp [go_sem]; done) | simp [go_sem, c3_2_2]) (by first | (simp [go_sem]; done) | simp [go_sem, f3_2_2])
  have c4_2_3 : wx4.cell? ⟨w.heap.size + 1 + 1, 3, none⟩ = some (.slice none 0 0) := bkeep bx (by first | (simp [go_sem]; done) | simp [go_sem, c3_2_3])
  have f4_2_3 : wx4.frozen? ⟨w.heap.size + 1 + 1, 3, none⟩ = false := bthaw bx (v := .slice none 0 0) (by first | (simp [go_sem]; done) | simp [go_sem, c3_2_3]) (by first | (simp [go_sem]; done) | simp [go_sem, f3_2_3])
  have c4_2_4 : wx4.cell? ⟨w.heap.size + 1 + 1, 4, none⟩ = some (.int .i64 0) := bkeep bx (by first | (simp [go_sem]; done) | simp [go_sem, c3_2_4])
  have f4_2_4 : wx4.frozen? ⟨w.heap.size + 1 + 1, 4, none⟩ = false := bthaw bx (v := .int .i64 0) (by first | (simp [go_sem]; done) | simp [go_sem, c3_2_4]) (by first | (simp [go_sem]; done) | simp [go_sem, f3_2_4])
  have BX4 : Hid (Below w.heap.size w wx4) := (BX3.out.setCell (p := ⟨w.heap.size + 1 + 1, _, _⟩) (by show w.heap.size ≤ w.heap.size + 1 + 1; omega) _).trans (bx.mono (by have := BX3.out.size; simp <;> omega))
  have P4_2 : Hid (Rw FaR 3 wx4 (some ⟨wx2.heap.size, 0, none⟩) fs) := P3_2.out.keep FaR.kp bx
  have P4_1 : Hid (Rw SeR 10 wx4 (some ⟨wx1.heap.size, 0, none⟩) ss) := P3_1.out.keep SeR.kp bx
  have P4_0 : Hid (Rw UsR 6 wx4 (some ⟨w.heap.size + 1 + 1 + 1, 0, none⟩) us) := P3_0.out.keep UsR.kp bx
  clear bx c3_0_0 c3_0_1 c3_0_2 c3_0_3 c3_0_4 c3_1_0 c3_1_1 c3_1_2 c3_1_3 c3_1_4 c3_2_0 c3_2_1 c3_2_2 c3_2_3 c3_2_4 f3_1_0 f3_1_1 f3_1_2 f3_1_3 f3_1_4 f3_2_0 f3_2_1 f3_2_2 f3_2_3 f3_2_4 BX3
  simp [go_sem] at hp hz
  have P4_3 : Hid (Rw ReR 5 wx4 (some ⟨wx3.heap.size, 0, none⟩) rs) := hp
  clear hp
  clear P3_0 P3_1 P3_2
  have L4 : w.heap.size + 1 + 1 < wx4.heap.size := World.block_lt_of_cell? wx4 _ c4_2_0
  have LL4 : wx3.heap.size < wx4.heap.size := hz
  clear hz
  go_wp2
  (try simp only [Exit.inBlock, Exit.then])
  refine bodyPost_ret (v := .agg #[.slice (some ⟨w.heap.size + 1 + 1 + 1, 0, none⟩) ul ul, .slice (some ⟨wx1.heap.size, 0, none⟩) sl sl, .slice (some ⟨wx2.heap.size, 0, none⟩) fl fl, .slice (some ⟨wx3.heap.size, 0, none⟩) rl rl, .int .i64 nx]) (by simp [results, Tryz.results12, go_sem, c4_1_0, c4_1_1, c4_1_2, c4_1_3, c4_1_4]; try rfl) rfl ?_
  refine ⟨_, _, _, _, rfl, ⟨by omega, by omega, by omega, by omega⟩, ⟨?_, ?_, ?_, ?_⟩, (((((((BX4.out.setCell (p := ⟨w.heap.size + 1 + 1, _, _⟩) (by show w.heap.size ≤ w.heap.size + 1 + 1; omega) _).setCell (p := ⟨w.heap.size + 1 + 1, _, _⟩) (by show w.heap.size ≤ w.heap.size + 1 + 1; omega) _).setCell (p := ⟨w.heap.size + 1, _, _⟩) (by show w.heap.size ≤ w.heap.size + 1; omega) _).setCell (p := ⟨w.heap.size + 1, _, _⟩) (by show w.heap.size ≤ w.heap.size + 1; omega) _).setCell (p := ⟨w.heap.size + 1, _, _⟩) (by show w.heap.size ≤ w.heap.size + 1; omega) _).setCell (p := ⟨w.heap.size + 1, _, _⟩) (by show w.heap.size ≤ w.heap.size + 1; omega) _).setCell (p := ⟨w.heap.size + 1, _, _⟩) (by show w.heap.size ≤ w.heap.size + 1; omega) _)⟩
  · exact (rw_off (rw_off (rw_off (rw_off (rw_off (rw_off (rw_off P4_0.out (fun _ _ _ _ h => h) (fun b off e => by cases e; show _ ≠ w.heap.size + 1 + 1; omega) _) (fun _ _ _ _ h => h) (fun b off e => by cases e; show _ ≠ w.heap.size + 1 + 1; omega) _) (fun _ _ _ _ h => h) (fun b off e => by cases e; show _ ≠ w.heap.size + 1; omega) _) (fun _ _ _ _ h => h) (fun b off e => by cases e; show _ ≠ w.heap.size + 1; omega) _) (fun _ _ _ _ h => h) (fun b off e => by cases e; show _ ≠ w.heap.size + 1; omega) _) (fun _ _ _ _ h => h) (fun b off e => by cases e; show _ ≠ w.heap.size + 1; omega) _) (fun _ _ _ _ h => h) (fun b off e => by cases e; show _ ≠ w.heap.size + 1; omega) _)
  · exact (rw_off (rw_off (rw_off (rw_off (rw_off (rw_off (rw_off P4_1.out (fun _ _ _ _ h => h) (fun b off e => by cases e; show _ ≠ w.heap.size + 1 + 1; omega) _) (fun _ _ _ _ h => h) (fun b off e => by cases e; show _ ≠ w.heap.size + 1 + 1; omega) _) (fun _ _ _ _ h => h) (fun b off e => by cases e; show _ ≠ w.heap.size + 1; omega) _) (fun _ _ _ _ h => h) (fun b off e => by cases e; show _ ≠ w.heap.size + 1; omega) _) (fun _ _ _ _ h => h) (fun b off e => by cases e; show _ ≠ w.heap.size + 1; omega) _) (fun _ _ _ _ h => h) (fun b off e => by cases e; show _ ≠ w.heap.size + 1; omega) _) (fun _ _ _ _ h => h) (fun b off e => by cases e; show _ ≠ w.heap.size + 1; omega) _)
  · exact (rw_off (rw_off (rw_off (rw_off (rw_off (rw_off (rw_off P4_2.out (fun _ _ _ _ h => h) (fun b off e => by cases e; show _ ≠ w.heap.size + 1 + 1; omega) _) (fun _ _ _ _ h => h) (fun b off e => by cases e; show _ ≠ w.heap.size + 1 + 1; omega) _) (fun _ _ _ _ h => h) (fun b off e => by cases e; show _ ≠ w.heap.size + 1; omega) _) (fun _ _ _ _ h => h) (fun b off e => by cases e; show _ ≠ w.heap.size + 1; omega) _) (fun _ _ _ _ h => h) (fun b off e => by cases e; show _ ≠ w.heap.size + 1; omega) _) (fun _ _ _ _ h => h) (fun b off e => by cases e; show _ ≠ w.heap.size + 1; omega) _) (fun _ _ _ _ h => h) (fun b off e => by cases e; show _ ≠ w.heap.size + 1; omega) _)
  · exact (rw_off (rw_off (rw_off (rw_off (rw_off (rw_off (rw_off P4_3.out (fun _ _ _ _ h => h) (fun b off e => by cases e; show _ ≠ w.heap.size + 1 + 1; omega) _) (fun _ _ _ _ h => h) (fun b off e => by cases e; show _ ≠ w.heap.size + 1 + 1; omega) _) (fun _ _ _ _ h => h) (fun b off e => by cases e; show _ ≠ w.heap.size + 1; omega) _) (fun _ _ _ _ h => h) (fun b off e => by cases e; show _ ≠ w.heap.size + 1; omega) _) (fun _ _ _ _ h => h) (fun b off e => by cases e; show _ ≠ w.heap.size + 1; omega) _) (fun _ _ _ _ h => h) (fun b off e => by cases e; show _ ≠ w.heap.size + 1; omega) _) (fun _ _ _ _ h => h) (fun b off e => by cases e; show _ ≠ w.heap.size + 1; omega) _)

set_option maxHeartbeats 2000000 in
theorem eqGuests_yes (ua sa fa ra ub sb fb rb : Option Addr) (ul uc ud sl sc sd fl fc fd rl rc rd : Nat) (us : List UserV) (ss : List SessV) (fs : List FailV) (rs : List RecV) (nx : Int) (w : World) (hu : Rw UsR 6 w ua us) (ku : Rw UsR 6 w ub us) (lu : us.length = ul) (hs : Rw SeR 10 w sa ss) (ks : Rw SeR 10 w sb ss) (ls : ss.length = sl) (hf : Rw FaR 3 w fa fs) (kf : Rw FaR 3 w fb fs) (lf : fs.length = fl) (hr : Rw ReR 5 w ra rs) (kr : Rw ReR 5 w rb rs) (lr : rs.length = rl) (bu : ul ≤ 9223372036854775807) (bs : sl ≤ 9223372036854775807) (bf : fl ≤ 9223372036854775807) (br : rl ≤ 9223372036854775807) :
    Calls Tryz.prog 16 #[.agg #[.slice ua ul uc, .slice sa sl sc, .slice fa fl fc, .slice ra rl rc, .int .i64 nx], .agg #[.slice ub ul ud, .slice sb sl sd, .slice fb fl fd, .slice rb rl rd, .int .i64 nx]] w fun e w' => e = .returned (.bool true) ∧ Grw w w' := by
  have Ru : Hid (Rw UsR 6 w ua us ∧ Rw UsR 6 w ub us) := ⟨hu, ku⟩
  have Rs : Hid (Rw SeR 10 w sa ss ∧ Rw SeR 10 w sb ss) := ⟨hs, ks⟩
  have Rf : Hid (Rw FaR 3 w fa fs ∧ Rw FaR 3 w fb fs) := ⟨hf, kf⟩
  have Rr : Hid (Rw ReR 5 w ra rs ∧ Rw ReR 5 w rb rs) := ⟨hr, kr⟩
  have Hu : Hid (∀ w, Rw UsR 6 w ua us → Rw UsR 6 w ub us → Calls Tryz.prog 56 #[.slice ua ul uc, .slice ub ul ud] w fun e w' => e = .returned (.bool true) ∧ Grw w w') := fun w h h' => eqUserS_yes ua ub ul uc ud us w h h' lu bu
  have Hs : Hid (∀ w, Rw SeR 10 w sa ss → Rw SeR 10 w sb ss → Calls Tryz.prog 57 #[.slice sa sl sc, .slice sb sl sd] w fun e w' => e = .returned (.bool true) ∧ Grw w w') := fun w h h' => eqSessionS_yes sa sb sl sc sd ss w h h' ls bs
  have Hf : Hid (∀ w, Rw FaR 3 w fa fs → Rw FaR 3 w fb fs → Calls Tryz.prog 58 #[.slice fa fl fc, .slice fb fl fd] w fun e w' => e = .returned (.bool true) ∧ Grw w w') := fun w h h' => eqFailS_yes fa fb fl fc fd fs w h h' lf bf
  have Hr : Hid (∀ w, Rw ReR 5 w ra rs → Rw ReR 5 w rb rs → Calls Tryz.prog 59 #[.slice ra rl rc, .slice rb rl rd] w fun e w' => e = .returned (.bool true) ∧ Grw w w') := fun w h h' => eqRecordS_yes ra rb rl rc rd rs w h h' lr br
  clear hu hs hf hr ku ks kf kr
  have n0 : (nx != nx) = false := by simp
  go_enter Tryz.func16, Tryz.ntmps16
  go_wp2_with fail
  refine (Hu.out _ (Ru.out.1.keep UsR.kp (((Grw.refl w).alloc _).alloc _).below) (Ru.out.2.keep UsR.kp (((Grw.refl w).alloc _).alloc _).below)).mono ?_
  rintro e wx1 ⟨rfl, bx⟩
  have k0_0 : World.cell? _ ⟨w.heap.size, 0, none⟩ = some (.slice ua ul uc) := bx.keep (a := ⟨w.heap.size, 0, none⟩) (v := .slice ua ul uc) (by simp [go_sem])
  have k0_1 : World.cell? _ ⟨w.heap.size, 1, none⟩ = some (.slice sa sl sc) := bx.keep (a := ⟨w.heap.size, 1, none⟩) (v := .slice sa sl sc) (by simp [go_sem])
  have k0_2 : World.cell? _ ⟨w.heap.size, 2, none⟩ = some (.slice fa fl fc) := bx.keep (a := ⟨w.heap.size, 2, none⟩) (v := .slice fa fl fc) (by simp [go_sem])
  have k0_3 : World.cell? _ ⟨w.heap.size, 3, none⟩ = some (.slice ra rl rc) := bx.keep (a := ⟨w.heap.size, 3, none⟩) (v := .slice ra rl rc) (by simp [go_sem])
  have k0_4 : World.cell? _ ⟨w.heap.size, 4, none⟩ = some (.int .i64 nx) := bx.keep (a := ⟨w.heap.size, 4, none⟩) (v := .int .i64 nx) (by simp [go_sem])
  have k1_0 : World.cell? _ ⟨w.heap.size + 1, 0, none⟩ = some (.slice ub ul ud) := bx.keep (a := ⟨w.heap.size + 1, 0, none⟩) (v := .slice ub ul ud) (by simp [go_sem])
  have k1_1 : World.cell? _ ⟨w.heap.size + 1, 1, none⟩ = some (.slice sb sl sd) := bx.keep (a := ⟨w.heap.size + 1, 1, none⟩) (v := .slice sb sl sd) (by simp [go_sem])
  have k1_2 : World.cell? _ ⟨w.heap.size + 1, 2, none⟩ = some (.slice fb fl fd) := bx.keep (a := ⟨w.heap.size + 1, 2, none⟩) (v := .slice fb fl fd) (by simp [go_sem])
  have k1_3 : World.cell? _ ⟨w.heap.size + 1, 3, none⟩ = some (.slice rb rl rd) := bx.keep (a := ⟨w.heap.size + 1, 3, none⟩) (v := .slice rb rl rd) (by simp [go_sem])
  have k1_4 : World.cell? _ ⟨w.heap.size + 1, 4, none⟩ = some (.int .i64 nx) := bx.keep (a := ⟨w.heap.size + 1, 4, none⟩) (v := .int .i64 nx) (by simp [go_sem])
  have BX : Hid (Grw w _) := (((Grw.refl _).alloc _).alloc _).trans bx
  clear bx
  go_wp2_with fail
  refine (Hs.out _ (Rs.out.1.keep SeR.kp BX.out.below) (Rs.out.2.keep SeR.kp BX.out.below)).mono ?_
  rintro e wx2 ⟨rfl, bx⟩
  replace k0_0 := bx.keep k0_0
  replace k0_1 := bx.keep k0_1
  replace k0_2 := bx.keep k0_2
  replace k0_3 := bx.keep k0_3
  replace k0_4 := bx.keep k0_4
  replace k1_0 := bx.keep k1_0
  replace k1_1 := bx.keep k1_1
  replace k1_2 := bx.keep k1_2
  replace k1_3 := bx.keep k1_3
  replace k1_4 := bx.keep k1_4
  replace BX : Hid (Grw w _) := BX.out.trans bx
  clear bx
  go_wp2_with fail
  refine (Hf.out _ (Rf.out.1.keep FaR.kp BX.out.below) (Rf.out.2.keep FaR.kp BX.out.below)).mono ?_
  rintro e wx3 ⟨rfl, bx⟩
  replace k0_0 := bx.keep k0_0
  replace k0_1 := bx.keep k0_1
  replace k0_2 := bx.keep k0_2
  replace k0_3 := bx.keep k0_3
  replace k0_4 := bx.keep k0_4
  replace k1_0 := bx.keep k1_0
  replace k1_1 := bx.keep k1_1
  replace k1_2 := bx.keep k1_2
  replace k1_3 := bx.keep k1_3
  replace k1_4 := bx.keep k1_4
  replace BX : Hid (Grw w _) := BX.out.trans bx
  clear bx
  go_wp2_with fail
  refine (Hr.out _ (Rr.out.1.keep ReR.kp BX.out.below) (Rr.out.2.keep ReR.kp BX.out.below)).mono ?_
  rintro e wx4 ⟨rfl, bx⟩
  replace k0_0 := bx.keep k0_0
  replace k0_1 := bx.keep k0_1
  replace k0_2 := bx.keep k0_2
  replace k0_3 := bx.keep k0_3
  replace k0_4 := bx.keep k0_4
  replace k1_0 := bx.keep k1_0
  replace k1_1 := bx.keep k1_1
  replace k1_2 := bx.keep k1_2
  replace k1_3 := bx.keep k1_3
  replace k1_4 := bx.keep k1_4
  replace BX : Hid (Grw w _) := BX.out.trans bx
  clear bx
  go_wp2
  go_ret
  exact ⟨rfl, BX.out⟩

end Go.Proofs.YtlebblmlbhnppaaGreat
