/- Timers without one of an Id: l05Drop, timersWithout. -/
import Derived.Test.YtbbjelkicenbhaaPairT
import Derived.Test.YtbbjelkicenbhaaTimK
namespace Go.Proofs.Ytbbjelkicenbhaa
open Go.RowKit Go.PlainAid Go.Sort
set_option linter.unusedVariables false
set_option maxRecDepth 20000

/-- The first k without those of an Id. -/
def wo (zs : List (Int × Int)) (id : Int) (k : Nat) : List (Int × Int) := (zs.take k).filter (fun p => p.2 != id)
theorem wo_zero (zs : List (Int × Int)) (id : Int) : wo zs id 0 = [] := rfl
theorem take_next {zs : List (Int × Int)} {k : Nat} (hk : k < zs.length) : zs.take (k + 1) = zs.take k ++ [zs.getD k (0, 0)] := by
  rw [List.take_add_one, List.getD_eq_getElem?_getD, List.getElem?_eq_getElem hk]; rfl
theorem wo_keep {zs : List (Int × Int)} {id : Int} {k : Nat} (hk : k < zs.length) (h : (zs.getD k (0, 0)).2 ≠ id) : wo zs id (k + 1) = wo zs id k ++ [((zs.getD k (0, 0)).1, (zs.getD k (0, 0)).2)] := by
  unfold wo; rw [take_next hk, List.filter_append]
  have e : ((zs.getD k (0, 0)).2 != id) = true := by simpa using h
  simp only [List.filter_cons, e, List.filter_nil]
  rfl
theorem wo_drop {zs : List (Int × Int)} {id : Int} {k : Nat} (hk : k < zs.length) (h : (zs.getD k (0, 0)).2 = id) : wo zs id (k + 1) = wo zs id k := by
  unfold wo; rw [take_next hk, List.filter_append]
  have e : ((zs.getD k (0, 0)).2 != id) = false := by simpa using h
  simp only [List.filter_cons, e, List.filter_nil]
  simp
theorem wo_len (zs : List (Int × Int)) (id : Int) (k : Nat) : (wo zs id k).length ≤ k := by
  unfold wo
  exact Nat.le_trans (List.length_filter_le _ _) (by rw [List.length_take]; omega)

/-- 'append(row, x)' of a pair: what it leaves. -/
theorem append_pair {w w' : World} {B : Nat} {v : Value} {L : List (Int × Int)} {x y : Int} (h : OwnP 44 w B v L) (hB : B ≤ w.heap.size) {v' : Value}
    (h1 : w'.ownsRow B 44 2 v' (L.length + 1) (flat L ++ [.int .i64 x, .int .i64 y])) (h2 : w.grownBy w' v.ownBlock) : OwnP 44 w' B v' (L ++ [(x, y)]) ∧ Below B w w' := by
  refine ⟨?_, (Below.refl B w).grown h2 hB (fun k hk => (World.ownsRow.lt h k hk).1)⟩
  unfold OwnP
  rw [flat_append, List.length_append]
  exact h1

theorem wpl_pair (w : World) {ops : Array Oper} {rest : List Oper} {o : Oper} {a : Act} {Q : Exit → Act → World → Prop} (hgd : o.guard = none) (s x : Operand)
    (ho : o.op = .call { callee := .builtin .append, args := #[s, x], argTypes := #[41, 41] })
    (B : Nat) (v : Value) (L : List (Int × Int)) (hs : a.eval s = v) (hown : OwnP 44 w B v L)
    (g c : Nat) (p q : Int) (hx : a.eval x = .slice (some ⟨g, 0, none⟩) 1 c) (h0 : w.cell? ⟨g, 0, none⟩ = some (.int .i64 p)) (h1 : w.cell? ⟨g, 1, none⟩ = some (.int .i64 q))
    (hlen : L.length ≤ 5000) (hB : B ≤ w.heap.size)
    (h : ∀ v' w', Hid (OwnP 44 w' B v' (L ++ [(p, q)]) ∧ Below B w w') → wpList Try.prog ops Q rest (a.put o.dst v') w') : wpList Try.prog ops Q (o :: rest) a w := by
  obtain ⟨i0, hi, hz0, hz1, hz2⟩ := info_parts timerInfo
  refine wpList_append_own w hgd s x 41 ho B 44 i0 (.agg #[.int .i64 0, .int .i64 0]) 2 16 Try.underlying41 hi hz0 hz1 hz2 rfl (by decide) v L.length (flat L) hs hown ⟨g, 0, none⟩ 1 c [.int .i64 p, .int .i64 q] hx rfl ?_
    (fun u hu => by simp at hu; rcases hu with rfl | rfl <;> rfl) (by unfold maxLen; omega) (by omega) hB ?_
  · intro j u hu
    rw [add_none]
    match j, hu with
    | 0, hu => cases hu; exact h0
    | 1, hu => cases hu; exact h1
  · intro v' w' h2 h3 _
    exact h v' w' (append_pair hown hB h2 h3)

set_option maxHeartbeats 1000000 in
theorem l05Drop_any (a : Option Addr) (len cap : Nat) (zs : List (Int × Int)) (id : Int) (w : World) (h : Prs w a zs) (hl : zs.length = len) (hc : len ≤ 4096) :
    Calls Try.prog 52 #[.slice a len cap, .int .i64 id] w fun e w' => ∃ v, e = .returned v ∧ OwnP 44 w' w.heap.size v (wo zs id len) ∧ Below w.heap.size w w' := by
  have H : Hid (Prs w a zs) := h
  clear h
  have O0 : Hid (OwnP 44 (w.alloc (.cells #[] 44)) w.heap.size (.slice (some ⟨w.heap.size, 0, none⟩) 0 0) [] ∧ Below w.heap.size w (w.alloc (.cells #[] 44))) :=
    ⟨World.ownsRow_lit w #[] 0 (Nat.le_refl _) (Nat.zero_le _) rfl, (Below.refl _ _).alloc (Nat.le_refl _) _⟩
  go_enter Try.func52, Try.ntmps52
  go_wp2
  go_loopw [5, 6] (fun v i wr => ∃ k : Nat, k ≤ len ∧ i = .int .i64 k ∧ Hid (OwnP 44 wr w.heap.size v (wo zs id k) ∧ Below w.heap.size w wr)) (fun _ i _ => len - (intOf i).toNat)
  case atStart => exact ⟨0, Nat.zero_le _, rfl, O0⟩
  case round =>
    obtain ⟨k, hk, rfl, X⟩ := hrel
    by_cases hlt : k < len
    · obtain ⟨b, off, rfl, hb, p0, p1⟩ := H.out.cells X.out.2 (k := k) (by omega)
      have hltz : (k : Int) < (len : Int) := by omega
      by_cases he : (zs.getD k (0, 0)).2 = id
      · have X2 : Hid (OwnP 44 wr w.heap.size u5 (wo zs id (k + 1)) ∧ Below w.heap.size w wr) := by rw [wo_drop (by omega) he]; exact X
        have hq : ((zs.getD k (0, 0)).2 != id) = false := by simpa using he
        generalize (zs.getD k (0, 0)).1 = x0 at p0
        generalize (zs.getD k (0, 0)).2 = x1 at p1 hq
        clear he X
        go_wp2
        go_roundw
        case rel => exact ⟨k + 1, by omega, by go_num, X2⟩
        case measure => simp [intOf]; omega
      · have WK : Hid (wo zs id (k + 1) = wo zs id k ++ [((zs.getD k (0, 0)).1, (zs.getD k (0, 0)).2)]) := wo_keep (by omega) he
        have hq : ((zs.getD k (0, 0)).2 != id) = true := by simpa using he
        have hwl : Hid ((wo zs id k).length ≤ 5000) := Nat.le_trans (wo_len zs id k) (by omega)
        generalize (zs.getD k (0, 0)).1 = x0 at p0 WK
        generalize (zs.getD k (0, 0)).2 = x1 at p1 hq WK
        have XA : Hid (OwnP 44 (wr.alloc (.cells #[.int .i64 x0, .int .i64 x1] 44)) w.heap.size u5 (wo zs id k) ∧ Below w.heap.size w (wr.alloc (.cells #[.int .i64 x0, .int .i64 x1] 44))) := ⟨X.out.1.now ((Below.refl _ _).alloc (Nat.le_refl _) _), X.out.2.alloc X.out.2.size _⟩
        clear he X
        go_wp2_with (at_builtin; refine wpl_pair _ rfl (.tmp 21) (.tmp 26) rfl w.heap.size u5 _ rfl XA.out.1 wr.heap.size 1 x0 x1 rfl (by simp) (by simp) hwl.out XA.out.2.size ?_; intro v' w3 Y)
        have Y2 : Hid (OwnP 44 w3 w.heap.size v' (wo zs id (k + 1)) ∧ Below w.heap.size w w3) := ⟨by rw [WK.out]; exact Y.out.1, XA.out.2.trans Y.out.2⟩
        clear Y XA WK p0 p1
        go_roundw
        case rel => exact ⟨k + 1, by omega, by go_num, Y2⟩
        case measure => simp [intOf]; omega
    · obtain rfl : k = len := by omega
      go_wp2
      go_ret
      exact ⟨_, rfl, X.out.1, X.out.2⟩
set_option maxHeartbeats 1000000 in
theorem timersWithout_any (a : Option Addr) (len cap : Nat) (zs : List (Int × Int)) (id : Int) (w : World) (h : Prs w a zs) (hl : zs.length = len) (hc : len ≤ 4096) :
    Calls Try.prog 48 #[.slice a len cap, .int .i64 id] w fun e w' => ∃ v, e = .returned v ∧ OwnP 44 w' w.heap.size v (wo zs id len) ∧ Below w.heap.size w w' := by
  have H : Hid (Prs w a zs) := h
  clear h
  have O0 : Hid (OwnP 44 w w.heap.size (.slice none 0 0) [] ∧ Below w.heap.size w w) := ⟨World.ownsRow_nil w _ _ _, Below.refl _ _⟩
  go_enter Try.func48, Try.ntmps48
  go_wp2
  go_loopw [5, 10] (fun v i wr => ∃ k : Nat, k ≤ len ∧ i = .int .i64 k ∧ Hid (OwnP 44 wr w.heap.size v (wo zs id k) ∧ Below w.heap.size w wr)) (fun _ i _ => len - (intOf i).toNat)
  case atStart => exact ⟨0, Nat.zero_le _, rfl, O0⟩
  case round =>
    obtain ⟨k, hk, rfl, X⟩ := hrel
    by_cases hlt : k < len
    · obtain ⟨b, off, rfl, hb, p0, p1⟩ := H.out.cells X.out.2 (k := k) (by omega)
      have hltz : (k : Int) < (len : Int) := by omega
      by_cases he : (zs.getD k (0, 0)).2 = id
      · have hq : ((zs.getD k (0, 0)).2 != id) = false := by simpa using he
        have X2 : Hid (OwnP 44 (wr.alloc (.cells #[.int .i64 (zs.getD k (0, 0)).1, .int .i64 (zs.getD k (0, 0)).2] 44)) w.heap.size u5 (wo zs id (k + 1)) ∧ Below w.heap.size w (wr.alloc (.cells #[.int .i64 (zs.getD k (0, 0)).1, .int .i64 (zs.getD k (0, 0)).2] 44))) := by
          rw [wo_drop (by omega) he]
          exact ⟨X.out.1.now ((Below.refl _ _).alloc (Nat.le_refl _) _), X.out.2.alloc X.out.2.size _⟩
        generalize (zs.getD k (0, 0)).1 = x0 at p0 X2
        generalize (zs.getD k (0, 0)).2 = x1 at p1 hq X2
        clear he X
        go_wp2
        go_roundw
        case rel => exact ⟨k + 1, by omega, by go_num, X2⟩
        case measure => simp [intOf]; omega
      · have WK : Hid (wo zs id (k + 1) = wo zs id k ++ [((zs.getD k (0, 0)).1, (zs.getD k (0, 0)).2)]) := wo_keep (by omega) he
        have hq : ((zs.getD k (0, 0)).2 != id) = true := by simpa using he
        have hwl : Hid ((wo zs id k).length ≤ 5000) := Nat.le_trans (wo_len zs id k) (by omega)
        generalize (zs.getD k (0, 0)).1 = x0 at p0 WK
        generalize (zs.getD k (0, 0)).2 = x1 at p1 hq WK
        have XA : Hid (∀ o o2, OwnP 44 ((wr.alloc o).alloc o2) w.heap.size u5 (wo zs id k) ∧ Below w.heap.size w ((wr.alloc o).alloc o2)) := fun o o2 => ⟨X.out.1.now (((Below.refl _ _).alloc (Nat.le_refl _) _).alloc (by simp) _), (X.out.2.alloc X.out.2.size _).alloc (by have := X.out.2.size; simp; omega) _⟩
        clear he X
        go_wp2_with (at_builtin; refine wpl_pair _ rfl (.tmp 18) (.tmp 20) rfl w.heap.size u5 _ rfl (XA.out _ _).1 (wr.heap.size + 1) 1 x0 x1 rfl (by simp) (by simp) hwl.out (XA.out _ _).2.size ?_; intro v' w3 Y)
        have Y2 : Hid (OwnP 44 w3 w.heap.size v' (wo zs id (k + 1)) ∧ Below w.heap.size w w3) := ⟨by rw [WK.out]; exact Y.out.1, (XA.out _ _).2.trans Y.out.2⟩
        clear Y XA WK p0 p1
        go_roundw
        case rel => exact ⟨k + 1, by omega, by go_num, Y2⟩
        case measure => simp [intOf]; omega
    · obtain rfl : k = len := by omega
      go_wp2
      go_ret
      exact ⟨_, rfl, X.out.1, X.out.2⟩
end Go.Proofs.Ytbbjelkicenbhaa
