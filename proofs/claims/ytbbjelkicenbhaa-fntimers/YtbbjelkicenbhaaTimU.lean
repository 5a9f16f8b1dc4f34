/- TimersDue, the program's and the model's. -/
import Derived.Test.YtbbjelkicenbhaaTimD
import Derived.Test.YtbbjelkicenbhaaTimO
import Derived.Test.YtbbjelkicenbhaaTimS
import Derived.OwnWalk
namespace Go.Proofs.Ytbbjelkicenbhaa
open Go.RowKit Go.PlainAid Go.Sort
set_option linter.unusedVariables false
set_option maxRecDepth 20000

/-- The slice value v owns the numbers L. -/
def OwnI (e : TypeId) (w : World) (B : Nat) (v : Value) (L : List Int) : Prop := w.ownsRow B e 1 v L.length (L.map (Value.int .i64))
theorem OwnI.now {e : TypeId} {w w' : World} {B : Nat} {v : Value} {L : List Int} (h : OwnI e w B v L) (hb : Below w.heap.size w w') : OwnI e w' B v L := by
  have hn := World.ownsRow.lt h
  refine ⟨h.1, ?_⟩
  rcases h.2 with h' | ⟨g, cap, cur, h1, hB, hg, h4⟩
  · exact .inl h'
  · exact .inr ⟨g, cap, cur, h1, hB, by rw [hb.block _ (hn g (by rw [h1]; rfl)).2]; exact hg, h4⟩
theorem OwnI.lower {e : TypeId} {w : World} {B B' : Nat} {v : Value} {L : List Int} (h : OwnI e w B v L) (hB : B' ≤ B) : OwnI e w B' v L := by
  refine ⟨h.1, ?_⟩
  rcases h.2 with h' | ⟨g, cap, cur, h1, hb, h4⟩
  · exact .inl h'
  · exact .inr ⟨g, cap, cur, h1, Nat.le_trans hB hb, h4⟩
theorem intInfo : (Try.prog.info? 3).map (fun i => (i.zero, i.size, i.bytes)) = some (some (.int .i64 0), 1, 8) := by kernel_rfl

/-- 'append(ids, x)'. -/
theorem wpl_int (w : World) {ops : Array Oper} {rest : List Oper} {o : Oper} {a : Act} {Q : Exit → Act → World → Prop} (hgd : o.guard = none) (s x : Operand)
    (ho : o.op = .call { callee := .builtin .append, args := #[s, x], argTypes := #[47, 47] })
    (B : Nat) (v : Value) (L : List Int) (hs : a.eval s = v) (hown : OwnI 3 w B v L)
    (g c : Nat) (p : Int) (hx : a.eval x = .slice (some ⟨g, 0, none⟩) 1 c) (h0 : w.cell? ⟨g, 0, none⟩ = some (.int .i64 p))
    (hlen : L.length ≤ 5000) (hB : B ≤ w.heap.size)
    (h : ∀ v' w', Hid (OwnI 3 w' B v' (L ++ [p]) ∧ Below B w w' ∧ w.grownBy w' v.ownBlock) → wpList Try.prog ops Q rest (a.put o.dst v') w') : wpList Try.prog ops Q (o :: rest) a w := by
  obtain ⟨i0, hi, hz0, hz1, hz2⟩ := info_parts intInfo
  refine wpList_append_own w hgd s x 47 ho B 3 i0 (.int .i64 0) 1 8 Try.underlying47 hi hz0 hz1 hz2 rfl (by decide) v L.length (L.map (Value.int .i64)) hs hown ⟨g, 0, none⟩ 1 c [.int .i64 p] hx rfl ?_
    (fun u hu => by simp at hu; subst hu; rfl) (by unfold maxLen; omega) (by omega) hB ?_
  · intro j u hu
    rw [add_none]
    match j, hu with
    | 0, hu => cases hu; exact h0
  · intro v' w' h2 h3 _
    refine h v' w' ⟨?_, (Below.refl B w).grown h3 hB (fun k hk => (World.ownsRow.lt hown k hk).1), h3⟩
    unfold OwnI
    simpa using h2

/-- 'append(left, t)'. -/
theorem wpl_pairg (w : World) {ops : Array Oper} {rest : List Oper} {o : Oper} {a : Act} {Q : Exit → Act → World → Prop} (hgd : o.guard = none) (s x : Operand)
    (ho : o.op = .call { callee := .builtin .append, args := #[s, x], argTypes := #[41, 41] })
    (B : Nat) (v : Value) (L : List (Int × Int)) (hs : a.eval s = v) (hown : OwnP 44 w B v L)
    (g c : Nat) (p q : Int) (hx : a.eval x = .slice (some ⟨g, 0, none⟩) 1 c) (h0 : w.cell? ⟨g, 0, none⟩ = some (.int .i64 p)) (h1 : w.cell? ⟨g, 1, none⟩ = some (.int .i64 q))
    (hlen : L.length ≤ 5000) (hB : B ≤ w.heap.size)
    (h : ∀ v' w', Hid (OwnP 44 w' B v' (L ++ [(p, q)]) ∧ Below B w w' ∧ w.grownBy w' v.ownBlock) → wpList Try.prog ops Q rest (a.put o.dst v') w') : wpList Try.prog ops Q (o :: rest) a w := by
  obtain ⟨i0, hi, hz0, hz1, hz2⟩ := info_parts timerInfo
  refine wpList_append_own w hgd s x 41 ho B 44 i0 (.agg #[.int .i64 0, .int .i64 0]) 2 16 Try.underlying41 hi hz0 hz1 hz2 rfl (by decide) v L.length (flat L) hs hown ⟨g, 0, none⟩ 1 c [.int .i64 p, .int .i64 q] hx rfl ?_
    (fun u hu => by simp at hu; rcases hu with rfl | rfl <;> rfl) (by unfold maxLen; omega) (by omega) hB ?_
  · intro j u hu
    rw [add_none]
    match j, hu with
    | 0, hu => cases hu; exact h0
    | 1, hu => cases hu; exact h1
  · intro v' w' h2 h3 _
    exact h v' w' ⟨(append_pair hown hB h2 h3).1, (append_pair hown hB h2 h3).2, h3⟩
/-- 'append(row, more...)'. -/
theorem wpl_more (w : World) {ops : Array Oper} {rest : List Oper} {o : Oper} {a : Act} {Q : Exit → Act → World → Prop} (hgd : o.guard = none) (s x : Operand)
    (ho : o.op = .call { callee := .builtin .append, args := #[s, x], argTypes := #[41, 41] })
    (B : Nat) (v : Value) (L : List (Int × Int)) (hs : a.eval s = v) (hown : OwnP 44 w B v L)
    (ad : Addr) (m c : Nat) (M : List (Int × Int)) (hx : a.eval x = .slice (some ad) m c) (hM : M.length = m) (hn : ∀ j u, (flat M)[j]? = some u → w.cell? (ad.add j) = some u)
    (hlen : L.length + m ≤ 5000) (hB : B ≤ w.heap.size)
    (h : ∀ v' w', Hid (OwnP 44 w' B v' (L ++ M) ∧ Below B w w' ∧ w.grownBy w' v.ownBlock) → wpList Try.prog ops Q rest (a.put o.dst v') w') : wpList Try.prog ops Q (o :: rest) a w := by
  obtain ⟨i0, hi, hz0, hz1, hz2⟩ := info_parts timerInfo
  refine wpList_append_own w hgd s x 41 ho B 44 i0 (.agg #[.int .i64 0, .int .i64 0]) 2 16 Try.underlying41 hi hz0 hz1 hz2 rfl (by decide) v L.length (flat L) hs hown ad m c (flat M) hx (by rw [flat_len, hM]) hn
    (flat_one M) (by unfold maxLen; omega) (by omega) hB ?_
  intro v' w' h2 h3 _
  refine h v' w' ⟨?_, (Below.refl B w).grown h3 hB (fun k hk => (World.ownsRow.lt hown k hk).1), h3⟩
  unfold OwnP
  rw [flat_append, List.length_append, hM]
  exact h2
/-- The cells of a part of the pairs. -/
theorem part_cells {w : World} {b off : Nat} {zs : List (Int × Int)} (h : Prs w (some ⟨b, off, none⟩) zs) (k n : Nat) (hn : k + n ≤ zs.length) : ∀ j u, (flat ((zs.drop k).take n))[j]? = some u → w.cell? ((⟨b, off + k * 2, none⟩ : Addr).add j) = some u := by
  intro j u hu
  have hj : j < n * 2 := by
    have := (List.getElem?_eq_some_iff.1 hu).1
    rw [flat_len, List.length_take, List.length_drop] at this
    omega
  obtain ⟨b', off', e, hlt, hc⟩ := h (by omega)
  cases e
  rw [add_none]
  have h2 := hc (k + j / 2) (by omega)
  have fa := flat_at ((zs.drop k).take n) (j / 2) (by rw [List.length_take, List.length_drop]; omega)
  have eg : ((zs.drop k).take n).getD (j / 2) (0, 0) = zs.getD (k + j / 2) (0, 0) := by
    rw [List.getD_eq_getElem?_getD, List.getD_eq_getElem?_getD, List.getElem?_take_of_lt (by omega), List.getElem?_drop]
  rw [eg] at fa
  rcases Nat.mod_two_eq_zero_or_one j with hm | hm
  · rw [show j = j / 2 * 2 by omega, fa.1] at hu
    cases hu
    rw [show off + k * 2 + j = off + (k + j / 2) * 2 by omega]
    exact h2.1
  · rw [show j = j / 2 * 2 + 1 by omega, fa.2] at hu
    cases hu
    rw [show off + k * 2 + j = off + ((k + j / 2) * 2 + 1) by omega]
    exact h2.2
/-- Two empty rows laid one behind the other. -/
theorem two_lits {w w1 : World} (hb : Below w.heap.size w w1) : OwnP 44 ((w1.alloc (.cells #[] 44)).alloc (.cells #[] 3)) w.heap.size (.slice (some ⟨w1.heap.size, 0, none⟩) 0 0) [] ∧ OwnI 3 ((w1.alloc (.cells #[] 44)).alloc (.cells #[] 3)) w.heap.size (.slice (some ⟨w1.heap.size + 1, 0, none⟩) 0 0) [] ∧ Below w.heap.size w ((w1.alloc (.cells #[] 44)).alloc (.cells #[] 3)) := by
  have hs := hb.size
  have h1 : OwnP 44 (w1.alloc (.cells #[] 44)) w.heap.size (.slice (some ⟨w1.heap.size, 0, none⟩) 0 0) [] := World.ownsRow_lit w1 #[] 0 hs (Nat.zero_le _) rfl
  have h2 := World.ownsRow_lit (base := w.heap.size) (e := 3) (size := 1) (w1.alloc (.cells #[] 44)) #[] 0 (by simp; omega) (Nat.zero_le _) rfl
  rw [World.size_alloc] at h2
  exact ⟨h1.now ((Below.refl _ _).alloc (Nat.le_refl _) _), h2, (hb.alloc hs _).alloc (by simp; omega) _⟩
/-- Rows of another kind lie in other blocks. -/
theorem row_apart {w : World} {B B' n n' : Nat} {e e' : TypeId} {z z' : Nat} {v u : Value} {xs ys : List Value} (h : w.ownsRow B e z v n xs) (h' : w.ownsRow B' e' z' u n' ys) (hne : e ≠ e') : v.ownBlock = none ∨ v.ownBlock ≠ u.ownBlock := by
  rcases h.2 with ⟨h1, _⟩ | ⟨g, cap, cur, h1, _, hg, _⟩
  · rw [h1]; exact Or.inl rfl
  · rcases h'.2 with ⟨h2, _⟩ | ⟨g', cap', cur', h2, _, hg', _⟩
    · rw [h1, h2]; exact Or.inr (by simp [Value.ownBlock])
    · refine Or.inr (fun he => ?_)
      rw [h1, h2] at he
      have eg : g = g' := by simpa [Value.ownBlock] using he
      subst eg
      rw [hg] at hg'
      simp at hg'
      exact hne hg'.2
theorem OwnP.far {w w' : World} {B B' : Nat} {v u : Value} {L : List (Int × Int)} {M : List Int} (h : OwnP 44 w B v L) (h' : OwnI 3 w B' u M) (hg : w.grownBy w' u.ownBlock) : OwnP 44 w' B v L :=
  World.ownsRow.kept h hg (row_apart h h' (by decide))
theorem OwnI.far {w w' : World} {B B' : Nat} {v u : Value} {L : List (Int × Int)} {M : List Int} (h : OwnI 3 w B u M) (h' : OwnP 44 w B' v L) (hg : w.grownBy w' v.ownBlock) : OwnI 3 w' B u M :=
  World.ownsRow.kept h hg (row_apart h h' (by decide))

/-- Whether it is due. -/
def due (now : Int) (p : Int × Int) : Bool := decide (p.1 ≤ now)
def leftTo (zs : List (Int × Int)) (now : Int) (k : Nat) : List (Int × Int) := (zs.take k).filter (fun p => !due now p)
def idsTo (zs : List (Int × Int)) (now : Int) (k : Nat) : List Int := ((zs.take k).filter (due now)).map Prod.snd
theorem leftTo_len (zs : List (Int × Int)) (now : Int) (k : Nat) : (leftTo zs now k).length ≤ k :=
  Nat.le_trans (List.length_filter_le _ _) (by rw [List.length_take]; omega)
theorem idsTo_len (zs : List (Int × Int)) (now : Int) (k : Nat) : (idsTo zs now k).length ≤ k := by
  unfold idsTo
  rw [List.length_map]
  exact Nat.le_trans (List.length_filter_le _ _) (by rw [List.length_take]; omega)
theorem step_due {zs : List (Int × Int)} {now : Int} {k : Nat} (hk : k < zs.length) (h : (zs.getD k (0, 0)).1 ≤ now) : leftTo zs now (k + 1) = leftTo zs now k ∧ idsTo zs now (k + 1) = idsTo zs now k ++ [(zs.getD k (0, 0)).2] := by
  have e : due now (zs.getD k (0, 0)) = true := decide_eq_true h
  unfold leftTo idsTo
  rw [take_next hk, List.filter_append, List.filter_append]
  simp only [List.filter_cons, e, List.filter_nil, List.map_append]
  exact ⟨by simp, rfl⟩
theorem step_left {zs : List (Int × Int)} {now : Int} {k : Nat} (hk : k < zs.length) (h : ¬ (zs.getD k (0, 0)).1 ≤ now) : leftTo zs now (k + 1) = leftTo zs now k ++ [((zs.getD k (0, 0)).1, (zs.getD k (0, 0)).2)] ∧ idsTo zs now (k + 1) = idsTo zs now k := by
  have e : due now (zs.getD k (0, 0)) = false := decide_eq_false h
  unfold leftTo idsTo
  rw [take_next hk, List.filter_append, List.filter_append]
  simp only [List.filter_cons, e, List.filter_nil, List.map_append]
  exact ⟨rfl, by simp⟩
/-- Where those that are due stand ahead of the others. -/
theorem split_due {zs : List (Int × Int)} {now : Int} {k : Nat} (hk : k ≤ zs.length) (h1 : ∀ i, i < k → (zs.getD i (0, 0)).1 ≤ now) (h2 : ∀ i, k ≤ i → i < zs.length → ¬ (zs.getD i (0, 0)).1 ≤ now) :
    leftTo zs now zs.length = zs.drop k ∧ idsTo zs now zs.length = (zs.take k).map Prod.snd := by
  have ha : ∀ p ∈ zs.take k, due now p = true := by
    intro p hp
    obtain ⟨i, hi, rfl⟩ := List.getElem_of_mem hp
    rw [List.length_take] at hi
    have := h1 i (by omega)
    rw [List.getD_eq_getElem?_getD, List.getElem?_eq_getElem (by omega)] at this
    rw [List.getElem_take]
    exact decide_eq_true this
  have hb : ∀ p ∈ zs.drop k, due now p = false := by
    intro p hp
    obtain ⟨i, hi, rfl⟩ := List.getElem_of_mem hp
    rw [List.length_drop] at hi
    have := h2 (k + i) (by omega) (by omega)
    rw [List.getD_eq_getElem?_getD, List.getElem?_eq_getElem (by omega)] at this
    rw [List.getElem_drop]
    exact decide_eq_false this
  have e : zs.take zs.length = zs.take k ++ zs.drop k := by rw [List.take_of_length_le (Nat.le_refl _), List.take_append_drop]
  unfold leftTo idsTo
  rw [e, List.filter_append, List.filter_append]
  constructor
  · rw [List.filter_eq_nil_iff.2 (fun p hp => by simp [ha p hp]), List.nil_append, List.filter_eq_self.2 (fun p hp => by simp [hb p hp])]
  · rw [List.filter_eq_self.2 (fun p hp => ha p hp), List.filter_eq_nil_iff.2 (fun p hp => by simp [hb p hp]), List.append_nil]
/-- Right timers rise. -/
theorem good_rise {zs : List (Int × Int)} {n : Nat} (h : goodTo zs n) : ∀ d i, i + d < n → (zs.getD i (0, 0)).1 ≤ (zs.getD (i + d) (0, 0)).1
  | 0, i, _ => Int.le_refl _
  | d + 1, i, hi => by
    have h1 := good_rise h d i (by omega)
    have h2 := (h (i + (d + 1)) hi).2.1 (by omega)
    rw [show i + (d + 1) - 1 = i + d by omega] at h2
    unfold ltT at h2
    omega

noncomputable def duC (zs : List (Int × Int)) : Int := if 4096 < zs.length then 2 else if tmB zs = false then 1 else 0
noncomputable def duL (zs : List (Int × Int)) (now : Int) : List (Int × Int) := if duC zs = 0 then leftTo zs now zs.length else []
noncomputable def duI (zs : List (Int × Int)) (now : Int) : List Int := if duC zs = 0 then idsTo zs now zs.length else []

set_option maxHeartbeats 1000000 in
theorem implDue_any (a : Option Addr) (len cap : Nat) (zs : List (Int × Int)) (now : Int) (w : World) (h : Prs w a zs) (hl : zs.length = len) (hcp : len ≤ cap) :
    Calls Try.prog 20 #[.slice a len cap, .int .i64 now] w fun e w' => ∃ v u, e = .returned (.tuple #[v, u, .int .i64 (duC zs)]) ∧ OwnP 44 w' w.heap.size v (duL zs now) ∧ OwnI 3 w' w.heap.size u (duI zs now) ∧ Below w.heap.size w w' := by
  subst hl
  by_cases hbig : 4096 < zs.length
  · have eC : duC zs = 2 := if_pos hbig
    have eL : duL zs now = [] := by unfold duL; rw [eC]; rfl
    have eI : duI zs now = [] := by unfold duI; rw [eC]; rfl
    rw [eC, eL, eI]
    clear eC eL eI
    generalize zs.length = len at *
    go_enter Try.func20, Try.ntmps20
    go_wp2
    go_ret3
    exact ⟨_, _, rfl, World.ownsRow_nil w _ _ _, World.ownsRow_nil w _ _ _, Below.refl _ _⟩
  have HN : Hid (Calls Try.prog 46 #[.slice a zs.length cap] w fun e w' => e = .returned (.bool (tmB zs)) ∧ Grw w w') := timersOK_any a zs.length cap zs w h rfl hcp
  have H : Hid (Prs w a zs) := h
  clear h
  cases hq : tmB zs with
  | false =>
    rw [hq] at HN
    have eC : duC zs = 1 := by unfold duC; rw [if_neg hbig, if_pos hq]
    have eL : duL zs now = [] := by unfold duL; rw [eC]; rfl
    have eI : duI zs now = [] := by unfold duI; rw [eC]; rfl
    rw [eC, eL, eI]
    clear eC eL eI hq
    generalize zs.length = len at *
    go_enter Try.func20, Try.ntmps20
    go_wp2_with fail
    refine HN.out.mono ?_
    rintro e w1 ⟨rfl, b1⟩
    have B1 : Hid (Below w.heap.size w w1) := b1.below
    clear b1
    go_wp2
    go_ret3
    exact ⟨_, _, rfl, World.ownsRow_nil w1 _ _ _, World.ownsRow_nil w1 _ _ _, B1.out⟩
  | true =>
    rw [hq] at HN
    have eC : duC zs = 0 := by unfold duC; rw [if_neg hbig, if_neg (by rw [hq]; simp)]
    have eL : duL zs now = leftTo zs now zs.length := by unfold duL; rw [eC]; rfl
    have eI : duI zs now = idsTo zs now zs.length := by unfold duI; rw [eC]; rfl
    rw [eC, eL, eI]
    clear eC eL eI hq
    obtain ⟨len, hlen⟩ : ∃ len, zs.length = len := ⟨_, rfl⟩
    rw [hlen] at hbig HN hcp ⊢
    go_enter Try.func20, Try.ntmps20
    go_wp2_with fail
    refine HN.out.mono ?_
    rintro e w1 ⟨rfl, b1⟩
    have B1 : Hid (Below w.heap.size w w1) := b1.below
    clear b1 HN
    go_wp2
    go_loopw [7, 8, 19] (fun v u i wr => ∃ k : Nat, k ≤ len ∧ i = .int .i64 k ∧ Hid (OwnP 44 wr w.heap.size v (leftTo zs now k) ∧ OwnI 3 wr w.heap.size u (idsTo zs now k) ∧ Below w.heap.size w wr)) (fun _ _ i _ => len - (intOf i).toNat)
    case atStart => exact ⟨0, Nat.zero_le _, rfl, World.ownsRow_nil w1 _ _ _, World.ownsRow_nil w1 _ _ _, B1.out⟩
    case round =>
      obtain ⟨k, hk, rfl, X⟩ := hrel
      by_cases hlt : k < len
      · obtain ⟨b, off, rfl, hb, p0, p1⟩ := H.out.cells X.out.2.2 (k := k) (by omega)
        have hltz : (k : Int) < (len : Int) := by omega
        have bA : Hid (∀ o, Below wr.heap.size wr (wr.alloc o)) := fun o => (Below.refl _ _).alloc (Nat.le_refl _) o
        have bB : Hid (∀ o o2, Below wr.heap.size wr ((wr.alloc o).alloc o2)) := fun o o2 => ((Below.refl _ _).alloc (Nat.le_refl _) o).alloc (by simp) o2
        by_cases he : (zs.getD k (0, 0)).1 ≤ now
        · have st := step_due (now := now) (k := k) (zs := zs) (by omega) he
          have WK : Hid (leftTo zs now (k + 1) = leftTo zs now k ∧ idsTo zs now (k + 1) = idsTo zs now k ++ [(zs.getD k (0, 0)).2]) := st
          have hwl : Hid ((idsTo zs now k).length ≤ 5000) := Nat.le_trans (idsTo_len zs now k) (by omega)
          generalize (zs.getD k (0, 0)).1 = x0 at p0 he
          generalize (zs.getD k (0, 0)).2 = x1 at p1 WK
          have XA : Hid (∀ o o2, OwnP 44 ((wr.alloc o).alloc o2) w.heap.size u7 (leftTo zs now k) ∧ OwnI 3 ((wr.alloc o).alloc o2) w.heap.size u8 (idsTo zs now k) ∧ Below w.heap.size w ((wr.alloc o).alloc o2)) := fun o o2 => ⟨X.out.1.now (bB.out _ _), X.out.2.1.now (bB.out _ _), X.out.2.2.trans ((bB.out _ _).mono X.out.2.2.size)⟩
          clear X st
          go_wp2_with (at_builtin; refine wpl_int _ rfl (.tmp 27) (.tmp 30) rfl w.heap.size u8 _ rfl (XA.out _ _).2.1 (wr.heap.size + 1) 1 x1 rfl (by simp) hwl.out (XA.out _ _).2.2.size ?_; intro v' w3 Y)
          have Y2 : Hid (OwnP 44 w3 w.heap.size u7 (leftTo zs now (k + 1)) ∧ OwnI 3 w3 w.heap.size v' (idsTo zs now (k + 1)) ∧ Below w.heap.size w w3) := ⟨by rw [WK.out.1]; exact (XA.out _ _).1.far (XA.out _ _).2.1 Y.out.2.2, by rw [WK.out.2]; exact Y.out.1, (XA.out _ _).2.2.trans Y.out.2.1⟩
          clear Y XA WK p0 p1
          go_roundw
          case rel => exact ⟨k + 1, by omega, by go_num, Y2⟩
          case measure => simp [intOf]; omega
        · have st := step_left (now := now) (k := k) (zs := zs) (by omega) he
          have WK : Hid (leftTo zs now (k + 1) = leftTo zs now k ++ [((zs.getD k (0, 0)).1, (zs.getD k (0, 0)).2)] ∧ idsTo zs now (k + 1) = idsTo zs now k) := st
          have hwl : Hid ((leftTo zs now k).length ≤ 5000) := Nat.le_trans (leftTo_len zs now k) (by omega)
          generalize (zs.getD k (0, 0)).1 = x0 at p0 he WK
          generalize (zs.getD k (0, 0)).2 = x1 at p1 WK
          have XA : Hid (∀ o o2, OwnP 44 ((wr.alloc o).alloc o2) w.heap.size u7 (leftTo zs now k) ∧ OwnI 3 ((wr.alloc o).alloc o2) w.heap.size u8 (idsTo zs now k) ∧ Below w.heap.size w ((wr.alloc o).alloc o2)) := fun o o2 => ⟨X.out.1.now (bB.out _ _), X.out.2.1.now (bB.out _ _), X.out.2.2.trans ((bB.out _ _).mono X.out.2.2.size)⟩
          clear X st
          go_wp2_with (at_builtin; refine wpl_pairg _ rfl (.tmp 32) (.tmp 34) rfl w.heap.size u7 _ rfl (XA.out _ _).1 (wr.heap.size + 1) 1 x0 x1 rfl (by simp) (by simp) hwl.out (XA.out _ _).2.2.size ?_; intro v' w3 Y)
          have Y2 : Hid (OwnP 44 w3 w.heap.size v' (leftTo zs now (k + 1)) ∧ OwnI 3 w3 w.heap.size u8 (idsTo zs now (k + 1)) ∧ Below w.heap.size w w3) := ⟨by rw [WK.out.1]; exact Y.out.1, by rw [WK.out.2]; exact (XA.out _ _).2.1.far (XA.out _ _).1 Y.out.2.2, (XA.out _ _).2.2.trans Y.out.2.1⟩
          clear Y XA WK p0 p1
          go_roundw
          case rel => exact ⟨k + 1, by omega, by go_num, Y2⟩
          case measure => simp [intOf]; omega
      · obtain rfl : k = len := by omega
        go_wp2
        go_ret3
        exact ⟨_, _, rfl, X.out.1, X.out.2.1, X.out.2.2⟩

set_option maxHeartbeats 1000000 in
theorem specDue_any (b off len cap : Nat) (zs : List (Int × Int)) (now : Int) (w : World) (h : Prs w (some ⟨b, off, none⟩) zs) (hl : zs.length = len) (hcp : len ≤ cap) (hlm : len ≤ 1048576) :
    Calls Try.prog 21 #[.slice (some ⟨b, off, none⟩) len cap, .int .i64 now] w fun e w' => ∃ v u, e = .returned (.tuple #[v, u, .int .i64 (duC zs)]) ∧ OwnP 44 w' w.heap.size v (duL zs now) ∧ OwnI 3 w' w.heap.size u (duI zs now) ∧ Below w.heap.size w w' := by
  subst hl
  by_cases hbig : 4096 < zs.length
  · have eC : duC zs = 2 := if_pos hbig
    have eL : duL zs now = [] := by unfold duL; rw [eC]; rfl
    have eI : duI zs now = [] := by unfold duI; rw [eC]; rfl
    rw [eC, eL, eI]
    clear eC eL eI
    generalize zs.length = len at *
    go_enter Try.func21, Try.ntmps21
    go_wp2
    go_ret3
    exact ⟨_, _, rfl, (two_lits (Below.refl _ w)).1, (two_lits (Below.refl _ w)).2.1, (two_lits (Below.refl _ w)).2.2⟩
  have HN : Hid (Calls Try.prog 51 #[.slice (some ⟨b, off, none⟩) zs.length cap] w fun e w' => e = .returned (.bool (tmB zs)) ∧ Grw w w') := l05Timers_any (some ⟨b, off, none⟩) zs.length cap zs w h rfl (by omega)
  have H : Hid (Prs w (some ⟨b, off, none⟩) zs) := h
  clear h
  cases hq : tmB zs with
  | false =>
    rw [hq] at HN
    have eC : duC zs = 1 := by unfold duC; rw [if_neg hbig, if_pos hq]
    have eL : duL zs now = [] := by unfold duL; rw [eC]; rfl
    have eI : duI zs now = [] := by unfold duI; rw [eC]; rfl
    rw [eC, eL, eI]
    clear eC eL eI hq
    generalize zs.length = len at *
    go_enter Try.func21, Try.ntmps21
    go_wp2_with fail
    refine HN.out.mono ?_
    rintro e w1 ⟨rfl, b1⟩
    have B1 : Hid (Below w.heap.size w w1) := b1.below
    clear b1
    go_wp2
    go_ret3
    exact ⟨_, _, rfl, (two_lits B1.out).1, (two_lits B1.out).2.1, (two_lits B1.out).2.2⟩
  | true =>
    rw [hq] at HN
    have hgood : goodTo zs zs.length := (of_decide_eq_true (p := goodTo zs zs.length ∧ zs.length ≤ 20) hq).1
    have eC : duC zs = 0 := by unfold duC; rw [if_neg hbig, if_neg (by rw [hq]; simp)]
    have eL : duL zs now = leftTo zs now zs.length := by unfold duL; rw [eC]; rfl
    have eI : duI zs now = idsTo zs now zs.length := by unfold duI; rw [eC]; rfl
    rw [eC, eL, eI]
    have SP : Hid (∀ k, k ≤ zs.length → (∀ i, i < k → (zs.getD i (0, 0)).1 ≤ now) → (k < zs.length → now < (zs.getD k (0, 0)).1) → leftTo zs now zs.length = zs.drop k ∧ idsTo zs now zs.length = (zs.take k).map Prod.snd) := fun k hk h1 h2 =>
      split_due hk h1 (fun i hi hl => by
        have h3 := good_rise hgood (i - k) k (by omega)
        rw [show k + (i - k) = i by omega] at h3
        have := h2 (by omega)
        omega)
    clear eC eL eI hq hgood
    obtain ⟨len, hlen⟩ : ∃ len, zs.length = len := ⟨_, rfl⟩
    rw [hlen] at hbig HN hcp SP ⊢
    go_enter Try.func21, Try.ntmps21
    go_wp2_with fail
    refine HN.out.mono ?_
    rintro e w1 ⟨rfl, b1⟩
    have B1 : Hid (Below w.heap.size w w1) := b1.below
    clear b1 HN
    have O1 : Hid (OwnI 3 (w1.alloc (.cells #[] 3)) w.heap.size (.slice (some ⟨w1.heap.size, 0, none⟩) 0 0) [] ∧ Below w.heap.size w (w1.alloc (.cells #[] 3))) := ⟨World.ownsRow_lit w1 #[] 0 B1.out.size (Nat.zero_le _) rfl, B1.out.alloc B1.out.size _⟩
    go_wp2
    go_loopw [7, 8] (fun i u wr => ∃ k : Nat, k ≤ len ∧ i = .int .i64 k ∧ Hid (OwnI 3 wr w.heap.size u ((zs.take k).map Prod.snd) ∧ Below w.heap.size w wr ∧ ∀ i, i < k → (zs.getD i (0, 0)).1 ≤ now)) (fun i _ _ => len - (intOf i).toNat)
    case atStart => exact ⟨0, Nat.zero_le _, rfl, O1.out.1, O1.out.2, fun i hi => absurd hi (by omega)⟩
    case round =>
      obtain ⟨k, hk, rfl, X⟩ := hrel
      have STOP : Hid ((k < len → now < (zs.getD k (0, 0)).1) → leftTo zs now len = zs.drop k ∧ idsTo zs now len = (zs.take k).map Prod.snd) := fun h => SP.out k hk X.out.2.2 h
      by_cases hlt : k < len
      · obtain ⟨b', off', e', hb, p0, p1⟩ := H.out.cells X.out.2.1 (k := k) (by omega)
        cases e'
        have hltz : (k : Int) < (len : Int) := by omega
        by_cases he : (zs.getD k (0, 0)).1 ≤ now
        · have WK : Hid ((zs.take (k + 1)).map Prod.snd = (zs.take k).map Prod.snd ++ [(zs.getD k (0, 0)).2] ∧ ∀ i, i < k + 1 → (zs.getD i (0, 0)).1 ≤ now) := ⟨by rw [take_next (by omega), List.map_append]; rfl, fun i hi => by
            by_cases e : i < k
            · exact X.out.2.2 i e
            · rw [show i = k by omega]; exact he⟩
          have hwl : Hid (((zs.take k).map Prod.snd).length ≤ 5000) := by
            show _ ≤ _
            rw [List.length_map, List.length_take]; omega
          generalize (zs.getD k (0, 0)).1 = x0 at p0 he
          generalize (zs.getD k (0, 0)).2 = x1 at p1 WK
          have XA : Hid (∀ o, OwnI 3 (wr.alloc o) w.heap.size u8 ((zs.take k).map Prod.snd) ∧ Below w.heap.size w (wr.alloc o)) := fun o => ⟨X.out.1.now ((Below.refl _ _).alloc (Nat.le_refl _) o), X.out.2.1.alloc X.out.2.1.size o⟩
          clear X STOP
          go_wp2_with (at_builtin; refine wpl_int _ rfl (.tmp 33) (.tmp 39) rfl w.heap.size u8 _ rfl (XA.out _).1 wr.heap.size 1 x1 rfl (by simp) hwl.out (XA.out _).2.size ?_; intro v' w3 Y)
          have Y2 : Hid (OwnI 3 w3 w.heap.size v' ((zs.take (k + 1)).map Prod.snd) ∧ Below w.heap.size w w3 ∧ ∀ i, i < k + 1 → (zs.getD i (0, 0)).1 ≤ now) := ⟨by rw [WK.out.1]; exact Y.out.1, (XA.out _).2.trans Y.out.2.1, WK.out.2⟩
          clear Y XA WK p0 p1
          go_roundw
          case rel => exact ⟨k + 1, by omega, by go_num, Y2⟩
          case measure => simp [intOf]; omega
        · have ST : Hid (leftTo zs now len = zs.drop k ∧ idsTo zs now len = (zs.take k).map Prod.snd) := STOP.out (fun _ => by omega)
          have he2 : decide ((zs.getD k (0, 0)).1 ≤ now) = false := decide_eq_false he
          generalize (zs.getD k (0, 0)).1 = x0 at p0 he he2
          clear STOP p1
          have XB : Hid (OwnP 44 (wr.alloc (.cells #[] 44)) w.heap.size (.slice (some ⟨wr.heap.size, 0, none⟩) 0 0) [] ∧ OwnI 3 (wr.alloc (.cells #[] 44)) w.heap.size u8 ((zs.take k).map Prod.snd) ∧ Below w.heap.size w (wr.alloc (.cells #[] 44)) ∧ Prs (wr.alloc (.cells #[] 44)) (some ⟨b, off, none⟩) zs) := ⟨World.ownsRow_lit wr #[] 0 X.out.2.1.size (Nat.zero_le _) rfl, X.out.1.now ((Below.refl _ _).alloc (Nat.le_refl _) _), X.out.2.1.alloc X.out.2.1.size _, H.out.keep (X.out.2.1.alloc X.out.2.1.size _)⟩
          have PC : Hid (∀ j u, (flat ((zs.drop k).take (len - k)))[j]? = some u → (wr.alloc (.cells #[] 44)).cell? ((⟨b, off + k * 2, none⟩ : Addr).add j) = some u) := part_cells XB.out.2.2.2 k (len - k) (by omega)
          have ML : Hid (((zs.drop k).take (len - k)).length = len - k) := by show _ = _; rw [List.length_take, List.length_drop]; omega
          have MD : Hid ((zs.drop k).take (len - k) = zs.drop k) := List.take_of_length_le (by rw [List.length_drop]; omega)
          clear X
          go_wp2_with (at_builtin; refine wpl_more _ rfl (.tmp 43) (.tmp 46) rfl w.heap.size _ _ rfl XB.out.1 _ _ _ _ rfl ML.out PC.out (by simp; omega) XB.out.2.2.1.size ?_; intro v' w3 Y)
          go_ret3
          exact ⟨_, _, rfl, by rw [ST.out.1, ← MD.out]; exact Y.out.1, by rw [ST.out.2]; exact OwnI.far XB.out.2.1 XB.out.1 Y.out.2.2, XB.out.2.2.1.trans Y.out.2.1⟩
      · obtain rfl : k = len := by omega
        have ST : Hid (leftTo zs now k = zs.drop k ∧ idsTo zs now k = (zs.take k).map Prod.snd) := STOP.out (fun h => absurd h hlt)
        have MD : Hid (zs.drop k = []) := List.drop_of_length_le (by omega)
        clear STOP
        have XB : Hid (OwnP 44 (wr.alloc (.cells #[] 44)) w.heap.size (.slice (some ⟨wr.heap.size, 0, none⟩) 0 0) [] ∧ OwnI 3 (wr.alloc (.cells #[] 44)) w.heap.size u8 ((zs.take k).map Prod.snd) ∧ Below w.heap.size w (wr.alloc (.cells #[] 44))) := ⟨World.ownsRow_lit wr #[] 0 X.out.2.1.size (Nat.zero_le _) rfl, X.out.1.now ((Below.refl _ _).alloc (Nat.le_refl _) _), X.out.2.1.alloc X.out.2.1.size _⟩
        clear X
        go_wp2
        all_goals
          go_ret3
          exact ⟨_, _, rfl, by rw [ST.out.1, MD.out]; exact XB.out.1, by rw [ST.out.2]; exact XB.out.2.1, XB.out.2.2⟩
end Go.Proofs.Ytbbjelkicenbhaa
