/- Rows of roles of one's own, each with rules of its own. Roles marked. Configurations marked. Users, sessions, fails, records, guests: what comes in as an argument, opened. -/
import Derived.Test.YtmeejholckelgaaGreatM31
import Derived.Test.YtmeejholckelgaaGreatGuV
import Derived.Test.YtmeejholckelgaaGreatProg
namespace Go.Proofs.YtmeejholckelgaaGreat
open Go.RowKit Go.PlainAid Go.Proofs.YtmeejholckelgaaGreat.Bt Go.Sort
set_option linter.unusedVariables false
set_option maxRecDepth 20000
/-- A role, and where its rules lie. -/
structure RoX where
  r : RoleV
  ra : Option Addr
  rc : Nat
def RoX.sl (x : RoX) : Value := .slice x.ra x.r.rs.length x.rc
def roG (x : RoX) : List Value := [.string x.r.nm, .slice x.ra x.r.rs.length x.rc, .int .i64 x.r.q, .int .i64 x.r.m, .int .i64 x.r.i]
theorem roG_len (x : RoX) : (roG x).length = 5 := rfl
/-- Rows that are apart. -/
def ApB (v v' : Value) : Prop := ∀ k, v.ownBlock = some k → v'.ownBlock ≠ some k
theorem ApB.symm {v v' : Value} (h : ApB v v') : ApB v' v := fun k h1 h2 => h k h2 h1
theorem apB_of {α β : Type} {c : α → List Value} {c' : β → List Value} {K K' : Nat} {e e' : TypeId} {w : World} {B B' : Nat} {v u : Value} {xs : List α} {ys : List β} (o : OwnS c K e w B v xs) (o' : OwnS c' K' e' w B' u ys) (hne : e ≠ e') : ApB v u := by
  intro k hk hk'
  rcases o.2 with ⟨h1, _⟩ | ⟨g, cap, cur, h1, _, hg1, _⟩
  · rw [h1] at hk; cases hk
  rcases o'.2 with ⟨h2, _⟩ | ⟨g', cap', cur', h2, _, hg2, _⟩
  · rw [h2] at hk'; cases hk'
  rw [h1] at hk
  rw [h2] at hk'
  have e1 : g = k := by simpa [Value.ownBlock] using hk
  have e2 : g' = k := by simpa [Value.ownBlock] using hk'
  subst e1; subst e2
  rw [hg1] at hg2
  cases hg2
  exact hne rfl
structure OwnRo (w : World) (B : Nat) (v : Value) (L : List RoX) : Prop where
  row : OwnS roG 5 127 w B v L
  rules : ∀ x, x ∈ L → OwnS rv 6 164 w B x.sl x.r.rs
  apart : L.Pairwise (fun x y => ApB x.sl y.sl)
theorem ApB.kept {v v' : Value} (h : ApB v v') : v.ownBlock = none ∨ v.ownBlock ≠ v'.ownBlock := by
  cases hv : v.ownBlock with
  | none => exact .inl rfl
  | some k => exact .inr (fun e => h k hv e.symm)
theorem OwnRo.now {w w' : World} {B : Nat} {v : Value} {L : List RoX} (h : OwnRo w B v L) (hb : Below w.heap.size w w') : OwnRo w' B v L := ⟨h.row.now hb, fun x hx => (h.rules x hx).now hb, h.apart⟩
theorem OwnRo.lower {w : World} {B B' : Nat} {v : Value} {L : List RoX} (h : OwnRo w B v L) (hb : B' ≤ B) : OwnRo w B' v L := ⟨h.row.lower hb, fun x hx => (h.rules x hx).lower hb, h.apart⟩
/-- The blocks that a row of roles owns. -/
def roBk (v : Value) (L : List RoX) (b : Nat) : Prop := v.ownBlock = some b ∨ ∃ x, x ∈ L ∧ x.sl.ownBlock = some b
theorem OwnRo.lt {w : World} {B : Nat} {v : Value} {L : List RoX} (h : OwnRo w B v L) : ∀ b, roBk v L b → B ≤ b ∧ b < w.heap.size := by
  rintro b (hb | ⟨x, hx, hb⟩)
  · exact h.row.lt b hb
  · exact (h.rules x hx).lt b hb
/-- What happens in blocks of others alone leaves it. -/
theorem OwnRo.keepB {w w' : World} {B : Nat} {v : Value} {L : List RoX} (h : OwnRo w B v L) (hk : ∀ b, roBk v L b → w'.heap[b]? = w.heap[b]?) : OwnRo w' B v L := by
  have loc : ∀ {e : TypeId} {K n : Nat} {v : Value} {F : List Value}, w.ownsRow B e K v n F → (∀ k, v.ownBlock = some k → w'.heap[k]? = w.heap[k]?) → w'.ownsRow B e K v n F := by
    intro e K n v F h hq
    refine ⟨h.1, ?_⟩
    rcases h.2 with h' | ⟨g, cap, cur, h1, hB, hg, h4⟩
    · exact .inl h'
    · exact .inr ⟨g, cap, cur, h1, hB, by rw [hq g (by rw [h1]; rfl)]; exact hg, h4⟩
  exact ⟨loc h.row (fun k hk' => hk k (.inl hk')), fun x hx => loc (h.rules x hx) (fun k hk' => hk k (.inr ⟨x, hx, hk'⟩)), h.apart⟩
theorem pair_set {L : List RoX} {k : Nat} {x y : RoX} (h : L.Pairwise (fun x y => ApB x.sl y.sl)) (hx : L[k]? = some x) (hs : y.sl = x.sl) : (L.set k y).Pairwise (fun x y => ApB x.sl y.sl) := by
  have e : (L.set k y).map RoX.sl = L.map RoX.sl := by
    rw [List.map_set, hs]
    have hk := (List.getElem?_eq_some_iff.1 hx)
    refine List.ext_getElem? (fun i => ?_)
    by_cases hi : i = k
    · subst hi
      rw [List.getElem?_set_self (by rw [List.length_map]; exact hk.1), List.getElem?_map, hx]; rfl
    · rw [List.getElem?_set_ne (fun e => hi e.symm)]
  have a := List.pairwise_map.2 h
  rw [← e] at a
  exact List.pairwise_map.1 a
theorem roBk_set {v : Value} {L : List RoX} {k : Nat} {x y : RoX} (hx : L[k]? = some x) (hs : y.sl = x.sl) (b : Nat) : roBk v (L.set k y) b ↔ roBk v L b := by
  have hk := (List.getElem?_eq_some_iff.1 hx)
  unfold roBk
  constructor
  · rintro (h | ⟨z, hz, h⟩)
    · exact .inl h
    · rcases List.mem_or_eq_of_mem_set hz with h1 | h1
      · exact .inr ⟨z, h1, h⟩
      · subst h1; exact .inr ⟨x, List.mem_of_getElem? hx, by rw [← hs]; exact h⟩
  · rintro (h | ⟨z, hz, h⟩)
    · exact .inl h
    · obtain ⟨i, hi⟩ := List.getElem?_of_mem hz
      by_cases hik : i = k
      · subst hik
        rw [hx] at hi; cases hi
        exact .inr ⟨y, List.mem_of_getElem? (List.getElem?_set_self hk.1), by rw [hs]; exact h⟩
      · exact .inr ⟨z, List.mem_of_getElem? (by rw [List.getElem?_set_ne (fun e => hik e.symm)]; exact hi), h⟩
/-- A field of a role is stored. -/
theorem OwnRo.set1 {w : World} {B g n cap : Nat} {L : List RoX} (h : OwnRo w B (.slice (some ⟨g, 0, none⟩) n cap) L) {k j : Nat} {x : RoX} (y : RoX) {u : Value} (hx : L[k]? = some x) (hj : j < 5) (hy : roG y = (roG x).set j u) (hs : y.sl = x.sl) (hr : y.r.rs = x.r.rs) :
    OwnRo (w.setCell ⟨g, k * 5 + j, none⟩ u) B (.slice (some ⟨g, 0, none⟩) n cap) (L.set k y) ∧ w.grownBy (w.setCell ⟨g, k * 5 + j, none⟩ u) (some g) := by
  have s := h.row.set1 roG_len (j := j) (y := y) (u := u) hx hj hy
  refine ⟨⟨s.1, fun z hz => ?_, pair_set h.apart hx hs⟩, s.2⟩
  have hz2 : OwnS rv 6 164 w B z.sl z.r.rs := by
    rcases List.mem_or_eq_of_mem_set hz with h1 | h1
    · exact h.rules z h1
    · subst h1; rw [hs, hr]; exact h.rules x (List.mem_of_getElem? hx)
  exact hz2.kept s.2 ((apB_of hz2 h.row (by decide)).kept)
/-- The rules of a role are other ones. -/
theorem OwnRo.setR {w w' : World} {B : Nat} {v : Value} {L : List RoX} (h : OwnRo w B v L) {k : Nat} {x : RoX} (rs : List RuleV) (hx : L[k]? = some x) (hl : rs.length = x.r.rs.length) (hg : w.grownBy w' x.sl.ownBlock) (ho : OwnS rv 6 164 w' B x.sl rs) :
    OwnRo w' B v (L.set k { x with r := { x.r with rs := rs } }) := by
  have hs : ({ x with r := { x.r with rs := rs } } : RoX).sl = x.sl := by unfold RoX.sl; dsimp only; rw [hl]
  have hg1 : roG { x with r := { x.r with rs := rs } } = roG x := by unfold roG; dsimp only; rw [hl]
  have hfl : flatS roG (L.set k { x with r := { x.r with rs := rs } }) = flatS roG L := by
    have hk := List.getElem?_eq_some_iff.1 hx
    obtain ⟨A, x', C, rfl, rfl⟩ : ∃ A x' C, L = A ++ x' :: C ∧ A.length = k := ⟨L.take k, L[k]'hk.1, L.drop (k + 1), by simp, by have := hk.1; simp; omega⟩
    have ex : x' = x := by simpa using hx
    subst ex
    have e : (A ++ x' :: C).set A.length { x' with r := { x'.r with rs := rs } } = A ++ { x' with r := { x'.r with rs := rs } } :: C := by simp
    rw [e, flatS_append, flatS_append, flatS_cons, flatS_cons, hg1]
  have hrow : OwnS roG 5 127 w' B v (L.set k { x with r := { x.r with rs := rs } }) := by
    have h1 := h.row.kept hg ((apB_of h.row (h.rules x (List.mem_of_getElem? hx)) (by decide)).kept)
    unfold OwnS at h1 ⊢
    rw [hfl, List.length_set]
    exact h1
  refine ⟨hrow, fun z hz => ?_, pair_set h.apart hx hs⟩
  obtain ⟨i, hi⟩ := List.getElem?_of_mem hz
  have hk := (List.getElem?_eq_some_iff.1 hx)
  by_cases hik : i = k
  · subst hik
    rw [List.getElem?_set_self hk.1] at hi
    cases hi
    rw [hs]; exact ho
  · rw [List.getElem?_set_ne (fun e => hik e.symm)] at hi
    have hap : ApB z.sl x.sl := by
      have hii := (List.getElem?_eq_some_iff.1 hi)
      rcases Nat.lt_or_ge i k with hlt | hge
      · have := List.pairwise_iff_getElem.1 h.apart i k hii.1 hk.1 hlt
        rw [hii.2, hk.2] at this; exact this
      · have := List.pairwise_iff_getElem.1 h.apart k i hk.1 hii.1 (by omega)
        rw [hii.2, hk.2] at this; exact this.symm
    exact (h.rules z (List.mem_of_getElem? hi)).kept hg hap.kept
/-- How many numbers roles take up, and what is marked. -/
def roN : List RoX → Nat
  | [] => 0
  | x :: L => 4 + 6 * x.r.rs.length + roN L
def mkRo (M : Nat) (x : RoX) : RoX := { x with r := ⟨mtS M, mkRuleL (M + 1) x.r.rs.length, (M : Int) + 1 + 6 * (x.r.rs.length : Int), (M : Int) + 1 + 6 * (x.r.rs.length : Int) + 1, (M : Int) + 1 + 6 * (x.r.rs.length : Int) + 1 + 1⟩ }
theorem mkRo_sl (M : Nat) (x : RoX) : (mkRo M x).sl = x.sl := by unfold mkRo RoX.sl; dsimp only; rw [mkRuleL_len]
def mkRoL (M : Nat) : List RoX → List RoX
  | [] => []
  | x :: L => mkRo M x :: mkRoL (M + (4 + 6 * x.r.rs.length)) L
theorem roN_step : ∀ {L : List RoX} {k : Nat} {x : RoX}, L[k]? = some x → roN (L.take (k + 1)) = roN (L.take k) + (4 + 6 * x.r.rs.length)
  | [], k, x, h => by simp at h
  | y :: L, 0, x, h => by simp at h; subst h; simp [roN]
  | y :: L, k + 1, x, h => by
    have := roN_step (L := L) (k := k) (x := x) (by simpa using h)
    simp only [List.take_succ_cons, roN]
    omega
theorem roN_le : ∀ (L : List RoX) (k : Nat), roN (L.take k) ≤ roN L
  | [], k => by simp [roN]
  | y :: L, 0 => by simp [roN]
  | y :: L, k + 1 => by
    have := roN_le L k
    simp only [List.take_succ_cons, roN]
    omega
theorem mkRoL_len : ∀ (L : List RoX) (M : Nat), (mkRoL M L).length = L.length
  | [], _ => rfl
  | x :: L, M => by simp [mkRoL, mkRoL_len L]
theorem mkRoL_at : ∀ {L : List RoX} {k M : Nat} {x : RoX}, L[k]? = some x → (mkRoL M L)[k]? = some (mkRo (M + roN (L.take k)) x)
  | [], k, M, x, h => by simp at h
  | y :: L, 0, M, x, h => by simp at h; subst h; simp [mkRoL, roN]
  | y :: L, k + 1, M, x, h => by
    have := mkRoL_at (L := L) (k := k) (M := M + (4 + 6 * y.r.rs.length)) (x := x) (by simpa using h)
    simp only [mkRoL, List.getElem?_cons_succ, List.take_succ_cons, roN]
    rw [this]
    congr 2
    omega
def mixRo (M : Nat) (L : List RoX) (k : Nat) : List RoX := (mkRoL M L).take k ++ L.drop k
theorem mix_zero (M : Nat) (L : List RoX) : mixRo M L 0 = L := by simp [mixRo]
theorem mix_all (M : Nat) (L : List RoX) : mixRo M L L.length = mkRoL M L := by
  unfold mixRo
  rw [List.drop_length, List.append_nil, List.take_of_length_le (by rw [mkRoL_len]; exact Nat.le_refl _)]
theorem mix_at {M : Nat} {L : List RoX} {k : Nat} {x : RoX} (h : L[k]? = some x) : (mixRo M L k)[k]? = some x := by
  have hk := (List.getElem?_eq_some_iff.1 h).1
  unfold mixRo
  rw [List.getElem?_append_right (by simp; omega)]
  have : k - ((mkRoL M L).take k).length = 0 := by rw [List.length_take, mkRoL_len]; omega
  rw [this, List.getElem?_drop, Nat.add_zero]
  exact h
theorem mix_step {M : Nat} {L : List RoX} {k : Nat} {x : RoX} (h : L[k]? = some x) : (mixRo M L k).set k (mkRo (M + roN (L.take k)) x) = mixRo M L (k + 1) := by
  have hk := List.getElem?_eq_some_iff.1 h
  unfold mixRo
  rw [List.set_append_right _ _ (by have := hk.1; simp; omega)]
  have : k - ((mkRoL M L).take k).length = 0 := by have := hk.1; rw [List.length_take, mkRoL_len]; omega
  rw [this]
  have hd : L.drop k = x :: L.drop (k + 1) := by rw [← hk.2]; exact List.drop_eq_getElem_cons hk.1
  rw [hd, List.set_cons_zero, List.take_add_one, mkRoL_at h]
  simp
theorem mix_len (M : Nat) (L : List RoX) (k : Nat) (hk : k ≤ L.length) : (mixRo M L k).length = L.length := by
  unfold mixRo
  rw [List.length_append, List.length_take, mkRoL_len, List.length_drop]; omega
end Go.Proofs.YtmeejholckelgaaGreat

namespace Go.Proofs.YtmeejholckelgaaGreat
open Go.RowKit Go.PlainAid Go.Proofs.YtmeejholckelgaaGreat.Bt Go.Sort
set_option linter.unusedVariables false
set_option maxRecDepth 20000
theorem keep_grown {B : Nat → Prop} {w w1 w2 : World} {r : Option Nat} (h : Rel.Keep B w w1) (hg : w1.grownBy w2 r) (hB : ∀ b, B b → b < w1.heap.size ∧ some b ≠ r) : Rel.Keep B w w2 :=
  ⟨hg.os.trans h.os, hg.tape.trans h.tape, hg.output.trans h.output, Nat.le_trans h.size hg.size, fun b hb => (hg.block b (hB b hb).1 (hB b hb).2).trans (h.block b hb)⟩
set_option maxHeartbeats 4000000 in
theorem markRoleS_any (a : Option Addr) (n cap B m0 : Nat) (L : List RoX) (w : World) (h : OwnRo w B (.slice a n cap) L) (h0 : 0 < m0) (hm : m0 + roN L ≤ 100000000000) (hn9 : n ≤ 1048576) :
    Calls Tryz.prog 55 #[.slice a n cap, .int .i64 (m0 : Int)] w fun e w' => e = .returned (.int .i64 ((m0 + roN L : Nat) : Int)) ∧ OwnRo w' B (.slice a n cap) (mkRoL m0 L) ∧ Rel.Keep (fun b => b < w.heap.size ∧ ¬ roBk (.slice a n cap) L b) w w' := by
  have H : Hid (OwnRo w B (.slice a n cap) (mixRo m0 L 0)) := by show OwnRo _ _ _ _; rw [mix_zero]; exact h
  have hn := h.row.len
  clear h
  go_enter Tryz.func55, Tryz.ntmps55
  go_wp2
  go_loopw [1, 5] (fun m i wr => ∃ (k M : Nat), k ≤ n ∧ i = .int .i64 k ∧ m = .int .i64 (M : Int) ∧ Hid (M = m0 + roN (L.take k)) ∧ Hid (OwnRo wr B (.slice a n cap) (mixRo m0 L k) ∧ (∀ b, roBk (.slice a n cap) (mixRo m0 L k) b ↔ roBk (.slice a n cap) L b) ∧ Rel.Keep (fun b => b < w.heap.size ∧ ¬ roBk (.slice a n cap) L b) w wr)) (fun _ i _ => n - (intOf i).toNat)
  case atStart => exact ⟨0, m0, Nat.zero_le _, rfl, rfl, by show m0 = _; simp [roN], H.out, fun b => by rw [mix_zero], Rel.Keep.refl _ _⟩
  case round =>
    clear H
    obtain ⟨k, M, hk, rfl, rfl, hM, X⟩ := hrel
    by_cases hlt : k < n
    · have hkl : k < L.length := by omega
      obtain ⟨x, hxL⟩ := at_of (xs := L) rfl hkl
      have hx : (mixRo m0 L k)[k]? = some x := mix_at hxL
      obtain ⟨g, rfl, hBg, hg, -⟩ := X.out.1.row.form (by rw [mix_len m0 L k (by omega)]; omega)
      have hltz : (k : Int) < (n : Int) := by omega
      have hle := roN_le L (k + 1)
      have hst := roN_step hxL
      have hMz : (M : Int) + 6 * (x.r.rs.length : Int) + 4 ≤ 200000000000 := by have := hM.out; omega
      have hMn : M + 1 + 6 * x.r.rs.length ≤ 100000000000 := by have := hM.out; omega
      have hM0 : 0 < M := by have := hM.out; omega
      have HST : Hid ((mixRo m0 L k).set k (mkRo M x) = mixRo m0 L (k + 1)) := by show _ = _; rw [hM.out]; exact mix_step hxL
      have HMN : Hid (M + (4 + 6 * x.r.rs.length) = m0 + roN (L.take (k + 1))) := by show _ = _; rw [hst, hM.out]; omega
      clear hle hst hxL
      generalize hLk : mixRo m0 L k = Lk at X hx HST
      clear hLk
      have HT : Hid (∀ w, Calls Tryz.prog 97 #[.int .i64 (M : Int)] w fun e w' => e = .returned (.string (mtS M)) ∧ Grw w w') := fun w => markText_any M w (by omega) (by omega)
      go_wp2_with fail
      refine (HT.out _).mono ?_
      rintro e wt ⟨rfl, gt⟩
      have ot := X.out.1.now gt.below
      have RB := X.out.2.1
      have KT : Hid (Rel.Keep (fun b => b < w.heap.size ∧ ¬ roBk (.slice (some ⟨g, 0, none⟩) n cap) L b) w wt) := keep_grown X.out.2.2 (gt.grown none) (fun b hb => ⟨Nat.lt_of_lt_of_le hb.1 X.out.2.2.size, by simp⟩)
      clear HT gt X
      obtain ⟨c0, z0⟩ := ot.row.cell roG_len (j := 0) hx rfl
      replace c0 : wt.cell? ⟨g, k * 5, none⟩ = some (.string x.r.nm) := c0
      replace z0 : wt.frozen? ⟨g, k * 5, none⟩ = false := z0
      have s0 := ot.set1 (j := 0) { x with r := { x.r with nm := mtS M } } (u := .string (mtS M)) hx (by omega) rfl rfl rfl
      have hx0 : (Lk.set k { x with r := { x.r with nm := mtS M } })[k]? = some { x with r := { x.r with nm := mtS M } } := List.getElem?_set_self (List.getElem?_eq_some_iff.1 hx).1
      have RB0 : ∀ b, roBk (.slice (some ⟨g, 0, none⟩) n cap) (Lk.set k { x with r := { x.r with nm := mtS M } }) b ↔ roBk (.slice (some ⟨g, 0, none⟩) n cap) L b := fun b => (roBk_set (y := { x with r := { x.r with nm := mtS M } }) hx rfl b).trans (RB b)
      have Y0 : ∀ W1, W1 = wt.setCell ⟨g, k * 5, none⟩ (.string (mtS M)) → OwnRo W1 B (.slice (some ⟨g, 0, none⟩) n cap) (Lk.set k { x with r := { x.r with nm := mtS M } }) ∧ Rel.Keep (fun b => b < w.heap.size ∧ ¬ roBk (.slice (some ⟨g, 0, none⟩) n cap) L b) w W1 := by
        intro W1 hW1
        subst hW1
        exact ⟨s0.1, keep_grown KT.out s0.2 (fun b hb => ⟨Nat.lt_of_lt_of_le hb.1 KT.out.size, fun e => hb.2 (.inl e.symm)⟩)⟩
      have Z0 : Hid (OwnRo (wt.setCell ⟨g, k * 5, none⟩ (.string (mtS M))) B (.slice (some ⟨g, 0, none⟩) n cap) (Lk.set k { x with r := { x.r with nm := mtS M } }) ∧ Rel.Keep (fun b => b < w.heap.size ∧ ¬ roBk (.slice (some ⟨g, 0, none⟩) n cap) L b) w (wt.setCell ⟨g, k * 5, none⟩ (.string (mtS M)))) := Y0 _ rfl
      obtain ⟨c1, z1⟩ := ot.row.cell roG_len (j := 1) hx rfl
      have HR : Hid (∀ W, OwnRo W B (.slice (some ⟨g, 0, none⟩) n cap) (Lk.set k { x with r := { x.r with nm := mtS M } }) → Calls Tryz.prog 98 #[.slice x.ra x.r.rs.length x.rc, .int .i64 ((M : Int) + 1)] W fun e w' => e = .returned (.int .i64 ((M : Int) + 1 + 6 * (x.r.rs.length : Int))) ∧ OwnS rv 6 164 w' B x.sl (mkRuleL (M + 1) x.r.rs.length) ∧ W.grownBy w' x.sl.ownBlock) := fun W hW => by
        have hr0 := hW.rules _ (List.mem_of_getElem? hx0)
        have := markRuleS_any x.ra x.r.rs.length x.rc B (M + 1) x.r.rs W hr0 (by omega) hMn
        rw [show ((M + 1 : Nat) : Int) = (M : Int) + 1 by omega, show ((M + 1 + 6 * x.r.rs.length : Nat) : Int) = (M : Int) + 1 + 6 * (x.r.rs.length : Int) by omega] at this
        exact this
      clear Y0 s0 ot KT
      go_wp2_with fail
      refine (HR.out _ Z0.out.1).mono ?_
      rintro e w2 ⟨rfl, o2, g2⟩
      have o3 := Z0.out.1.setR (mkRuleL (M + 1) x.r.rs.length) hx0 (mkRuleL_len _ _) g2 o2
      rw [List.set_set] at o3
      have K2 : Hid (Rel.Keep (fun b => b < w.heap.size ∧ ¬ roBk (.slice (some ⟨g, 0, none⟩) n cap) L b) w w2) := keep_grown Z0.out.2 g2 (fun b hb => ⟨Nat.lt_of_lt_of_le hb.1 Z0.out.2.size, fun e => hb.2 ((RB0 b).1 (.inr ⟨_, List.mem_of_getElem? hx0, e.symm⟩))⟩)
      have hx1 : (Lk.set k { x with r := { x.r with nm := mtS M, rs := mkRuleL (M + 1) x.r.rs.length } })[k]? = some { x with r := { x.r with nm := mtS M, rs := mkRuleL (M + 1) x.r.rs.length } } := List.getElem?_set_self (List.getElem?_eq_some_iff.1 hx).1
      have HXX : Hid (Lk[k]? = some x) := hx
      clear HR Z0 g2 o2 c0 z0 c1 z1 hx0 RB0 hx
      obtain ⟨K1, hK1⟩ : ∃ K1, (M : Int) + 1 + 6 * (x.r.rs.length : Int) = K1 := ⟨_, rfl⟩
      have hK1z : K1 ≤ 300000000000 := by omega
      have hK10 : 0 ≤ K1 := by omega
      have HK1 : Hid ((M : Int) + 1 + 6 * (x.r.rs.length : Int) = K1) := hK1
      rw [hK1]
      clear hK1
      obtain ⟨c2, z2⟩ := o3.row.cell roG_len (j := 2) hx1 rfl
      obtain ⟨c3, z3⟩ := o3.row.cell roG_len (j := 3) hx1 rfl
      obtain ⟨c4, z4⟩ := o3.row.cell roG_len (j := 4) hx1 rfl
      have s2 := o3.set1 (j := 2) { x with r := ⟨mtS M, mkRuleL (M + 1) x.r.rs.length, K1, x.r.m, x.r.i⟩ } (u := .int .i64 K1) hx1 (by omega) rfl rfl rfl
      rw [List.set_set] at s2
      have hx2 : (Lk.set k { x with r := ⟨mtS M, mkRuleL (M + 1) x.r.rs.length, K1, x.r.m, x.r.i⟩ })[k]? = some { x with r := ⟨mtS M, mkRuleL (M + 1) x.r.rs.length, K1, x.r.m, x.r.i⟩ } := List.getElem?_set_self (List.getElem?_eq_some_iff.1 HXX.out).1
      have s3 := s2.1.set1 (j := 3) { x with r := ⟨mtS M, mkRuleL (M + 1) x.r.rs.length, K1, K1 + 1, x.r.i⟩ } (u := .int .i64 (K1 + 1)) hx2 (by omega) rfl rfl rfl
      rw [List.set_set] at s3
      have hx3 : (Lk.set k { x with r := ⟨mtS M, mkRuleL (M + 1) x.r.rs.length, K1, K1 + 1, x.r.i⟩ })[k]? = some { x with r := ⟨mtS M, mkRuleL (M + 1) x.r.rs.length, K1, K1 + 1, x.r.i⟩ } := List.getElem?_set_self (List.getElem?_eq_some_iff.1 HXX.out).1
      have s4 := s3.1.set1 (j := 4) { x with r := ⟨mtS M, mkRuleL (M + 1) x.r.rs.length, K1, K1 + 1, K1 + 1 + 1⟩ } (u := .int .i64 (K1 + 1 + 1)) hx3 (by omega) rfl rfl rfl
      rw [List.set_set] at s4
      have e4 : ({ x with r := ⟨mtS M, mkRuleL (M + 1) x.r.rs.length, K1, K1 + 1, K1 + 1 + 1⟩ } : RoX) = mkRo M x := by unfold mkRo; rw [HK1.out]
      rw [e4] at s4
      have Y4 : ∀ W1, W1 = ((w2.setCell ⟨g, k * 5 + 2, none⟩ (.int .i64 K1)).setCell ⟨g, k * 5 + 3, none⟩ (.int .i64 (K1 + 1))).setCell ⟨g, k * 5 + 4, none⟩ (.int .i64 (K1 + 1 + 1)) → OwnRo W1 B (.slice (some ⟨g, 0, none⟩) n cap) (mixRo m0 L (k + 1)) ∧ (∀ b, roBk (.slice (some ⟨g, 0, none⟩) n cap) (mixRo m0 L (k + 1)) b ↔ roBk (.slice (some ⟨g, 0, none⟩) n cap) L b) ∧ Rel.Keep (fun b => b < w.heap.size ∧ ¬ roBk (.slice (some ⟨g, 0, none⟩) n cap) L b) w W1 := by
        intro W1 hW1
        subst hW1
        rw [HST.out] at s4
        refine ⟨s4.1, fun b => ?_, keep_grown K2.out (grown_tr (grown_tr s2.2 s3.2) s4.2) (fun b hb => ⟨Nat.lt_of_lt_of_le hb.1 K2.out.size, fun e => hb.2 (.inl e.symm)⟩)⟩
        rw [← HST.out]
        exact (roBk_set HXX.out (mkRo_sl M x) b).trans (RB b)
      have Z4 : Hid (OwnRo (((w2.setCell ⟨g, k * 5 + 2, none⟩ (.int .i64 K1)).setCell ⟨g, k * 5 + 3, none⟩ (.int .i64 (K1 + 1))).setCell ⟨g, k * 5 + 4, none⟩ (.int .i64 (K1 + 1 + 1))) B (.slice (some ⟨g, 0, none⟩) n cap) (mixRo m0 L (k + 1)) ∧ (∀ b, roBk (.slice (some ⟨g, 0, none⟩) n cap) (mixRo m0 L (k + 1)) b ↔ roBk (.slice (some ⟨g, 0, none⟩) n cap) L b) ∧ Rel.Keep (fun b => b < w.heap.size ∧ ¬ roBk (.slice (some ⟨g, 0, none⟩) n cap) L b) w (((w2.setCell ⟨g, k * 5 + 2, none⟩ (.int .i64 K1)).setCell ⟨g, k * 5 + 3, none⟩ (.int .i64 (K1 + 1))).setCell ⟨g, k * 5 + 4, none⟩ (.int .i64 (K1 + 1 + 1)))) := Y4 _ rfl
      clear Y4 s2 s3 s4 e4 hx1 hx2 hx3 o3 K2 RB HXX HST
      go_wp2
      go_roundw
      case rel => exact ⟨k + 1, M + (4 + 6 * x.r.rs.length), by omega, by go_num, by rw [show ((M + (4 + 6 * x.r.rs.length) : Nat) : Int) = K1 + 1 + 1 + 1 by have := HK1.out; omega], HMN, Z4⟩
      case measure => simp [intOf]; omega
    · obtain rfl : k = n := by omega
      have hM2 := hM.out
      rw [← hn, List.take_length] at hM2
      subst hM2
      have Z := X.out
      rw [← hn, mix_all] at Z
      go_wp2
      go_ret
      exact ⟨rfl, by rw [← hn]; exact Z.1, by rw [← hn]; exact Z.2.2⟩
end Go.Proofs.YtmeejholckelgaaGreat

namespace Go.Proofs.YtmeejholckelgaaGreat
open Go.RowKit Go.PlainAid Go.Proofs.YtmeejholckelgaaGreat.Bt Go.Sort
set_option linter.unusedVariables false
set_option maxRecDepth 20000
/-- The blocks that a configuration owns. -/
def cfBk (vp vr : Value) (L : List RoX) (k : Nat) : Prop := vp.ownBlock = some k ∨ roBk vr L k
set_option maxHeartbeats 4000000 in
theorem markConfig_any (ip b gt : Int) (gm wm : ByteArray) (rs : Int) (x y : Option Addr) (lenx capx leny capy : Nat) (ps : List PlaceV) (L : List RoX) (B m0 : Nat) (w : World) (h : OwnS pv 4 120 w B (.slice x lenx capx) ps) (h2 : OwnRo w B (.slice y leny capy) L) (h0 : 0 < m0) (hm : m0 + 4 * lenx + roN L ≤ 100000000000) (hy : leny ≤ 1048576) :
    Calls Tryz.prog 14 #[.agg #[.int .i64 ip, .int .i64 b, .int .i64 gt, .string gm, .string wm, .int .i64 rs, .slice x lenx capx, .slice y leny capy], .int .i64 (m0 : Int)] w fun e w' => e = .returned (.int .i64 ((m0 + 4 * lenx + roN L : Nat) : Int)) ∧ OwnS pv 4 120 w' B (.slice x lenx capx) (mkPlaceL m0 lenx) ∧ OwnRo w' B (.slice y leny capy) (mkRoL (m0 + 4 * lenx) L) ∧ Rel.Keep (fun k => k < w.heap.size ∧ ¬ cfBk (.slice x lenx capx) (.slice y leny capy) L k) w w' := by
  have al : Below w.heap.size w (w.alloc (.cells #[.int .i64 ip, .int .i64 b, .int .i64 gt, .string gm, .string wm, .int .i64 rs, .slice x lenx capx, .slice y leny capy] 48)) := (Below.refl _ _).alloc (Nat.le_refl _) _
  have G0 : Hid (Bx (w.alloc (.cells #[.int .i64 ip, .int .i64 b, .int .i64 gt, .string gm, .string wm, .int .i64 rs, .slice x lenx capx, .slice y leny capy] 48)) w.heap.size [.int .i64 ip, .int .i64 b, .int .i64 gt, .string gm, .string wm, .int .i64 rs, .slice x lenx capx, .slice y leny capy]) := Bx.new w #[.int .i64 ip, .int .i64 b, .int .i64 gt, .string gm, .string wm, .int .i64 rs, .slice x lenx capx, .slice y leny capy] 48
  have hp := h.now al
  have hr := h2.now al
  have ap : ∀ k, (Value.slice x lenx capx).ownBlock = some k → ¬ roBk (.slice y leny capy) L k := by
    rintro k hk (hb | ⟨z, hz, hb⟩)
    · exact apB_of h h2.row (by decide) k hk hb
    · exact apB_of h (h2.rules z hz) (by decide) k hk hb
  have HP : Hid (Calls Tryz.prog 54 #[.slice x lenx capx, .int .i64 (m0 : Int)] (w.alloc (.cells #[.int .i64 ip, .int .i64 b, .int .i64 gt, .string gm, .string wm, .int .i64 rs, .slice x lenx capx, .slice y leny capy] 48)) fun e w' => e = .returned (.int .i64 ((m0 + 4 * lenx : Nat) : Int)) ∧ OwnS pv 4 120 w' B (.slice x lenx capx) (mkPlaceL m0 lenx) ∧ (w.alloc (.cells #[.int .i64 ip, .int .i64 b, .int .i64 gt, .string gm, .string wm, .int .i64 rs, .slice x lenx capx, .slice y leny capy] 48)).grownBy w' (Value.slice x lenx capx).ownBlock) := markPlaceS_any x lenx capx B m0 ps _ hp h0 (by omega)
  have HR : Hid (∀ W, OwnRo W B (.slice y leny capy) L → Calls Tryz.prog 55 #[.slice y leny capy, .int .i64 ((m0 + 4 * lenx : Nat) : Int)] W fun e w' => e = .returned (.int .i64 ((m0 + 4 * lenx + roN L : Nat) : Int)) ∧ OwnRo w' B (.slice y leny capy) (mkRoL (m0 + 4 * lenx) L) ∧ Rel.Keep (fun b => b < W.heap.size ∧ ¬ roBk (.slice y leny capy) L b) W w') := fun W hW => markRoleS_any y leny capy B (m0 + 4 * lenx) L W hW (by omega) (by omega) hy
  obtain ⟨pb, hpb⟩ : ∃ pb, (Value.slice x lenx capx).ownBlock = pb := ⟨_, rfl⟩
  have hlt : ∀ k, pb = some k → k < w.heap.size := fun k hk => (h.lt k (by rw [hpb]; exact hk)).2
  generalize hn1 : ((m0 + 4 * lenx : Nat) : Int) = n1 at HP HR
  generalize hn2 : ((m0 + 4 * lenx + roN L : Nat) : Int) = n2 at HR ⊢
  clear hn1 hn2 h h2 h0 hm
  go_enter Tryz.func14, Tryz.ntmps14
  go_wp2_with fail
  refine HP.out.mono ?_
  rintro e w1 ⟨rfl, o1, g1⟩
  have r1 : OwnRo w1 B (.slice y leny capy) L := hr.keepB (fun k hk => g1.block k (hr.lt k hk).2 (fun e => ap k e.symm hk))
  have c7 : w1.cell? ⟨w.heap.size, 7, none⟩ = some (.slice y leny capy) := by
    have h7 := G0.out.cell 7 rfl
    have e : w1.heap[w.heap.size]? = (w.alloc (.cells #[.int .i64 ip, .int .i64 b, .int .i64 gt, .string gm, .string wm, .int .i64 rs, .slice x lenx capx, .slice y leny capy] 48)).heap[w.heap.size]? := g1.block _ (by simp) (fun e => by rw [hpb] at e; have := hlt _ e.symm; omega)
    unfold World.cell? at h7 ⊢
    rw [show w1.heap[(⟨w.heap.size, 7, none⟩ : Addr).block]? = (w.alloc (.cells #[.int .i64 ip, .int .i64 b, .int .i64 gt, .string gm, .string wm, .int .i64 rs, .slice x lenx capx, .slice y leny capy] 48)).heap[(⟨w.heap.size, 7, none⟩ : Addr).block]? from e]
    exact h7
  have K1 : Hid (Rel.Keep (fun k => k < w.heap.size ∧ ¬ cfBk (.slice x lenx capx) (.slice y leny capy) L k) w w1) := keep_grown (Rel.Keep.mono ⟨al.os, al.tape, al.output, al.size, al.block⟩ (fun k hk => hk.1)) g1 (fun k hk => ⟨by have := al.size; exact Nat.lt_of_lt_of_le hk.1 this, fun e => hk.2 (.inl e.symm)⟩)
  have O1 : Hid (OwnS pv 4 120 w1 B (.slice x lenx capx) (mkPlaceL m0 lenx)) := o1
  have A1 : Hid (w.heap.size ≤ w1.heap.size) := Nat.le_trans al.size g1.size
  have AP : Hid (∀ k, (Value.slice x lenx capx).ownBlock = some k → ¬ roBk (.slice y leny capy) L k) := ap
  clear HP hp hr g1 o1 G0 al ap hlt
  go_wp2_with fail
  refine (HR.out _ r1).mono ?_
  rintro e w2 ⟨rfl, r2, k2⟩
  have FIN : Hid (OwnS pv 4 120 w2 B (.slice x lenx capx) (mkPlaceL m0 lenx) ∧ OwnRo w2 B (.slice y leny capy) (mkRoL (m0 + 4 * lenx) L) ∧ Rel.Keep (fun k => k < w.heap.size ∧ ¬ cfBk (.slice x lenx capx) (.slice y leny capy) L k) w w2) := by
    refine ⟨?_, r2, K1.out.trans (Rel.Keep.mono k2 (fun k hk => ⟨Nat.lt_of_lt_of_le hk.1 A1.out, fun h => hk.2 (.inr h)⟩))⟩
    have o := O1.out
    refine ⟨o.1, ?_⟩
    rcases o.2 with h' | ⟨g, cap, cur, h1, hB, hg, h4⟩
    · exact .inl h'
    · refine .inr ⟨g, cap, cur, h1, hB, ?_, h4⟩
      rw [k2.block g ⟨(Array.getElem?_eq_some_iff.1 hg).1, AP.out g (by rw [h1]; rfl)⟩]
      exact hg
  clear r1 r2 k2 K1 O1 AP A1 HR c7 hpb
  go_wp2
  go_ret
  exact ⟨rfl, FIN.out⟩
end Go.Proofs.YtmeejholckelgaaGreat

namespace Go.Proofs.YtmeejholckelgaaGreat
open Go.RowKit Go.PlainAid
set_option linter.unusedVariables false

section OpnG
variable {H : Type} {enc : TypeId × Value → H} {w : World} {base : Nat} {spare : Nat → Bool} {held : Bool} {fuel : Nat} {cs : List Value} {x : DataW H × List MemPlace}

theorem gis3 {α : Type} {cs : List α} (h : cs.length = 3) : ∃ c0 c1 c2, cs = [c0, c1, c2] := by
  match cs, h with
  | [c0, c1, c2], _ => exact ⟨c0, c1, c2, rfl⟩

theorem gis5 {α : Type} {cs : List α} (h : cs.length = 5) : ∃ c0 c1 c2 c3 c4, cs = [c0, c1, c2, c3, c4] := by
  match cs, h with
  | [c0, c1, c2, c3, c4], _ => exact ⟨c0, c1, c2, c3, c4, rfl⟩

theorem gis6 {α : Type} {cs : List α} (h : cs.length = 6) : ∃ c0 c1 c2 c3 c4 c5, cs = [c0, c1, c2, c3, c4, c5] := by
  match cs, h with
  | [c0, c1, c2, c3, c4, c5], _ => exact ⟨c0, c1, c2, c3, c4, c5, rfl⟩

theorem gis10 {α : Type} {cs : List α} (h : cs.length = 10) : ∃ c0 c1 c2 c3 c4 c5 c6 c7 c8 c9, cs = [c0, c1, c2, c3, c4, c5, c6, c7, c8, c9] := by
  match cs, h with
  | [c0, c1, c2, c3, c4, c5, c6, c7, c8, c9], _ => exact ⟨c0, c1, c2, c3, c4, c5, c6, c7, c8, c9, rfl⟩

theorem gl_User : Tryz.prog.cellsOf 110 = 6 := by kernel_rfl
theorem gl_sUser : Tryz.prog.cellsOf 28 = 1 := by kernel_rfl
theorem gl_Session : Tryz.prog.cellsOf 112 = 10 := by kernel_rfl
theorem gl_sSession : Tryz.prog.cellsOf 29 = 1 := by kernel_rfl
theorem gl_Fail : Tryz.prog.cellsOf 115 = 3 := by kernel_rfl
theorem gl_sFail : Tryz.prog.cellsOf 30 = 1 := by kernel_rfl
theorem gl_Record : Tryz.prog.cellsOf 136 = 5 := by kernel_rfl
theorem gl_sRecord : Tryz.prog.cellsOf 31 = 1 := by kernel_rfl
theorem gl_Guests : Tryz.prog.cellsOf 33 = 5 := by kernel_rfl
theorem gl_int : Tryz.prog.cellsOf 3 = 1 := by kernel_rfl
theorem gl_string : Tryz.prog.cellsOf 9 = 1 := by kernel_rfl
theorem gl_bool : Tryz.prog.cellsOf 4 = 1 := by kernel_rfl
theorem open_user (h : DataW.trod enc Tryz.prog w base spare held fuel 110 cs = some x) : ∃ d, UsR w d cs := by
  obtain ⟨xs, m, _, _, hcl, hlen, hfld⟩ := DataW.trod_struct Tryz.underlying110 h
  rw [gl_User] at hcl
  obtain ⟨c0, c1, c2, c3, c4, c5, rfl⟩ := gis6 hcl
  replace hlen : xs.length = 6 := hlen
  have e0 := hfld 0 _ rfl
  rw [List.getElem?_eq_getElem (by omega)] at e0
  obtain ⟨a0, q0, _, w0⟩ := DataW.trod_string Tryz.underlying9 e0
  simp [gl_string] at q0
  subst q0
  have e1 := hfld 1 _ rfl
  rw [List.getElem?_eq_getElem (by omega)] at e1
  obtain ⟨a1, q1, _, w1⟩ := DataW.trod_string Tryz.underlying9 e1
  simp [gl_string] at q1
  subst q1
  have e2 := hfld 2 _ rfl
  rw [List.getElem?_eq_getElem (by omega)] at e2
  obtain ⟨a2, q2, _, w2⟩ := DataW.trod_string Tryz.underlying9 e2
  simp [gl_string] at q2
  subst q2
  have e3 := hfld 3 _ rfl
  rw [List.getElem?_eq_getElem (by omega)] at e3
  obtain ⟨a3, q3, _, w3⟩ := DataW.trod_string Tryz.underlying9 e3
  simp [gl_string] at q3
  subst q3
  have e4 := hfld 4 _ rfl
  rw [List.getElem?_eq_getElem (by omega)] at e4
  obtain ⟨a4, q4, _, w4⟩ := DataW.trod_int Tryz.underlying3 e4
  simp [gl_int] at q4
  subst q4
  have e5 := hfld 5 _ rfl
  rw [List.getElem?_eq_getElem (by omega)] at e5
  obtain ⟨a5, q5, _, w5⟩ := DataW.trod_int Tryz.underlying3 e5
  simp [gl_int] at q5
  subst q5
  exact ⟨⟨a0, a1, a2, a3, a4, a5⟩, rfl, w0, w1, w2, w3, w4, w5⟩

theorem open_users (h : DataW.trod enc Tryz.prog w base spare held fuel 28 cs = some x) : ∃ (a : Option Addr) (len cap : Nat) (xs : List UserV), cs = [.slice a len cap] ∧ xs.length = len ∧ len ≤ cap ∧ cap ≤ maxLen ∧ (a = none → cap = 0) ∧ Rw UsR 6 w a xs :=
  rows_of UsR 6 Tryz.underlying28 gl_User (by omega) (fun _ _ _ h => open_user h) h

theorem open_session (h : DataW.trod enc Tryz.prog w base spare held fuel 112 cs = some x) : ∃ d, SeR w d cs := by
  obtain ⟨xs, m, _, _, hcl, hlen, hfld⟩ := DataW.trod_struct Tryz.underlying112 h
  rw [gl_Session] at hcl
  obtain ⟨c0, c1, c2, c3, c4, c5, c6, c7, c8, c9, rfl⟩ := gis10 hcl
  replace hlen : xs.length = 10 := hlen
  have e0 := hfld 0 _ rfl
  rw [List.getElem?_eq_getElem (by omega)] at e0
  obtain ⟨a0, q0, _, w0⟩ := DataW.trod_int Tryz.underlying3 e0
  simp [gl_int] at q0
  subst q0
  have e1 := hfld 1 _ rfl
  rw [List.getElem?_eq_getElem (by omega)] at e1
  obtain ⟨a1, q1, _, w1⟩ := DataW.trod_int Tryz.underlying3 e1
  simp [gl_int] at q1
  subst q1
  have e2 := hfld 2 _ rfl
  rw [List.getElem?_eq_getElem (by omega)] at e2
  obtain ⟨a2, q2, _, w2⟩ := DataW.trod_string Tryz.underlying9 e2
  simp [gl_string] at q2
  subst q2
  have e3 := hfld 3 _ rfl
  rw [List.getElem?_eq_getElem (by omega)] at e3
  obtain ⟨a3, q3, _, w3⟩ := DataW.trod_int Tryz.underlying3 e3
  simp [gl_int] at q3
  subst q3
  have e4 := hfld 4 _ rfl
  rw [List.getElem?_eq_getElem (by omega)] at e4
  obtain ⟨a4, q4, _, w4⟩ := DataW.trod_int Tryz.underlying3 e4
  simp [gl_int] at q4
  subst q4
  have e5 := hfld 5 _ rfl
  rw [List.getElem?_eq_getElem (by omega)] at e5
  obtain ⟨a5, q5, _, w5⟩ := DataW.trod_int Tryz.underlying3 e5
  simp [gl_int] at q5
  subst q5
  have e6 := hfld 6 _ rfl
  rw [List.getElem?_eq_getElem (by omega)] at e6
  obtain ⟨a6, q6, _, w6⟩ := DataW.trod_int Tryz.underlying3 e6
  simp [gl_int] at q6
  subst q6
  have e7 := hfld 7 _ rfl
  rw [List.getElem?_eq_getElem (by omega)] at e7
  obtain ⟨a7, q7, _, w7⟩ := DataW.trod_int Tryz.underlying3 e7
  simp [gl_int] at q7
  subst q7
  have e8 := hfld 8 _ rfl
  rw [List.getElem?_eq_getElem (by omega)] at e8
  obtain ⟨a8, q8, _, w8⟩ := DataW.trod_int Tryz.underlying3 e8
  simp [gl_int] at q8
  subst q8
  have e9 := hfld 9 _ rfl
  rw [List.getElem?_eq_getElem (by omega)] at e9
  obtain ⟨a9, q9, _, w9⟩ := DataW.trod_int Tryz.underlying3 e9
  simp [gl_int] at q9
  subst q9
  exact ⟨⟨a0, a1, a2, a3, a4, a5, a6, a7, a8, a9⟩, rfl, w0, w1, w2, w3, w4, w5, w6, w7, w8, w9⟩

theorem open_sessions (h : DataW.trod enc Tryz.prog w base spare held fuel 29 cs = some x) : ∃ (a : Option Addr) (len cap : Nat) (xs : List SessV), cs = [.slice a len cap] ∧ xs.length = len ∧ len ≤ cap ∧ cap ≤ maxLen ∧ (a = none → cap = 0) ∧ Rw SeR 10 w a xs :=
  rows_of SeR 10 Tryz.underlying29 gl_Session (by omega) (fun _ _ _ h => open_session h) h

theorem open_fail (h : DataW.trod enc Tryz.prog w base spare held fuel 115 cs = some x) : ∃ d, FaR w d cs := by
  obtain ⟨xs, m, _, _, hcl, hlen, hfld⟩ := DataW.trod_struct Tryz.underlying115 h
  rw [gl_Fail] at hcl
  obtain ⟨c0, c1, c2, rfl⟩ := gis3 hcl
  replace hlen : xs.length = 3 := hlen
  have e0 := hfld 0 _ rfl
  rw [List.getElem?_eq_getElem (by omega)] at e0
  obtain ⟨a0, q0, _, w0⟩ := DataW.trod_string Tryz.underlying9 e0
  simp [gl_string] at q0
  subst q0
  have e1 := hfld 1 _ rfl
  rw [List.getElem?_eq_getElem (by omega)] at e1
  obtain ⟨a1, q1, _, w1⟩ := DataW.trod_int Tryz.underlying3 e1
  simp [gl_int] at q1
  subst q1
  have e2 := hfld 2 _ rfl
  rw [List.getElem?_eq_getElem (by omega)] at e2
  obtain ⟨a2, q2, _, w2⟩ := DataW.trod_int Tryz.underlying3 e2
  simp [gl_int] at q2
  subst q2
  exact ⟨⟨a0, a1, a2⟩, rfl, w0, w1, w2⟩

theorem open_fails (h : DataW.trod enc Tryz.prog w base spare held fuel 30 cs = some x) : ∃ (a : Option Addr) (len cap : Nat) (xs : List FailV), cs = [.slice a len cap] ∧ xs.length = len ∧ len ≤ cap ∧ cap ≤ maxLen ∧ (a = none → cap = 0) ∧ Rw FaR 3 w a xs :=
  rows_of FaR 3 Tryz.underlying30 gl_Fail (by omega) (fun _ _ _ h => open_fail h) h

theorem open_record (h : DataW.trod enc Tryz.prog w base spare held fuel 136 cs = some x) : ∃ d, ReR w d cs := by
  obtain ⟨xs, m, _, _, hcl, hlen, hfld⟩ := DataW.trod_struct Tryz.underlying136 h
  rw [gl_Record] at hcl
  obtain ⟨c0, c1, c2, c3, c4, rfl⟩ := gis5 hcl
  replace hlen : xs.length = 5 := hlen
  have e0 := hfld 0 _ rfl
  rw [List.getElem?_eq_getElem (by omega)] at e0
  obtain ⟨a0, q0, _, w0⟩ := DataW.trod_int Tryz.underlying3 e0
  simp [gl_int] at q0
  subst q0
  have e1 := hfld 1 _ rfl
  rw [List.getElem?_eq_getElem (by omega)] at e1
  obtain ⟨a1, q1, _, w1⟩ := DataW.trod_int Tryz.underlying3 e1
  simp [gl_int] at q1
  subst q1
  have e2 := hfld 2 _ rfl
  rw [List.getElem?_eq_getElem (by omega)] at e2
  obtain ⟨a2, q2, _, w2⟩ := DataW.trod_int Tryz.underlying3 e2
  simp [gl_int] at q2
  subst q2
  have e3 := hfld 3 _ rfl
  rw [List.getElem?_eq_getElem (by omega)] at e3
  obtain ⟨a3, q3, _, w3⟩ := DataW.trod_int Tryz.underlying3 e3
  simp [gl_int] at q3
  subst q3
  have e4 := hfld 4 _ rfl
  rw [List.getElem?_eq_getElem (by omega)] at e4
  obtain ⟨a4, q4, _⟩ := DataW.trod_bool Tryz.underlying4 e4
  simp [gl_bool] at q4
  subst q4
  exact ⟨⟨a0, a1, a2, a3, a4⟩, rfl, w0, w1, w2, w3⟩

theorem open_records (h : DataW.trod enc Tryz.prog w base spare held fuel 31 cs = some x) : ∃ (a : Option Addr) (len cap : Nat) (xs : List RecV), cs = [.slice a len cap] ∧ xs.length = len ∧ len ≤ cap ∧ cap ≤ maxLen ∧ (a = none → cap = 0) ∧ Rw ReR 5 w a xs :=
  rows_of ReR 5 Tryz.underlying31 gl_Record (by omega) (fun _ _ _ h => open_record h) h

theorem open_guests (h : DataW.trod enc Tryz.prog w base spare held fuel 33 cs = some x) : ∃ (ua sa fa ra : Option Addr) (ul uc sl sc fl fc rl rc : Nat) (us : List UserV) (ss : List SessV) (fs : List FailV) (rs : List RecV) (nx : Int), cs = [.slice ua ul uc, .slice sa sl sc, .slice fa fl fc, .slice ra rl rc, .int .i64 nx] ∧ (us.length = ul ∧ ul ≤ uc ∧ uc ≤ maxLen ∧ Rw UsR 6 w ua us) ∧ (ss.length = sl ∧ sl ≤ sc ∧ sc ≤ maxLen ∧ Rw SeR 10 w sa ss) ∧ (fs.length = fl ∧ fl ≤ fc ∧ fc ≤ maxLen ∧ Rw FaR 3 w fa fs) ∧ (rs.length = rl ∧ rl ≤ rc ∧ rc ≤ maxLen ∧ Rw ReR 5 w ra rs) ∧ (Lit.int .i64 nx).wf = true := by
  obtain ⟨xs, m, _, _, hcl, hlen, hfld⟩ := DataW.trod_struct Tryz.underlying33 h
  rw [gl_Guests] at hcl
  obtain ⟨c0, c1, c2, c3, c4, rfl⟩ := gis5 hcl
  replace hlen : xs.length = 5 := hlen
  have e0 := hfld 0 _ rfl
  rw [List.getElem?_eq_getElem (by omega)] at e0
  obtain ⟨a0, len0, cap0, xs0, q0, l0, lc0, cm0, _, r0⟩ := open_users e0
  simp [gl_sUser] at q0
  subst q0
  have e1 := hfld 1 _ rfl
  rw [List.getElem?_eq_getElem (by omega)] at e1
  obtain ⟨a1, len1, cap1, xs1, q1, l1, lc1, cm1, _, r1⟩ := open_sessions e1
  simp [gl_sSession] at q1
  subst q1
  have e2 := hfld 2 _ rfl
  rw [List.getElem?_eq_getElem (by omega)] at e2
  obtain ⟨a2, len2, cap2, xs2, q2, l2, lc2, cm2, _, r2⟩ := open_fails e2
  simp [gl_sFail] at q2
  subst q2
  have e3 := hfld 3 _ rfl
  rw [List.getElem?_eq_getElem (by omega)] at e3
  obtain ⟨a3, len3, cap3, xs3, q3, l3, lc3, cm3, _, r3⟩ := open_records e3
  simp [gl_sRecord] at q3
  subst q3
  have e4 := hfld 4 _ rfl
  rw [List.getElem?_eq_getElem (by omega)] at e4
  obtain ⟨a4, q4, _, w4⟩ := DataW.trod_int Tryz.underlying3 e4
  simp [gl_int] at q4
  subst q4
  exact ⟨_, _, _, _, _, _, _, _, _, _, _, _, _, _, _, _, _, rfl, ⟨l0, lc0, cm0, r0⟩, ⟨l1, lc1, cm1, r1⟩, ⟨l2, lc2, cm2, r2⟩, ⟨l3, lc3, cm3, r3⟩, w4⟩

end OpnG
end Go.Proofs.YtmeejholckelgaaGreat
