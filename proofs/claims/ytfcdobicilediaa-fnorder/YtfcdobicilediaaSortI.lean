/- SortWords, the program: a few right words, sorted. -/
import Derived.Test.YtfcdobicilediaaSortW
import Derived.Test.YtfcdobicilediaaSortP
namespace Go.Proofs.Ytfcdobicilediaa
open Go.Shelf Go.RowKit Go.PlainAid Go.Lib Go.Sort Go.Proofs Go.Proofs.Ytfcdobicilediaa.Fo
set_option linter.unusedVariables false
set_option maxRecDepth 20000

theorem wordInfo2 : (Try.prog.info? 48).map (fun i => (i.zero, i.size, i.bytes)) = some (some (.agg #[.int .i64 0, .int .i64 0]), 2, 16) := by kernel_rfl
/-- 'append([]Word(nil), list...)'. -/
theorem wpl_copyW (w : World) {ops : Array Oper} {rest : List Oper} {o : Oper} {a : Act} {Q : Exit → Act → World → Prop} (hgd : o.guard = none) (s x : Operand)
    (ho : o.op = .call { callee := .builtin .append, args := #[s, x], argTypes := #[41, 41] })
    (hs : a.eval s = .slice none 0 0) (b off n c : Nat) (zs : List (Int × Int)) (hz : zs.length = n) (hx : a.eval x = .slice (some ⟨b, off, none⟩) n c)
    (hp : ∀ i, i < n → w.cell? ⟨b, off + i * 2, none⟩ = some (.int .i64 (zs.getD i (0, 0)).1) ∧ w.cell? ⟨b, off + i * 2 + 1, none⟩ = some (.int .i64 (zs.getD i (0, 0)).2)) (hlen : n ≤ 5000) (h0 : 0 < n)
    (h : ∀ v' w', Hid (OwnP 48 w' w.heap.size v' zs ∧ Below w.heap.size w w') → wpList Try.prog ops Q rest (a.put o.dst v') w') : wpList Try.prog ops Q (o :: rest) a w := by
  obtain ⟨i0, hi, hz0, hz1, hz2⟩ := info_parts wordInfo2
  refine wpList_append_own w hgd s x 41 ho w.heap.size 48 i0 (.agg #[.int .i64 0, .int .i64 0]) 2 16 Try.underlying41 hi hz0 hz1 hz2 rfl (by decide) (.slice none 0 0) 0 [] hs ⟨rfl, .inl ⟨rfl, rfl⟩⟩ ⟨b, off, none⟩ n c (flat zs) hx (by rw [flat_len, hz]) ?_
    (flat_one zs) (by unfold maxLen; omega) (by omega) (Nat.le_refl _) ?_
  · intro j u hu
    rw [add_none]
    have hj : j < zs.length * 2 := by
      by_cases hj : j < zs.length * 2
      · exact hj
      · rw [List.getElem?_eq_none (by rw [flat_len]; omega)] at hu; cases hu
    have fa := flat_at zs (j / 2) (by omega)
    have hc := hp (j / 2) (by omega)
    rcases Nat.mod_two_eq_zero_or_one j with hm | hm
    · have e : j = j / 2 * 2 := by omega
      rw [e, fa.1] at hu
      cases hu
      rw [show off + j = off + j / 2 * 2 by omega]
      exact hc.1
    · have e : j = j / 2 * 2 + 1 := by omega
      rw [e, fa.2] at hu
      cases hu
      rw [show off + j = off + j / 2 * 2 + 1 by omega]
      exact hc.2
  · intro v' w' h2 h3 _
    refine h v' w' ⟨?_, (Below.refl w.heap.size w).grown h3 (Nat.le_refl _) (fun k hk => by cases hk)⟩
    unfold OwnP
    have h2' : w'.ownsRow w.heap.size 48 2 v' (0 + n) ([] ++ flat zs) := h2
    rw [Nat.zero_add, List.nil_append] at h2'
    rw [hz]
    exact h2'
theorem flatK_flat (L : List (Int × Int)) : (flatK encW 2 L.toArray).toList = flat L := by
  apply List.ext_getElem?
  intro t
  by_cases ht : t < L.length * 2
  · have fa := flat_at L (t / 2) (by omega)
    have h0 : t < (flatK encW 2 L.toArray).size := by rw [size_flatK]; simpa using ht
    have e0 : (flatK encW 2 L.toArray)[t]? = some ((encW L.toArray[t / 2]!)[t % 2]!) := by
      rw [Array.getElem?_eq_getElem h0, ← getElem!_pos (flatK encW 2 L.toArray) t h0, get_flatK encW 2 L.toArray t (by simpa using ht)]
    have e1 : L.toArray[t / 2]! = L.getD (t / 2) (0, 0) := by
      have hq : t / 2 < L.length := by omega
      rw [getElem!_pos _ _ (by simpa using hq), List.getD_eq_getElem?_getD, List.getElem?_eq_getElem hq]
      rfl
    rw [Array.getElem?_toList, e0, e1]
    rcases Nat.mod_two_eq_zero_or_one t with hm | hm
    · rw [hm]
      have : t = t / 2 * 2 := by omega
      rw [this, fa.1, show t / 2 * 2 / 2 = t / 2 by omega]
      rfl
    · rw [hm]
      have : t = t / 2 * 2 + 1 := by omega
      rw [this, fa.2, show (t / 2 * 2 + 1) / 2 = t / 2 by omega]
      rfl
  · rw [List.getElem?_eq_none (by rw [Array.length_toList, size_flatK]; simpa using ht), List.getElem?_eq_none (by rw [flat_len]; omega)]

/-- What lies in a sorted row's block. -/
theorem own_sorted {w : World} {B g cap n m : Nat} {e : TypeId} {os : Array Obj} {L M : List (Int × Int)} (h : OwnP e w B (.slice (some ⟨g, 0, none⟩) n cap) L) (hn : L.length = n) (hl : M.length = L.length) :
    OwnP e (sortWorldK encW 2 w g 0 m M.toArray os) B (.slice (some ⟨g, 0, none⟩) n cap) M ∧ w.grownBy (sortWorldK encW 2 w g 0 m M.toArray os) (some g) := by
  subst hn
  rcases h.2 with ⟨h1, h2⟩ | ⟨g', cap', cur, h1, hB, hg, hle, hm, hs, ht⟩
  · cases h1
  cases h1
  have hgl : g < w.heap.size := (Array.getElem?_eq_some_iff.1 hg).1
  have hF : (flatK encW 2 M.toArray).size = L.length * 2 := by rw [size_flatK]; simp [hl]
  have hheap : (sortWorldK encW 2 w g 0 m M.toArray os).heap[g]? = some (.cells (putCells id 0 (flatK encW 2 M.toArray) cur) e (0, 0)) := by
    unfold sortWorldK putRowK
    rw [heap_grow_old _ _ (by simpa using hgl)]
    simp [putRow, mapBlock, Sort.ahead, Array.getElem?_modify, hg, onCells]
  have htake : (putCells id 0 (flatK encW 2 M.toArray) cur).toList.take (L.length * 2) = flat M := by
    rw [← flatK_flat]
    apply List.ext_getElem?
    intro j
    by_cases hj : j < L.length * 2
    · have hjc : j < cur.size := by rw [hs]; exact Nat.lt_of_lt_of_le hj (Nat.mul_le_mul_right _ hle)
      have hjF : j < (flatK encW 2 M.toArray).size := by rw [hF]; exact hj
      rw [List.getElem?_take_of_lt hj, Array.getElem?_toList, Array.getElem?_toList, Array.getElem?_eq_getElem hjF]
      simp [putCells, hj, hjc, hl]
    · rw [List.getElem?_take_eq_none (by omega), List.getElem?_eq_none (by rw [Array.length_toList, hF]; omega)]
  refine ⟨?_, ⟨rfl, rfl, rfl, by simp [sortWorldK, putRowK], fun k hk hne => ?_⟩⟩
  · unfold OwnP
    rw [hl]
    exact ⟨by rw [flat_len, hl], .inr ⟨g, cap, _, rfl, hB, hheap, hle, hm, by simp [putCells, hs], htake⟩⟩
  · unfold sortWorldK putRowK
    rw [heap_grow_old _ _ (by simpa using hk)]
    have : g ≠ k := fun e => hne (by rw [e])
    simp [putRow, mapBlock, Sort.ahead, Array.getElem?_modify, this]
theorem holds_own {w : World} {B g cap n : Nat} {e : TypeId} {L : List (Int × Int)} (h : OwnP e w B (.slice (some ⟨g, 0, none⟩) n cap) L) (hn : L.length = n) : HoldsK encW 2 w g 0 L.toArray := by
  subst hn
  intro j hj
  rw [size_flatK] at hj
  have hj' : j < L.length * 2 := by simpa using hj
  rw [Nat.zero_add]
  refine ⟨?_, World.ownsRow.frozenAt h j⟩
  rw [World.ownsRow.cellAt h j hj', ← flatK_flat, Array.getElem?_toList, Array.getElem?_eq_getElem (by rw [size_flatK]; exact hj)]
  rw [getElem!_pos _ _ (by rw [size_flatK]; exact hj)]
  rfl

/-- All of the first k are right. -/
def okTo (zs : List (Int × Int)) (k : Nat) : Prop := ∀ i, i < k → okW (zs.getD i (0, 0)).1 (zs.getD i (0, 0)).2

theorem ltA {x y : Int × Int} (h : ltOf cmpA x y = true) : kA x < kA y := by
  unfold ltOf at h
  rw [decide_eq_true_eq] at h
  unfold cmpA ord3 at h
  split at h
  · assumption
  · split at h <;> omega

set_option maxHeartbeats 2000000 in
theorem iSort_some (a : Option Addr) (cap : Nat) (zs : List (Int × Int)) (w : World) (h : Prs w a zs) (h0 : 0 < zs.length) (h20 : zs.length < 20) (hok : okTo zs zs.length) :
    Calls Try.prog 19 #[.slice a zs.length cap] w fun e w' => ∃ g c, e = .returned (.tuple #[.slice (some ⟨g, 0, none⟩) zs.length c, .int .i64 0]) ∧ OwnP 48 w' w.heap.size (.slice (some ⟨g, 0, none⟩) zs.length c) (Sort.insertionSort (ltOf cmpA) zs.toArray 0 zs.length).toList ∧ Below w.heap.size w w' := by
  have H : Hid (Prs w a zs) := h
  have HO : Hid (okTo zs zs.length) := hok
  have HW : Hid (∀ x y wx, Calls Try.prog 53 #[.agg #[.int .i64 x, .int .i64 y]] wx fun e w' => e = .returned (.bool (dec (okW x y))) ∧ Grw wx w') := fun x y wx => wordOK_any x y wx
  clear h hok
  obtain ⟨n, hn⟩ : ∃ n, n = zs.length := ⟨_, rfl⟩
  have HN : Hid (n = zs.length) := hn
  rw [← hn] at h0 h20 ⊢
  clear hn
  go_enter Try.func19, Try.ntmps19
  go_wp2
  go_loopw [12] (fun i wr => ∃ k : Nat, k ≤ n ∧ i = .int .i64 k ∧ Hid (Grw w wr)) (fun i _ => n - (intOf i).toNat)
  case atStart => exact ⟨0, Nat.zero_le _, rfl, Grw.refl w⟩
  case round =>
    obtain ⟨k, hk, rfl, HG⟩ := hrel
    by_cases hlt : k < n
    · obtain ⟨b, off, rfl, hb, p0, p1⟩ := H.out.cells HG.out.below (k := k) (by rw [← HN.out]; exact hlt)
      have hltz : (k : Int) < (n : Int) := by omega
      have hokk := HO.out k (by rw [← HN.out]; exact hlt)
      generalize (zs.getD k (0, 0)).1 = x0 at p0 hokk
      generalize (zs.getD k (0, 0)).2 = x1 at p1 hokk
      have HW1 : Hid (∀ wx, Calls Try.prog 53 #[.agg #[.int .i64 x0, .int .i64 x1]] wx fun e w' => e = .returned (.bool true) ∧ Grw wx w') := fun wx => by
        have := HW.out x0 x1 wx
        rw [dec_y hokk] at this
        exact this
      clear hokk
      go_wp2_with fail
      refine (HW1.out _).mono ?_
      rintro e w1 ⟨rfl, g1⟩
      have HG2 : Hid (Grw w w1) := (HG.out.alloc _).trans g1
      clear g1 p0 p1 HG HW1
      go_wp2
      go_roundw
      case rel => exact ⟨k + 1, by omega, by go_num, HG2⟩
      case measure => simp [intOf]; omega
    · obtain rfl : k = n := by omega
      obtain ⟨b, off, rfl, hb, hcs⟩ := H.out (by rw [← HN.out]; exact h0)
      have HP : Hid (∀ i, i < k → wr.cell? ⟨b, off + i * 2, none⟩ = some (.int .i64 (zs.getD i (0, 0)).1) ∧ wr.cell? ⟨b, off + i * 2 + 1, none⟩ = some (.int .i64 (zs.getD i (0, 0)).2)) := fun i hi => by
        have := hcs i (by rw [← HN.out]; exact hi)
        exact ⟨by rw [HG.out.below.cell (by exact hb)]; exact this.1, by rw [HG.out.below.cell (by exact hb)]; exact this.2⟩
      clear hcs
      go_wp2_with (at_builtin; refine wpl_copyW _ rfl _ _ rfl rfl b off k cap zs HN.out.symm rfl HP.out (by omega) h0 ?_)
      intro v1 w1 Y
      obtain ⟨g1, c1, rfl⟩ : ∃ g c, v1 = .slice (some ⟨g, 0, none⟩) k c := by
        rcases Y.out.1.2 with ⟨_, h2⟩ | ⟨g, c, cur, h1, _⟩
        · have : zs.length = 0 := h2
          have := HN.out
          omega
        · exact ⟨g, c, by rw [h1, HN.out]⟩
      have HS : Hid (Calls Try.prog 54 #[.slice (some ⟨g1, 0, none⟩) k c1, .func (.func 55) #[] #[]] w1 fun e w' => e = .returned (.tuple #[]) ∧ ∃ n os, w' = sortWorldK encW 2 w1 g1 0 n (Sort.insertionSort (ltOf cmpA) zs.toArray 0 k) os) := by
        have hz : zs.toArray.size = k := by simpa using HN.out.symm
        have := sortStable_small g1 c1 zs.toArray w1 (holds_own Y.out.1 HN.out.symm) (World.ownsRow.lt Y.out.1 g1 rfl).2 (by rw [hz]; exact h20)
        rw [hz] at this
        exact this
      clear HP
      go_wp2_with fail
      refine HS.out.mono ?_
      rintro e w2 ⟨rfl, m, os, hw2⟩
      have FIN : Hid (OwnP 48 w2 w.heap.size (.slice (some ⟨g1, 0, none⟩) k c1) (Sort.insertionSort (ltOf cmpA) zs.toArray 0 k).toList ∧ Below w.heap.size w w2) := by
        have hz : zs.toArray.size = k := by simpa using HN.out.symm
        have hst := insertion_st (K := kA) (lt := ltOf cmpA) (fun x y h => ltA h) zs.toArray
        rw [hz] at hst
        obtain ⟨R, hR⟩ : ∃ R, R = (Sort.insertionSort (ltOf cmpA) zs.toArray 0 k).toList := ⟨_, rfl⟩
        have hRl : R.length = zs.length := by rw [hR, Array.length_toList, hst.2, HN.out]
        have hRa : Sort.insertionSort (ltOf cmpA) zs.toArray 0 k = R.toArray := by rw [hR]
        rw [hRa] at hw2
        have ow := own_sorted (m := m) (os := os) Y.out.1 HN.out.symm hRl
        rw [← hw2] at ow
        rw [← hR]
        have hb1 : Below wr.heap.size wr w2 := Y.out.2.grown ow.2 Y.out.2.size (fun j hj => by cases hj; exact (World.ownsRow.lt Y.out.1 g1 rfl).1)
        exact ⟨ow.1.lower HG.out.below.size, HG.out.below.trans (hb1.mono HG.out.below.size)⟩
      clear hw2 Y HS
      go_wp2
      go_ret2
      exact ⟨g1, c1, rfl, FIN.out.1, FIN.out.2⟩
end Go.Proofs.Ytfcdobicilediaa
