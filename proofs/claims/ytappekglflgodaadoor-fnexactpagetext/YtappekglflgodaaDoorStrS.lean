/- Rows of texts of one's own; joined, both sides. -/
import Derived.Test.YtappekglflgodaaDoorOwnT
import Derived.Test.YtappekglflgodaaDoorShelf
import Derived.Test.YtappekglflgodaaDoorGrwSet
import Derived.Test.YtappekglflgodaaDoorInfo
import Derived.Test.YtappekglflgodaaDoorOwn
import Derived.Laws.Concat
import Derived.Deep.AppendLies
import Derived.Deep.RegionHeld3
namespace Go.Proofs.YtappekglflgodaaDoor
open Go.RowKit Go.PlainAid Go.Sort
set_option linter.unusedVariables false
set_option maxRecDepth 20000

def stG (s : ByteArray) : List Value := [.string s]
theorem stG_len (s : ByteArray) : (stG s).length = 1 := rfl
theorem flat_st (xs : List ByteArray) : flatS stG xs = xs.map Value.string := by
  induction xs with
  | nil => rfl
  | cons x xs ih => rw [flatS_cons, ih]; rfl
theorem one_st (ys : List ByteArray) : ∀ u ∈ flatS stG ys, u.oneCell' = true := by
  intro u hu
  rw [flat_st] at hu
  obtain ⟨x, _, rfl⟩ := List.mem_map.1 hu
  rfl
theorem infoStr : (Tryd.prog.info? 9).map (fun i => (i.zero, i.size, i.bytes)) = some (some (.string ⟨#[]⟩), 1, 16) := by kernel_rfl
/-- What is kept beside the cells that a region reads. -/
structure KpB (w wx : World) : Prop where
  out : Below w.heap.size w wx
/-- 'append(row, ys...)'. -/
theorem wpl_strs (w : World) {ops : Array Oper} {rest : List Oper} {o : Oper} {a : Act} {Q : Exit → Act → World → Prop} (hgd : o.guard = none) (s x : Operand)
    (ho : o.op = .call { callee := .builtin .append, args := #[s, x], argTypes := #[60, 60] })
    (B : Nat) (v : Value) (L ys : List ByteArray) (hs : a.eval s = v) (hown : OwnS stG 1 9 w B v L)
    (g off m c : Nat) (hm : ys.length = m) (hx : a.eval x = .slice (some ⟨g, off, none⟩) m c) (hc : ∀ j u, (flatS stG ys)[j]? = some u → w.cell? ⟨g, off + j, none⟩ = some u)
    (hlen : L.length + m ≤ 100000) (hB : B ≤ w.heap.size)
    (h : ∀ v' w', Hid (OwnS stG 1 9 w' B v' (L ++ ys) ∧ Below B w w') → w.grownBy w' v.ownBlock → wpList Tryd.prog ops Q rest (a.put o.dst v') w') : wpList Tryd.prog ops Q (o :: rest) a w := by
  obtain ⟨i0, hi, hz0, hz1, hz2⟩ := info_parts infoStr
  refine wpList_append_own w hgd s x 60 ho B 9 i0 (.string ⟨#[]⟩) 1 16 Tryd.underlying60 hi hz0 hz1 hz2 rfl (by decide) v L.length (flatS stG L) hs hown ⟨g, off, none⟩ m c (flatS stG ys) hx (by rw [flatS_len stG_len, hm]) ?_
    (one_st ys) (by unfold maxLen; omega) (by omega) hB ?_
  · intro j u hu
    rw [addn]
    exact hc j u hu
  · intro v' w' h2 h3 _
    subst hm
    exact h v' w' (hown.join hB h2 h3) h3
/-- The same within a region. -/
theorem step_strs (w : World) {ops : Array Oper} {o : Oper} {a : Act} {K : Act → World → Prop} {Q : Exit → Act → World → Prop} {E : Prop} (hgd : o.guard = none) (s x : Operand)
    (ho : o.op = .call { callee := .builtin .append, args := #[s, x], argTypes := #[60, 60] })
    (B : Nat) (v : Value) (L : List ByteArray) (hs : a.eval s = v) (hown : OwnS stG 1 9 w B v L)
    (g off m c : Nat) (M : List ByteArray) (hx : a.eval x = .slice (some ⟨g, off, none⟩) m c) (hM : M.length = m) (hn : ∀ j u, (flatS stG M)[j]? = some u → w.cell? ⟨g, off + j, none⟩ = some u)
    (hlen : L.length + m ≤ 100000) (hB : B ≤ w.heap.size)
    (h : ∀ v' w', Hid (OwnS stG 1 9 w' B v' (L ++ M) ∧ Below B w w' ∧ w.grownBy w' v.ownBlock) → K (a.put o.dst v') w') :
    if Region.wanted o (yielded ops a.tmps) = true then Oper.wp Tryd.prog o a w K Q else E := by
  have hw : Region.wanted o (yielded ops a.tmps) = true := by simp [Region.wanted, hgd]
  rw [if_pos hw]
  obtain ⟨i0, hi, hz0, hz1, hz2⟩ := info_parts infoStr
  refine wp_append_own w s x 60 ho B 9 i0 (.string ⟨#[]⟩) 1 16 Tryd.underlying60 hi hz0 hz1 hz2 rfl (by decide) v L.length (flatS stG L) hs hown ⟨g, off, none⟩ m c (flatS stG M) hx (by rw [flatS_len stG_len, hM]) (fun j u hu => by rw [addn]; exact hn j u hu)
    (one_st M) (by unfold maxLen; omega) (by omega) hB ?_
  intro v' w' h2 h3 _
  subst hM
  have hj := hown.join hB h2 h3
  exact h v' w' ⟨hj.1, hj.2, h3⟩
theorem st_new (X : World) (s : ByteArray) (T : TypeId) : ∀ j u, (flatS stG [s])[j]? = some u → (X.alloc (.cells #[.string s] T)).cell? ⟨X.heap.size, 0 + j, none⟩ = some u := by
  intro j u hu
  match j, hu with
  | 0, hu => cases hu; simp
/-- Texts joined. -/
def jnT (xs : List ByteArray) (sep : ByteArray) : ByteArray := ⟨(Lib.join (xs.map (·.data.toList)) sep.data.toList).toArray⟩
theorem ba_ext {x y : ByteArray} (h : x.data.toList = y.data.toList) : x = y := by
  apply ByteArray.ext
  exact Array.toList_inj.1 h
theorem jnT_none (sep : ByteArray) : jnT [] sep = ⟨#[]⟩ := rfl
theorem jnT_one (x sep : ByteArray) : jnT [x] sep = x := by
  apply ba_ext
  simp [jnT, Lib.join_one]
theorem jnT_more (xs : List ByteArray) (y sep : ByteArray) (h : xs ≠ []) : jnT (xs ++ [y]) sep = jnT xs sep ++ sep ++ y := by
  apply ba_ext
  obtain ⟨x, r, rfl⟩ : ∃ x r, xs = x :: r := by cases xs with | nil => exact absurd rfl h | cons x r => exact ⟨x, r, rfl⟩
  simp [jnT, Lib.join_cons, Lib.joinTail]
def szT (xs : List ByteArray) : Nat := (xs.map ByteArray.size).sum
theorem szT_app (xs ys : List ByteArray) : szT (xs ++ ys) = szT xs + szT ys := by simp [szT]
theorem jnT_size (sep : ByteArray) : ∀ n (xs : List ByteArray), xs.length = n → (jnT xs sep).size ≤ szT xs + sep.size * n
  | 0, xs, h => by
    obtain rfl := List.eq_nil_of_length_eq_zero h
    rw [jnT_none]
    exact Nat.zero_le _
  | n + 1, xs, h => by
    obtain ⟨ys, y, rfl⟩ : ∃ ys y, xs = ys ++ [y] := ⟨xs.dropLast, xs.getLast (by intro e; simp [e] at h), (List.dropLast_concat_getLast _).symm⟩
    have hl : ys.length = n := by simpa using h
    have ih := jnT_size sep n ys hl
    rw [szT_app]
    have e1 : szT [y] = y.size := by simp [szT]
    by_cases hy : ys = []
    · subst hy
      rw [List.nil_append, jnT_one, e1]
      omega
    · rw [jnT_more ys y sep hy, ByteArray.size_append, ByteArray.size_append, e1, Nat.mul_succ]
      omega
theorem szT_take (xs : List ByteArray) (k : Nat) : szT (xs.take k) ≤ szT xs := by
  have : szT xs = szT (xs.take k) + szT (xs.drop k) := by rw [← szT_app, List.take_append_drop]
  omega
theorem join_any (g c B : Nat) (xs : List ByteArray) (sep : ByteArray) (w : World) (h : OwnS stG 1 9 w B (.slice (some ⟨g, 0, none⟩) xs.length c) xs) (hc : xs.length ≤ c) (hn : xs.length ≤ 100000) (hz : szT xs + sep.size * xs.length ≤ 1000000) :
    Calls Tryd.prog 35 #[.slice (some ⟨g, 0, none⟩) xs.length c, .string sep] w fun e w' => e = .returned (.string (jnT xs sep)) ∧ Below w.heap.size w w' := by
  refine Tryd.strings_Join g 0 c xs sep w (fun j x hx => ?_) ?_ (by omega) hc ?_
  · have := (h.cell stG_len (i := j) (j := 0) hx rfl).1
    simpa using this
  · exact (h.lt g rfl).2
  · have := jnT_size sep xs.length xs rfl
    have e : (Lib.join (xs.map (·.data.toList)) sep.data.toList).length = (jnT xs sep).size := by simp [jnT, ByteArray.size]
    rw [e]
    omega
set_option maxHeartbeats 1000000 in
theorem l00Join_any (a : Option Addr) (c B : Nat) (xs : List ByteArray) (sep : ByteArray) (w : World) (h : OwnS stG 1 9 w B (.slice a xs.length c) xs) (hn : xs.length ≤ 100000) (hz : szT xs + sep.size * xs.length ≤ 1000000) :
    Calls Tryd.prog 37 #[.slice a xs.length c, .string sep] w fun e w' => e = .returned (.string (jnT xs sep)) ∧ w' = w := by
  obtain ⟨n, hln⟩ : ∃ n, n = xs.length := ⟨_, rfl⟩
  rw [← hln] at h hn hz ⊢
  have HO : Hid (OwnS stG 1 9 w B (.slice a n c) xs) := h
  have HL : Hid (n = xs.length) := hln
  have HZ : Hid (szT xs + sep.size * n ≤ 1000000) := hz
  clear h hz hln
  go_enter Tryd.func37, Tryd.ntmps37
  go_wp2
  go_loop [5, 6] (fun v i => ∃ (k : Nat), k ≤ n ∧ i = .int .i64 k ∧ v = .string (jnT (xs.take k) sep)) (fun _ i => n - (intOf i).toNat)
  case atStart => exact ⟨0, Nat.zero_le _, rfl, rfl⟩
  case round =>
    obtain ⟨k, hk, rfl, rfl⟩ := hrel
    by_cases hlt : k < n
    · obtain ⟨x, hx⟩ : ∃ x, xs[k]? = some x := ⟨_, List.getElem?_eq_getElem (by have := HL.out; omega)⟩
      obtain ⟨g, rfl, -, -, -⟩ := HO.out.form (by have := HL.out; omega)
      have hc0 := (HO.out.cell stG_len (i := k) (j := 0) hx rfl).1
      have hc1 : w.cell? ⟨g, k, none⟩ = some (.string x) := by simpa using hc0
      have hz1 := jnT_size sep k (xs.take k) (by rw [List.length_take]; have := HL.out; omega)
      have hz2 := szT_take xs (k + 1)
      have hz3 : sep.size * k ≤ sep.size * n := Nat.mul_le_mul_left _ hk
      have hz4 : szT (xs.take (k + 1)) = szT (xs.take k) + x.size := by rw [takeS_next hx, szT_app]; simp [szT]
      have hz5 : sep.size * (k + 1) ≤ sep.size * n := Nat.mul_le_mul_left _ hlt
      rw [Nat.mul_succ] at hz5
      have hz6 := HZ.out
      have HX : Hid (xs.take (k + 1) = xs.take k ++ [x]) := takeS_next hx
      have hkz : (k : Int) < (n : Int) := by omega
      have hk0 : (0 : Int) ≤ (k : Int) := by omega
      by_cases h0 : k = 0
      · have HE : Hid (jnT (xs.take (k + 1)) sep = jnT (xs.take k) sep ++ x) := by
          show _ = _
          rw [HX.out, h0]
          simp only [List.take_zero, List.nil_append]
          rw [jnT_one, jnT_none]
          apply ba_ext
          simp
        have ht : decide (0 < k) = false := decide_eq_false (by omega)
        have hadd : ∀ wx : World, (Op.stringOp .add (jnT (xs.take k) sep) x).run Tryd.prog wx = .ok (.string (jnT (xs.take k) sep ++ x)) wx := fun wx => run_string_add_sum (P := Tryd.prog) (w := wx) _ _ (by omega)
        clear hc0 hz1 hz2 hz3 hz4 hz5 hz6 HX h0 hx
        generalize jnT (xs.take k) sep = Z at *
        go_wp2
        go_round
        case rel => exact ⟨k + 1, by omega, by go_num, by rw [HE.out]⟩
        case measure => simp [intOf]; omega
      · have HE : Hid (jnT (xs.take (k + 1)) sep = jnT (xs.take k) sep ++ sep ++ x) := by
          show _ = _
          rw [HX.out]
          refine jnT_more _ _ _ (fun e => ?_)
          have h1 : (xs.take k).length = 0 := by rw [e]; rfl
          rw [List.length_take] at h1
          have := HL.out
          omega
        have ht : decide (0 < k) = true := decide_eq_true (by omega)
        have hadd1 : ∀ wx : World, (Op.stringOp .add (jnT (xs.take k) sep) sep).run Tryd.prog wx = .ok (.string (jnT (xs.take k) sep ++ sep)) wx := fun wx => run_string_add_sum (P := Tryd.prog) (w := wx) _ _ (by omega)
        have hadd : ∀ wx : World, (Op.stringOp .add (jnT (xs.take k) sep ++ sep) x).run Tryd.prog wx = .ok (.string (jnT (xs.take k) sep ++ sep ++ x)) wx := fun wx => run_string_add_sum (P := Tryd.prog) (w := wx) _ _ (by rw [ByteArray.size_append]; omega)
        clear hc0 hz1 hz2 hz3 hz4 hz5 hz6 HX h0 hx
        generalize jnT (xs.take k) sep = Z at *
        go_wp2
        go_round
        case rel => exact ⟨k + 1, by omega, by go_num, by rw [HE.out]⟩
        case measure => simp [intOf]; omega
    · have hkn : Hid (xs.take k = xs) := List.take_of_length_le (by have := HL.out; omega)
      have e9 : ¬ k < n := hlt
      go_wp2
      go_ret
      exact ⟨by rw [hkn.out]; rfl, rfl⟩
end Go.Proofs.YtappekglflgodaaDoor
