/- The program's part, numberAt, addNumber, setNumber. -/
import Derived.Test.YtimhkeebgogfoaaDoorProg
import Derived.Test.YtimhkeebgogfoaaDoorLists
import Derived.Test.YtimhkeebgogfoaaDoorNumOf
import Derived.Test.YtimhkeebgogfoaaDoorNumB
import Derived.Laws.CopyOwn
namespace Go.Proofs.YtimhkeebgogfoaaDoor
open Go.RowKit Go.PlainAid
set_option linter.unusedVariables false
set_option maxRecDepth 20000

theorem part_any (b off len cap at_ size : Nat) (w : World) (h : at_ + size ≤ cap) (hc : cap ≤ 9223372036854775807) :
    Calls Tryd.prog 38 #[.slice (some ⟨b, off, none⟩) len cap, .int .i64 at_, .int .i64 size] w fun e w' => ∃ a', e = .returned (.slice a' size size) ∧ (0 < size → a' = some ⟨b, off + at_, none⟩) ∧ w' = w := by
  go_enter Tryd.func38, Tryd.ntmps38
  go_wp2
  · go_ret
    obtain rfl : size = 0 := by omega
    exact ⟨_, rfl, by omega, rfl⟩
  · go_ret
    exact ⟨_, rfl, fun _ => rfl, rfl⟩

theorem Bytes.part {w : World} {b off len : Nat} {f : Nat → Int} (h : Bytes w (some ⟨b, off, none⟩) len f) (at_ size : Nat) (hs : at_ + size ≤ len) (a' : Option Addr) (ha : 0 < size → a' = some ⟨b, off + at_, none⟩) : Bytes w a' size (fun j => f (at_ + j)) := by
  refine ⟨fun k => h.1 _, fun h0 => ?_⟩
  obtain ⟨b', off', e, hc⟩ := h.2 (by omega)
  cases e
  exact ⟨b, off + at_, ha h0, fun i hi => by rw [Nat.add_assoc]; exact hc (at_ + i) (by omega)⟩

theorem numberAt_any (a : Option Addr) (len cap : Nat) (f : Nat → Int) (at_ size : Nat) (w : World) (h : Bytes w a len f) (hs : at_ + size ≤ len) (hc : len ≤ cap) (hx : cap ≤ 9223372036854775807) (h1 : 1 ≤ size) (h6 : size ≤ 6) :
    Calls Tryd.prog 25 #[.slice a len cap, .int .i64 at_, .int .i64 size] w fun e w' => e = .returned (.int .i64 (numOf (fun j => f (at_ + j)) size)) ∧ w' = w := by
  obtain ⟨b, off, rfl, -⟩ := h.2 (by omega)
  have H : Hid (Bytes w (some ⟨b, off, none⟩) len f) := h
  clear h
  go_enter Tryd.func25, Tryd.ntmps25
  go_wp2_with fail
  refine (part_any b off len cap at_ size w (by omega) hx).mono ?_
  rintro e w0 ⟨a', rfl, ha, hw⟩
  subst hw
  have HA : Hid (0 < size → a' = some ⟨b, off + at_, none⟩) := ha
  clear ha
  go_wp2_with fail
  refine (numberOf_yes a' size size _ w0 (H.out.part at_ size hs a' HA.out) h1 h6).mono ?_
  rintro e w1 ⟨rfl, hw⟩
  subst hw
  go_wp2
  go_ret
  exact ⟨rfl, rfl⟩

/-- A number's bytes. -/
def nbl (n : Int) (m : Nat) : List Int := (List.range m).map (nb n m)
theorem nbl_len (n : Int) (m : Nat) : (nbl n m).length = m := by simp [nbl]
theorem nbl_bd (n : Int) (m : Nat) : ∀ x ∈ nbl n m, 0 ≤ x ∧ x ≤ 255 := by
  intro x hx
  obtain ⟨j, -, rfl⟩ := List.mem_map.1 hx
  exact nb_bd n m j
theorem nums_nb (n : Int) (m : Nat) : nums (strOf (nb n m) m) = nbl n m := nums_strOf _ _ (nb_bd n m)

theorem below_grownBy {w w' : World} (h : Below w.heap.size w w') (row : Option Nat) : w.grownBy w' row := ⟨h.os, h.tape, h.output, h.size, fun k hk _ => h.block k hk⟩
theorem gr_trans {w w1 w2 : World} {r : Option Nat} (h : w.grownBy w1 r) (k : w1.grownBy w2 r) : w.grownBy w2 r :=
  ⟨k.os.trans h.os, k.tape.trans h.tape, k.output.trans h.output, Nat.le_trans h.size k.size, fun i hi hr => (k.block i (Nat.lt_of_lt_of_le hi h.size) hr).trans (h.block i hi hr)⟩
/-- Of what was there when w was, and is not the row, nothing has turned; the row may be a newer one. -/
theorem gr_newer {w w1 w2 : World} {r r' : Option Nat} (h : w.grownBy w1 r) (k : w1.grownBy w2 r') (hn : ∀ b, r' = some b → r = some b ∨ w.heap.size ≤ b) : w.grownBy w2 r :=
  ⟨k.os.trans h.os, k.tape.trans h.tape, k.output.trans h.output, Nat.le_trans h.size k.size, fun i hi hr => (k.block i (Nat.lt_of_lt_of_le hi h.size) (fun e => by
    rcases hn i e.symm with h' | h'
    · exact hr h'.symm
    · omega)).trans (h.block i hi hr)⟩

theorem news_of_fill {w w1 : World} {m : Nat} {f : Nat → Int} (h : Fill w w1 m m f) : ∀ j u, ((List.range m).map fun i => Value.int .u8 (f i))[j]? = some u → w1.cell? ((⟨w.heap.size, 0, none⟩ : Addr).add j) = some u := by
  intro j u hu
  have hj : j < m := by
    by_cases hj : j < m
    · exact hj
    · rw [List.getElem?_eq_none (by simp; omega)] at hu; cases hu
  have e : (⟨w.heap.size, 0, none⟩ : Addr).add j = ⟨w.heap.size, j, none⟩ := by unfold Addr.add; split <;> simp_all
  rw [e, h.2.2.2.2 j hj]
  simpa [hj] using hu

set_option maxHeartbeats 400000 in
theorem addNumber_any (v : Value) (L : List Int) (n : Int) (m : Nat) (w : World) (B : Nat) (h : OwnL 5 w B v L) (hB : B ≤ w.heap.size) (h1 : 1 ≤ m) (h6 : m ≤ 6) (hn : 0 ≤ n) (hr : n < 2 ^ (8 * m)) (hx : n ≤ 9223372036854775807) (hl : L.length ≤ 1000000) :
    Calls Tryd.prog 21 #[v, .int .i64 n, .int .i64 m] w fun e w' => ∃ v', e = .returned v' ∧ OwnL 5 w' B v' (L ++ nbl n m) ∧ w.grownBy w' v.ownBlock := by
  obtain ⟨i0, hi, hz0, hz1, hz2⟩ := info_parts Tryd.infoB
  have H : Hid (OwnL 5 w B v L) := h
  have HR : Hid (n < 2 ^ (8 * m)) := hr
  clear h hr
  go_enter Tryd.func21, Tryd.ntmps21
  go_wp2_with fail
  refine (numberBytes_yes n m w h1 h6 hn HR.out hx).mono ?_
  rintro e w1 ⟨rfl, hf⟩
  have F : Hid (Fill w w1 m m (nb n m)) := hf
  clear hf
  have hz := F.out.1.size
  have O : Hid (w1.ownsRow B 5 1 v L.length (L.map (Value.int .u8))) := by
    have h0 := H.out
    rcases hv : v.ownBlock with _ | q
    · exact World.ownsRow.kept h0 (below_grownBy F.out.1 none) (.inl hv)
    · exact World.ownsRow.kept h0 (below_grownBy F.out.1 none) (.inr (by rw [hv]; simp))
  go_wp2_with (at_builtin; refine wpList_append_own _ rfl _ _ 22 rfl B 5 i0 (.int .u8 0) 1 1 Tryd.underlying22 hi hz0 hz1 hz2 rfl (by decide) v L.length (L.map (Value.int .u8)) rfl O.out ⟨w.heap.size, 0, none⟩ m m ((List.range m).map fun i => Value.int .u8 (nb n m i)) rfl (by simp) (news_of_fill F.out) ?c2 ?c3 ?c4 ?c5 ?_)
  case c2 => intro u hu; obtain ⟨j, -, rfl⟩ := List.mem_map.1 hu; rfl
  case c3 => unfold maxLen; omega
  case c4 => omega
  case c5 => omega
  intro v' w2 ho hg _
  have X : Hid (OwnL 5 w2 B v' (L ++ nbl n m) ∧ w.grownBy w2 v.ownBlock) := by
    refine ⟨?_, gr_trans (below_grownBy F.out.1 _) hg⟩
    unfold OwnL
    have e : (L ++ nbl n m).length = L.length + m := by simp [nbl_len]
    rw [e, List.map_append]
    simpa [nbl, List.map_map, Function.comp_def] using ho
  clear ho hg
  go_wp2
  go_ret
  exact ⟨v', rfl, X.out⟩

/-- A part of a list laid anew. -/
def over (L : List Int) (at_ : Nat) (M : List Int) : List Int := L.take at_ ++ (M ++ L.drop (at_ + M.length))
theorem over_len (L : List Int) (at_ : Nat) (M : List Int) (h : at_ + M.length ≤ L.length) : (over L at_ M).length = L.length := by simp [over]; omega

theorem take_over {α : Type} (M R N : List α) (at_ m l : Nat) (hM : M.length = l) (hN : N.length = m) (h : at_ + m ≤ l) :
    ((M ++ R).take at_ ++ N ++ (M ++ R).drop (at_ + m)).take l = M.take at_ ++ (N ++ M.drop (at_ + m)) := by
  have h1 : (M ++ R).take at_ = M.take at_ := List.take_append_of_le_length (by omega)
  have h2 : (M ++ R).drop (at_ + m) = M.drop (at_ + m) ++ R := List.drop_append_of_le_length (by omega)
  rw [h1, h2, ← List.append_assoc, List.take_append_of_le_length (by simp; omega), List.take_of_length_le (by simp; omega), List.append_assoc]

theorem OwnL.form {e : TypeId} {w : World} {B : Nat} {v : Value} {L : List Int} (h : OwnL e w B v L) (h0 : 0 < L.length) :
    ∃ g cap cur, v = .slice (some ⟨g, 0, none⟩) L.length cap ∧ B ≤ g ∧ w.heap[g]? = some (.cells cur e (0, 0)) ∧ L.length ≤ cap ∧ cap ≤ maxLen ∧ cur.size = cap ∧ cur.toList.take L.length = L.map (Value.int .u8) := by
  rcases h.2 with ⟨h1, h2⟩ | ⟨g, cap, cur, h1, h2, h3, h4, h5, h6, h7⟩
  · omega
  · exact ⟨g, cap, cur, h1, h2, h3, h4, h5, by simpa using h6, by simpa using h7⟩

set_option maxHeartbeats 400000 in
theorem setNumber_any (v : Value) (L : List Int) (at_ : Nat) (n : Int) (m : Nat) (w : World) (B : Nat) (h : OwnL 5 w B v L) (hB : B ≤ w.heap.size) (hat : at_ + m ≤ L.length) (h1 : 1 ≤ m) (h6 : m ≤ 6) (hn : 0 ≤ n) (hr : n < 2 ^ (8 * m)) (hx : n ≤ 9223372036854775807) (hl : L.length ≤ 1000000) :
    Calls Tryd.prog 34 #[v, .int .i64 at_, .int .i64 n, .int .i64 m] w fun e w' => e = .returned (.tuple #[]) ∧ OwnL 5 w' B v (over L at_ (nbl n m)) ∧ w.grownBy w' v.ownBlock := by
  obtain ⟨i0, hi, hz0, hz1, hz2⟩ := info_parts Tryd.infoB
  obtain ⟨g, cap, cur, rfl, hBg, hcur, hcap, hmax, hsz, htk⟩ := h.form (by omega)
  have H : Hid (OwnL 5 w B (.slice (some ⟨g, 0, none⟩) L.length cap) L) := h
  have HR : Hid (n < 2 ^ (8 * m)) := hr
  have HC : Hid (w.heap[g]? = some (.cells cur 5 (0, 0)) ∧ cur.toList.take L.length = L.map (Value.int .u8)) := ⟨hcur, htk⟩
  have hgl : g < w.heap.size := (World.ownsRow.lt h g rfl).2
  clear h hr hcur htk
  have hmax' : cap ≤ 9223372036854775807 := by unfold maxLen at hmax; omega
  go_enter Tryd.func34, Tryd.ntmps34
  go_wp2_with fail
  refine (numberBytes_yes n m w h1 h6 hn HR.out hx).mono ?_
  rintro e w1 ⟨rfl, hf⟩
  have F : Hid (Fill w w1 m m (nb n m)) := hf
  clear hf
  have hz := F.out.1.size
  have HC1 : Hid (w1.heap[g]? = some (.cells cur 5 (0, 0))) := (F.out.1.block g hgl).trans HC.out.1
  go_wp2_with fail
  refine (part_any g 0 L.length cap at_ m w1 (by omega) hmax').mono ?_
  rintro e w0 ⟨a', rfl, ha, hw⟩
  subst hw
  obtain rfl : a' = some ⟨g, at_, none⟩ := by simpa using ha (by omega)
  clear ha
  have hrun := run_copy_row (P := Tryd.prog) w0 22 22 3 5 g at_ m m ⟨w.heap.size, 0, none⟩ m m cur 5 ((List.range m).map fun i => Value.int .u8 (nb n m i)) Tryd.underlying22 (by rw [hi]; simp [hz1]) HC1.out (by simp) (news_of_fill F.out) (by simp; omega) (by intro u hu; obtain ⟨j, -, rfl⟩ := List.mem_map.1 hu; rfl)
  have hlen : ((List.range m).map fun i => Value.int .u8 (nb n m i)).length = m := by simp
  rw [hlen] at hrun
  obtain ⟨W2, hW2⟩ : ∃ W, W = w0.setRow g (cur.toList.take at_ ++ ((List.range m).map fun i => Value.int .u8 (nb n m i)) ++ cur.toList.drop (at_ + m)).toArray := ⟨_, rfl⟩
  rw [← hW2] at hrun
  have X : Hid (OwnL 5 W2 B (.slice (some ⟨g, 0, none⟩) L.length cap) (over L at_ (nbl n m)) ∧ w.grownBy W2 (some g)) := by
    subst hW2
    refine ⟨⟨by simp [over_len L at_ (nbl n m) (by rw [nbl_len]; exact hat)], .inr ⟨g, cap, _, ?_, hBg, setRow_heap w0 g cur _ 5 _ HC1.out, ?_, hmax, ?_, ?_⟩⟩, gr_trans (below_grownBy F.out.1 _) ⟨rfl, rfl, rfl, by simp [World.setRow], fun k _ hk => setRow_other w0 g k _ (fun e => hk (by rw [e]))⟩⟩
    · rw [over_len L at_ (nbl n m) (by rw [nbl_len]; exact hat)]
    · rw [over_len L at_ (nbl n m) (by rw [nbl_len]; exact hat)]; exact hcap
    · simp; omega
    · have e1 : cur.toList = L.map (Value.int .u8) ++ cur.toList.drop L.length := by rw [← HC.out.2, List.take_append_drop]
      have e2 : (nbl n m).map (Value.int .u8) = (List.range m).map fun i => Value.int .u8 (nb n m i) := by simp [nbl, List.map_map, Function.comp_def]
      rw [over_len L at_ (nbl n m) (by rw [nbl_len]; exact hat)]
      show List.take (L.length * 1) (List.take at_ cur.toList ++ _ ++ List.drop (at_ + m) cur.toList) = _
      unfold over
      rw [List.map_append, List.map_append, e2, nbl_len, List.map_take, List.map_drop, e1, Nat.mul_one]
      exact take_over _ _ _ at_ m L.length (by simp) hlen hat
  clear hW2
  go_wp2
  go_end0
  exact ⟨rfl, X.out⟩
end Go.Proofs.YtimhkeebgogfoaaDoor
