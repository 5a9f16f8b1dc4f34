/- ReadNet of both sides, and the walk of laws.FnExactReadNet: true at every text. -/
import Derived.Test.YtbbjelkicenbhabDoorReadNs
namespace Go.Proofs.YtbbjelkicenbhabDoor
open Go.RowKit Go.PlainAid Go.Proofs.YtbbjelkicenbhabDoor.Bt Go.Sort
set_option linter.unusedVariables false
set_option maxRecDepth 20000

theorem pq_pos (l : List UInt8) : 1 ≤ (Sl.pq l).length := by
  cases l with
  | nil => simp [Sl.pq]
  | cons c l =>
    rw [Sl.pq]
    split
    · simp
    · split <;> simp
theorem ext_whole (t : ByteArray) : (t.extract 0 t.size).data.toList = t.data.toList := by
  rw [Lib.extract_data, List.drop_zero]
  exact List.take_of_length_le (by simp)
theorem ext_rest (t : ByteArray) (i : Nat) : (t.extract i t.size).data.toList = t.data.toList.drop i := by
  rw [Lib.extract_data]
  exact List.take_of_length_le (by simp)
theorem pq_none (t : ByteArray) (h : ∀ j, j < t.size → bt t j ≠ 47) : Sl.pq t.data.toList = [t.data.toList] := by
  have := Sl.cut_miss t 0 (fun j _ hj => h j hj)
  rwa [List.drop_zero, ext_whole] at this
theorem pq_first (t : ByteArray) (i : Nat) (hi : i < t.size) (h : bt t i = 47) (hn : ∀ j, j < i → bt t j ≠ 47) : Sl.pq t.data.toList = (t.extract 0 i).data.toList :: Sl.pq (t.extract (i + 1) t.size).data.toList := by
  have := Sl.cut_hit t 0 i (Nat.zero_le _) hi h (fun j _ hj => hn j hj)
  rwa [List.drop_zero, ← ext_rest] at this

set_option maxHeartbeats 1000000 in
theorem specReadNet_of (t : ByteArray) (rd : Bool) (v0 v1 : Int) (w : World) (ht : t.size ≤ 65536) (h : ∀ w, Calls Tryd.prog 11 #[.string t] w fun e w' => ∃ n0 n1, e = .returned (.tuple #[.agg #[.int .i64 n0, .int .i64 n1], .bool rd]) ∧ (rd = true → n0 = v0 ∧ n1 = v1) ∧ Below w.heap.size w w') :
    Calls Tryd.prog 5 #[.string t] w fun e w' => e = .returned (.tuple #[.agg #[.int .i64 (if rd then v0 else 0), .int .i64 (if rd then v1 else 0)], .int .i64 (if rd then 0 else 3)]) ∧ Below w.heap.size w w' := by
  have HR : Hid (∀ w, Calls Tryd.prog 11 #[.string t] w fun e w' => ∃ n0 n1, e = .returned (.tuple #[.agg #[.int .i64 n0, .int .i64 n1], .bool rd]) ∧ (rd = true → n0 = v0 ∧ n1 = v1) ∧ Below w.heap.size w w') := h
  clear h
  go_enter Tryd.func5, Tryd.ntmps5
  go_wp2_with fail
  refine (HR.out _).mono ?_
  rintro e w1 ⟨n0, n1, rfl, hn, b1⟩
  have hl1 : w.heap.size < w1.heap.size := by have := b1.size; simp at this; omega
  have z0 : w1.cell? ⟨w.heap.size, 0, none⟩ = some (.int .i64 0) := by rw [b1.cell (by simp)]; simp
  have z1 : w1.cell? ⟨w.heap.size, 1, none⟩ = some (.int .i64 0) := by rw [b1.cell (by simp)]; simp
  have f0 : ∀ i, w1.frozen? ⟨w.heap.size, i, none⟩ = false := fun i => by rw [b1.frozen (p := ⟨w.heap.size, i, none⟩) (by simp)]; simp
  have XV : Hid (Below w.heap.size w w1) := ((Below.refl _ _).alloc (Nat.le_refl _) _).trans (b1.mono (by simp))
  clear b1
  cases rd with
  | false =>
    clear hn
    obtain ⟨W, hW⟩ : ∃ W, W = (w1.setCell ⟨w.heap.size, 0, none⟩ (.int .i64 0)).setCell ⟨w.heap.size, 1, none⟩ (.int .i64 0) := ⟨_, rfl⟩
    have st := set_two (w2 := w1) (.int .i64 0) (.int .i64 0) z0 z1
    rw [← hW] at st
    have hWl : w.heap.size < W.heap.size := World.block_lt_of_cell? W _ st.1
    have r0 : ∀ o, (W.alloc o).cell? ⟨w.heap.size, 0, none⟩ = some _ := fun o => (World.cell?_alloc_lt _ _ _ (by exact hWl)).trans st.1
    have r1 : ∀ o, (W.alloc o).cell? ⟨w.heap.size, 1, none⟩ = some _ := fun o => (World.cell?_alloc_lt _ _ _ (by exact hWl)).trans st.2.1
    have XW : Hid (∀ o, Below w.heap.size w (W.alloc o)) := fun o => (XV.out.trans st.2.2).alloc (Nat.le_of_lt hWl) o
    clear st
    go_wp2
    rw [← hW]
    clear hW
    (try simp only [Exit.inBlock, Exit.then])
    refine bodyPost_ret (v := .tuple #[.agg #[.int .i64 0, .int .i64 0], .int .i64 3]) (by simp [results, Tryd.results5, go_sem, r0, r1]; try rfl) rfl ?_
    exact ⟨rfl, XW.out _⟩
  | true =>
    obtain ⟨e0, e1⟩ := hn rfl
    subst e0 e1
    obtain ⟨W, hW⟩ : ∃ W, W = (w1.setCell ⟨w.heap.size, 0, none⟩ (.int .i64 n0)).setCell ⟨w.heap.size, 1, none⟩ (.int .i64 n1) := ⟨_, rfl⟩
    have st := set_two (w2 := w1) (.int .i64 n0) (.int .i64 n1) z0 z1
    rw [← hW] at st
    have hWl : w.heap.size < W.heap.size := World.block_lt_of_cell? W _ st.1
    have r0 : ∀ o, (W.alloc o).cell? ⟨w.heap.size, 0, none⟩ = some _ := fun o => (World.cell?_alloc_lt _ _ _ (by exact hWl)).trans st.1
    have r1 : ∀ o, (W.alloc o).cell? ⟨w.heap.size, 1, none⟩ = some _ := fun o => (World.cell?_alloc_lt _ _ _ (by exact hWl)).trans st.2.1
    have XW : Hid (∀ o, Below w.heap.size w (W.alloc o)) := fun o => (XV.out.trans st.2.2).alloc (Nat.le_of_lt hWl) o
    clear st
    go_wp2
    rw [← hW]
    clear hW
    (try simp only [Exit.inBlock, Exit.then])
    refine bodyPost_ret (v := .tuple #[.agg #[.int .i64 n0, .int .i64 n1], .int .i64 0]) (by simp [results, Tryd.results5, go_sem, r0, r1]; try rfl) rfl ?_
    exact ⟨rfl, XW.out _⟩

theorem specReadNet_long (t : ByteArray) (w : World) (ht : 65536 < t.size) :
    Calls Tryd.prog 5 #[.string t] w fun e w' => e = .returned (.tuple #[.agg #[.int .i64 0, .int .i64 0], .int .i64 2]) ∧ Below w.heap.size w w' := by
  go_enter Tryd.func5, Tryd.ntmps5
  go_wp2
  (try simp only [Exit.inBlock, Exit.then])
  refine bodyPost_ret (v := .tuple #[.agg #[.int .i64 0, .int .i64 0], .int .i64 2]) (by simp [results, Tryd.results5, go_sem]; try rfl) rfl ?_
  exact ⟨rfl, (Below.refl _ _).alloc (Nat.le_refl _) _⟩
theorem implReadNet_long (t : ByteArray) (w : World) (ht : 65536 < t.size) :
    Calls Tryd.prog 6 #[.string t] w fun e w' => e = .returned (.tuple #[.agg #[.int .i64 0, .int .i64 0], .int .i64 2]) ∧ Below w.heap.size w w' := by
  go_enter Tryd.func6, Tryd.ntmps6
  go_wp2
  (try simp only [Exit.inBlock, Exit.then])
  refine bodyPost_ret (v := .tuple #[.agg #[.int .i64 0, .int .i64 0], .int .i64 2]) (by simp [results, Tryd.results6, go_sem]; try rfl) rfl ?_
  exact ⟨rfl, (Below.refl _ _).alloc (Nat.le_refl _) _⟩

theorem readNet_both (t : ByteArray) (ht : t.size ≤ 1048576) : ∃ (n0 n1 c : Int), (∀ w, Calls Tryd.prog 5 #[.string t] w fun e w' => e = .returned (.tuple #[.agg #[.int .i64 n0, .int .i64 n1], .int .i64 c]) ∧ Below w.heap.size w w') ∧
    ∀ (m : Int) (w : World), w.cell? ⟨0, 0, none⟩ = some (.int .i64 m) → Calls Tryd.prog 6 #[.string t] w fun e w' => e = .returned (.tuple #[.agg #[.int .i64 n0, .int .i64 n1], .int .i64 c]) ∧ Below w.heap.size w w' := by
  by_cases hbig : 65536 < t.size
  · exact ⟨0, 0, 2, fun w => specReadNet_long t w hbig, fun m w _ => implReadNet_long t w hbig⟩
  rcases first_slash t with ⟨i, hi, h47, hn⟩ | hnone
  · obtain ⟨A, hA⟩ : ∃ A, A = t.extract 0 i := ⟨_, rfl⟩
    obtain ⟨R, hR⟩ : ∃ R, R = t.extract (i + 1) t.size := ⟨_, rfl⟩
    have zA : A.size ≤ 65536 := by rw [hA, ByteArray.size_extract]; omega
    have zR : R.size ≤ 65536 := by rw [hR, ByteArray.size_extract]; omega
    have hpq := pq_first t i hi h47 hn
    rw [← hA, ← hR] at hpq
    have hI : ∀ (m : Int) (w : World), w.cell? ⟨0, 0, none⟩ = some (.int .i64 m) → Calls Tryd.prog 6 #[.string t] w fun e w' => e = .returned (.tuple #[.agg #[.int .i64 (if rdN A R then raV A else 0), .int .i64 (if rdN A R then rnV R else 0)], .int .i64 (if rdN A R then 0 else 3)]) ∧ Below w.heap.size w w' := fun m w hm =>
      implReadNet_cut t A R true m w (by omega) zA zR (fun w => strCut_of t A R true w (fun w => by rw [hA, hR]; exact liteCut_hit t i w hi h47 hn (by omega))) hm
    refine ⟨_, _, _, fun w => ?_, hI⟩
    rcases first_slash R with ⟨j, hj, h47', _⟩ | hnone
    · have hlen : (Sl.pq t.data.toList).length ≠ 2 := by
        have h2 := pq_first R j hj h47' (by assumption)
        have h3 := pq_pos (R.extract (j + 1) R.size).data.toList
        rw [hpq, h2]
        simp only [List.length_cons]
        omega
      have hrd : rdN A R = false := by unfold rdN; rw [rnB_slash R j hj h47']; simp
      rw [hrd]
      exact specReadNet_of t false 0 0 w (by omega) (fun w => (l05Read_bad t w (by omega) hlen).mono fun e w' h => ⟨0, 0, h.1, fun _ => ⟨rfl, rfl⟩, h.2⟩)
    · exact specReadNet_of t (rdN A R) (raV A) (rnV R) w (by omega) (fun w => l05Read_two t A R w (by omega) zA zR (by rw [hpq, pq_none R hnone]))
  · have hI : ∀ (m : Int) (w : World), w.cell? ⟨0, 0, none⟩ = some (.int .i64 m) → Calls Tryd.prog 6 #[.string t] w fun e w' => e = .returned (.tuple #[.agg #[.int .i64 (if rdN t ⟨#[]⟩ then raV t else 0), .int .i64 (if rdN t ⟨#[]⟩ then rnV ⟨#[]⟩ else 0)], .int .i64 (if rdN t ⟨#[]⟩ then 0 else 3)]) ∧ Below w.heap.size w w' := fun m w hm =>
      implReadNet_cut t t ⟨#[]⟩ false m w (by omega) (by omega) (by simp [ByteArray.size]) (fun w => strCut_of t t ⟨#[]⟩ false w (fun w => liteCut_miss t w hnone)) hm
    refine ⟨_, _, _, fun w => ?_, hI⟩
    have hrd : rdN t ⟨#[]⟩ = false := by unfold rdN; rw [rnB_empty]; simp
    rw [hrd]
    exact specReadNet_of t false 0 0 w (by omega) (fun w => (l05Read_bad t w (by omega) (by rw [pq_none t hnone]; simp)).mono fun e w' h => ⟨0, 0, h.1, fun _ => ⟨rfl, rfl⟩, h.2⟩)

theorem eqNet_same (x0 x1 : Int) (w : World) :
    Calls Tryd.prog 7 #[.agg #[.int .i64 x0, .int .i64 x1], .agg #[.int .i64 x0, .int .i64 x1]] w fun e w' => e = .returned (.bool true) ∧ Below w.heap.size w w' := by
  have h0 : (x0 != x0) = false := by simp
  have h1 : (x1 != x1) = false := by simp
  go_enter Tryd.func7, Tryd.ntmps7
  go_wp2
  go_ret
  exact ⟨rfl, (((Grw.refl _).alloc _).alloc _).below⟩

set_option maxHeartbeats 1000000 in
theorem lawReadNet_any (t : ByteArray) (m : Int) (w : World) (hm : w.cell? ⟨0, 0, none⟩ = some (.int .i64 m)) (hs : t.size ≤ maxLen) :
    Calls Tryd.prog 3 #[.string t] w fun e w' => e = .returned (.bool true) ∧ Below w.heap.size w w' := by
  unfold maxLen at hs
  by_cases hl : 1048576 < t.size
  · go_enter Tryd.func3, Tryd.ntmps3
    go_wp2
    go_ret
    exact ⟨rfl, Below.refl _ _⟩
  obtain ⟨n0, n1, c, hS, hI⟩ := readNet_both t (by omega)
  have HS : Hid (∀ w, Calls Tryd.prog 5 #[.string t] w fun e w' => e = .returned (.tuple #[.agg #[.int .i64 n0, .int .i64 n1], .int .i64 c]) ∧ Below w.heap.size w w') := hS
  have HI : Hid (∀ (w : World), w.cell? ⟨0, 0, none⟩ = some (.int .i64 m) → Calls Tryd.prog 6 #[.string t] w fun e w' => e = .returned (.tuple #[.agg #[.int .i64 n0, .int .i64 n1], .int .i64 c]) ∧ Below w.heap.size w w') := hI m
  have HE : Hid (∀ w, Calls Tryd.prog 7 #[.agg #[.int .i64 n0, .int .i64 n1], .agg #[.int .i64 n0, .int .i64 n1]] w fun e w' => e = .returned (.bool true) ∧ Below w.heap.size w w') := fun w => eqNet_same n0 n1 w
  have HM : Hid (∀ w', Below w.heap.size w w' → w'.cell? ⟨0, 0, none⟩ = some (.int .i64 m)) := fun w' hb => by
    rw [hb.cell (World.block_lt_of_cell? w _ hm)]; exact hm
  clear hS hI hm
  have hne : (c != c) = false := by simp
  go_enter Tryd.func3, Tryd.ntmps3
  go_wp2_with fail
  refine (HS.out _).mono ?_
  rintro e w1 ⟨rfl, b1⟩
  have B1 : Hid (Below w.heap.size w w1) := b1
  have BA : Hid (∀ o, Below w.heap.size w (w1.alloc o)) := fun o => b1.alloc b1.size o
  clear b1
  go_wp2_with fail
  refine (HI.out _ (HM.out _ (BA.out _))).mono ?_
  rintro e w2 ⟨rfl, b2⟩
  have hl2 : w1.heap.size < w2.heap.size := by have := b2.size; simp at this; omega
  have y0 : ∀ o, (w2.alloc o).cell? ⟨w1.heap.size, 0, none⟩ = some (.int .i64 n0) := fun o => by rw [World.cell?_alloc_lt _ _ _ (by exact hl2), b2.cell (by simp)]; simp
  have y1 : ∀ o, (w2.alloc o).cell? ⟨w1.heap.size, 1, none⟩ = some (.int .i64 n1) := fun o => by rw [World.cell?_alloc_lt _ _ _ (by exact hl2), b2.cell (by simp)]; simp
  have B2 : Hid (∀ o, Below w.heap.size w (w2.alloc o) ∧ w.heap.size ≤ (w2.alloc o).heap.size) := fun o => by
    have h := (BA.out _).trans (b2.mono (BA.out _).size)
    exact ⟨h.alloc h.size o, (h.alloc h.size o).size⟩
  clear b2 hl2
  go_wp2_with fail
  refine (HE.out _).mono ?_
  rintro e w3 ⟨rfl, b3⟩
  have B3 : Hid (Below w.heap.size w w3) := (B2.out _).1.trans (b3.mono (B2.out _).2)
  clear b3 y0 y1
  go_wp2
  go_ret
  exact ⟨rfl, B3.out⟩
end Go.Proofs.YtbbjelkicenbhabDoor
