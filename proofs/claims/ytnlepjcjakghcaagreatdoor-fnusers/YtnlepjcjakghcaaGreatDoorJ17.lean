/- slices.Insert of one fail into a row of one's own. Elements of a row of one's own, stored into by an operation: one cell, or the whole element. Nothing of the program is used. Fails of the program: where one stands, who must wait. The program's rolePlace, userOK, usersOK. A map of one's own, emptied. Nothing of the program is imported. The program's inLan, sessionOK, sessionsApart. -/
import Derived.Test.YtnlepjcjakghcaaGreatDoorJ13
import Derived.Laws.CopyRow
import Derived.Lib.Overlaps
import Derived.Lib.AppendZerosOnto
import Derived.Test.YtnlepjcjakghcaaGreatDoorShelf
import Derived.Deep.LoopGhost
import Derived.Shelf.SlicesQ.IndexFunc
namespace Go.Proofs.YtnlepjcjakghcaaGreatDoor
open Go.RowKit Go.PlainAid Go.Proofs.YtnlepjcjakghcaaGreatDoor.Bt Go.Sort
set_option linter.unusedVariables false
set_option maxRecDepth 100000
section
variable {P : Program}
theorem run_copy_rowK (w : World) (dT sT ty elem : TypeId) (g o dLen dCap : Nat) (a : Addr) (sLen sCap K m : Nat) (cur : Array Value) (t : TypeId) (cs : List Value)
    (hu : P.underlying dT = some (.slice elem)) (hs : (P.info? elem).map (·.size) = some K)
    (hg : w.heap[g]? = some (.cells cur t (0, 0))) (hm : Nat.min sLen dLen = m) (hn : cs.length = m * K)
    (hsrc : ∀ j v, cs[j]? = some v → w.cell? (a.add j) = some v) (hfit : o + cs.length ≤ cur.size) (h1 : ∀ v ∈ cs, v.oneCell' = true) :
    (Builtin.copy_ #[dT, sT] ty #[.slice (some ⟨g, o, none⟩) dLen dCap, .slice (some a) sLen sCap]).run P w =
      .ok (goInt m) (w.setRow g (cur.toList.take o ++ cs ++ cur.toList.drop (o + cs.length)).toArray) := by
  have hl := run_loadCells_list (P := P) w a cs hsrc
  have hst := run_storeCells_at P g o t cs 0 cur w hg (by simpa using hfit) h1
  subst hm
  cases hq : P.info? elem with
  | none => simp [hq] at hs
  | some i =>
    have hi : i.size = K := by simpa [hq] using hs
    simp [Builtin.copy_, run_underlying hu, Builtin.lenOf, Builtin.firstCells, sizeOf, typeInfo, hq, hi, ← hn, hl, hst]
theorem wpl_appendR (w : World) {ops : Array Oper} {rest : List Oper} {o : Oper} {a : Act} {Q : Exit → Act → World → Prop} (hgd : o.guard = none) (d s : Operand) (t t' : TypeId)
    (ho : o.op = .call { callee := .builtin .append, args := #[d, s], argTypes := #[t, t'] }) (v u : Value) (hd : a.eval d = v) (hs : a.eval s = u) {v' : Value} {w' : World}
    (hr : (Builtin.append_ #[t, t'] o.type #[v, u]).run P w = .ok v' w') (h : wpList P ops Q rest (a.put o.dst v') w') : wpList P ops Q (o :: rest) a w :=
  wpList_plain hgd fun _ hK => by
    unfold Oper.wp execOp
    simp only [ho, resolve, invoke, builtin, Sem.run_bind, Sem.run_pure, Result.andThen_ok, List.map_toArray, List.map_cons, List.map_nil, hd, hs, hr]
    exact hK _ _ h
theorem step_copyR {ops : Array Oper} {o : Oper} {a : Act} {w : World} {K : Act → World → Prop} {Q : Exit → Act → World → Prop} {E : Prop}
    (hg : o.guard = none) (d x : Operand) (dT sT : TypeId) (hop : o.op = Op.call { callee := Callee.builtin Builtin.copy, args := #[d, x], argTypes := #[dT, sT] })
    (v u : Value) (hd : a.eval d = v) (hx : a.eval x = u) {v' : Value} {w' : World} (hr : (Builtin.copy_ #[dT, sT] o.type #[v, u]).run P w = .ok v' w') (hK : K (a.put o.dst v') w') :
    if Region.wanted o (yielded ops a.tmps) = true then Oper.wp P o a w K Q else E := by
  have hw : Region.wanted o (yielded ops a.tmps) = true := by simp [Region.wanted, hg]
  rw [if_pos hw]
  unfold Oper.wp execOp
  simp only [hop, resolve, invoke, builtin, Sem.run_bind, Sem.run_pure, Result.andThen_ok, List.map_toArray, List.map_cons, List.map_nil, hd, hx, hr]
  exact hK
end
theorem take_flat {fs : List FailV} (k : Nat) (h : k ≤ fs.length) : (flatS fvG fs).take (k * 3) = flatS fvG (fs.take k) := by
  have e : flatS fvG fs = flatS fvG (fs.take k) ++ flatS fvG (fs.drop k) := by rw [← flatS_append, List.take_append_drop]
  have hl : (flatS fvG (fs.take k)).length = k * 3 := by rw [flatS_len fvG_len, List.length_take]; omega
  rw [e, ← hl, List.take_left]
theorem drop_flat {fs : List FailV} (k : Nat) (h : k ≤ fs.length) : (flatS fvG fs).drop (k * 3) = flatS fvG (fs.drop k) := by
  have e : flatS fvG fs = flatS fvG (fs.take k) ++ flatS fvG (fs.drop k) := by rw [← flatS_append, List.take_append_drop]
  have hl : (flatS fvG (fs.take k)).length = k * 3 := by rw [flatS_len fvG_len, List.length_take]; omega
  rw [e, ← hl, List.drop_left]
theorem setRow_same {w : World} {g : Nat} {cur : Array Value} {t : TypeId} {f : Nat × Nat} (h : w.heap[g]? = some (.cells cur t f)) (cs : Array Value) : (w.setRow g cs).heap[g]? = some (.cells cs t f) := setRow_heap w g cur cs t f h
theorem setRow_below {w : World} {B g : Nat} (hB : B ≤ g) (hs : B ≤ w.heap.size) (cs : Array Value) : Below B w (w.setRow g cs) :=
  ⟨rfl, rfl, rfl, by simp [World.setRow], fun k hk => setRow_other w g k cs (by omega)⟩
set_option maxHeartbeats 4000000 in
theorem insFail_end (a : Option Addr) (n c vb : Nat) (fs : List FailV) (x : FailV) (B : Nat) (tv : TypeId) (w : World)
    (o : OwnS fvG 3 95 w B (.slice a n c) fs) (hB : B ≤ w.heap.size) (hn : n ≤ 2000) (hv : w.heap[vb]? = some (.cells #[.string x.mc, .int .i64 x.ct, .int .i64 x.un] tv (0, 0))) :
    Calls Tryz.prog 51 #[.slice a n c, .int .i64 n, .slice (some ⟨vb, 0, none⟩) 1 1] w fun e w' => ∃ v, e = .returned v ∧ OwnS fvG 3 95 w' B v (fs ++ [x]) ∧ Below B w w' := by
  have hl := o.len
  have hc : n ≤ c := by
    rcases o.2 with ⟨h1, h2⟩ | ⟨g, cap, cur, h1, hb, hg, h3, h4, h5⟩
    · cases h1
      omega
    · cases h1
      omega
  have O : Hid (OwnS fvG 3 95 w B (.slice a n c) fs) := o
  have V : Hid (∀ j u, (flatS fvG [x])[j]? = some u → w.cell? ⟨vb, 0 + j, none⟩ = some u) := by
    intro j u hu
    rw [flatS_one] at hu
    rw [Nat.zero_add]
    simp only [World.cell?, hv]
    have hj := (List.getElem?_eq_some_iff.1 hu).1
    have e : (#[.string x.mc, .int .i64 x.ct, .int .i64 x.un] : Array Value)[j]? = some u := by
      rw [← Array.getElem?_toList]
      exact hu
    simpa using e
  clear o hv
  by_cases hcn : c = n
  · go_enter Tryz.func51, Tryz.ntmps51
    go_wp2_with (at_builtin; refine wpl_Fail _ rfl _ _ rfl B _ fs [x] rfl O.out vb 0 1 1 (by simp) rfl V.out (by simp; omega) hB ?_; intro v' w3 Y _)
    go_ret
    exact ⟨_, rfl, Y.out.1, Y.out.2⟩
  · go_enter Tryz.func51, Tryz.ntmps51
    go_wp2_with (at_builtin; refine wpl_Fail _ rfl _ _ rfl B _ fs [x] rfl O.out vb 0 1 1 (by simp) rfl V.out (by simp; omega) hB ?_; intro v' w3 Y _)
    go_ret
    exact ⟨_, rfl, Y.out.1, Y.out.2⟩
theorem xCells {w : World} {vb : Nat} {tv : TypeId} {x : FailV} (hv : w.heap[vb]? = some (.cells #[.string x.mc, .int .i64 x.ct, .int .i64 x.un] tv (0, 0))) : ∀ j u, (fvG x)[j]? = some u → w.cell? ⟨vb, j, none⟩ = some u := by
  intro j u hu
  simp only [World.cell?, hv]
  have e : (#[.string x.mc, .int .i64 x.ct, .int .i64 x.un] : Array Value)[j]? = some u := by
    rw [← Array.getElem?_toList]
    exact hu
  simpa using e
set_option maxHeartbeats 4000000 in
theorem insFail_room (g n c k vb : Nat) (fs : List FailV) (x : FailV) (B : Nat) (tv : TypeId) (w : World)
    (o : OwnS fvG 3 95 w B (.slice (some ⟨g, 0, none⟩) n c) fs) (hB : B ≤ w.heap.size) (hk : k < n) (hr : n + 1 ≤ c) (hv : w.heap[vb]? = some (.cells #[.string x.mc, .int .i64 x.ct, .int .i64 x.un] tv (0, 0))) (hne : vb ≠ g) :
    Calls Tryz.prog 51 #[.slice (some ⟨g, 0, none⟩) n c, .int .i64 k, .slice (some ⟨vb, 0, none⟩) 1 1] w fun e w' => ∃ v, e = .returned v ∧ OwnS fvG 3 95 w' B v (fs.take k ++ x :: fs.drop k) ∧ Below B w w' := by
  have hl := o.len
  obtain ⟨cur, hg, hBg, hcm, hcs, htk⟩ : ∃ cur : Array Value, w.heap[g]? = some (.cells cur 95 (0, 0)) ∧ B ≤ g ∧ c ≤ maxLen ∧ cur.size = c * 3 ∧ cur.toList.take (n * 3) = flatS fvG fs := by
    rcases o.2 with ⟨h1, h2⟩ | ⟨g', cap, cur, h1, hb, hg, h3, h4, h5, h6⟩
    · cases h1
    · cases h1
      rw [hl] at h6
      exact ⟨cur, hg, hb, h4, h5, h6⟩
  have hc63 : c ≤ 9223372036854775807 := by unfold maxLen at hcm; omega
  have hinf : (Tryz.prog.info? 95).map (·.size) = some 3 := by
    obtain ⟨i0, hi, hz0, hz1, hz2⟩ := info_parts infoFail
    rw [hi]
    simp [hz1]
  have hov : ∀ lb cb, (callFunc 76 #[.slice (some ⟨vb, 0, none⟩) 1 1, .slice (some ⟨g, (k + 1) * 3, none⟩) lb cb]).run Tryz.prog w = .ok (.value (.bool false)) w := fun lb cb => by
    obtain ⟨i0, hi, hz0, hz1, hz2⟩ := info_parts infoFail
    rw [run_callFunc_extern Tryz.func76 (by kernel_rfl) (by kernel_rfl) (by kernel_rfl) (e := Extern.SlicesOverlaps.overlaps #[39, 39] #[4]) (by kernel_rfl),
      Lib.run_overlaps_apart w 39 4 95 Tryz.underlying39 3 (fun w => by simp [sizeOf, typeInfo, hi, hz1]) ⟨vb, 0, none⟩ ⟨g, (k + 1) * 3, none⟩ 1 1 lb cb hne tv 95 3 (c * 3) (by simp [World.shape?, hv]) (by simp [World.shape?, hg, hcs]) (by omega) (by simp [World.frozen?, hv]) (by simp [World.frozen?, hv])]
    rfl
  have hdl : (flatS fvG (fs.drop k)).length = (n - k) * 3 := by rw [flatS_len fvG_len, List.length_drop, hl]
  have hcell : ∀ (W : World) j v, W.heap[g]? = some (.cells cur 95 (0, 0)) → (flatS fvG (fs.drop k))[j]? = some v → W.cell? ⟨g, k * 3 + j, none⟩ = some v := by
    intro W j v hW hj
    have hjl := (List.getElem?_eq_some_iff.1 hj).1
    rw [← drop_flat k (by omega), List.getElem?_drop, ← htk, List.getElem?_take] at hj
    split at hj
    · simp only [World.cell?, hW]
      rw [Array.getElem?_toList] at hj
      simpa using hj
    · cases hj
  have hcp1 : ∀ (W : World) ty ad dl dc sa sl sc, W.heap[g]? = some (.cells cur 95 (0, 0)) → ad = ⟨g, (k + 1) * 3, none⟩ → dl = n - k → sa = ⟨g, k * 3, none⟩ → sl = n + 1 - k → (Builtin.copy_ #[39, 39] ty #[.slice (some ad) dl dc, .slice (some sa) sl sc]).run Tryz.prog W = .ok (goInt ((n - k : Nat) : Int)) (W.setRow g (cur.toList.take ((k + 1) * 3) ++ flatS fvG (fs.drop k) ++ cur.toList.drop ((k + 1) * 3 + (flatS fvG (fs.drop k)).length)).toArray) := by
    rintro W ty ad dl dc sa sl sc hW rfl rfl rfl rfl
    exact run_copy_rowK W _ _ ty 95 g ((k + 1) * 3) (n - k) dc ⟨g, k * 3, none⟩ (n + 1 - k) sc 3 (n - k) cur 95 _ Tryz.underlying39 hinf hW (by simp only [Nat.min_def]; split <;> omega) hdl (fun j v hj => by rw [addn]; exact hcell W j v hW hj) (by rw [hdl, hcs]; omega) (oneFail _)
  obtain ⟨C1, hC1⟩ : ∃ C1 : Array Value, C1 = (cur.toList.take ((k + 1) * 3) ++ flatS fvG (fs.drop k) ++ cur.toList.drop ((k + 1) * 3 + (flatS fvG (fs.drop k)).length)).toArray := ⟨_, rfl⟩
  rw [← hC1] at hcp1
  have hC1s : C1.size = c * 3 := by
    rw [hC1]
    simp only [List.size_toArray, List.length_append, List.length_take, List.length_drop, Array.length_toList, hdl, hcs]
    omega
  have hcp2 : ∀ (W : World) ty ad dl dc sa sl sc, W.heap[g]? = some (.cells C1 95 (0, 0)) → W.heap[vb]? = some (.cells #[.string x.mc, .int .i64 x.ct, .int .i64 x.un] tv (0, 0)) → ad = ⟨g, k * 3, none⟩ → dl = n + 1 - k → sa = ⟨vb, 0, none⟩ → sl = 1 → (Builtin.copy_ #[39, 39] ty #[.slice (some ad) dl dc, .slice (some sa) sl sc]).run Tryz.prog W = .ok (goInt ((1 : Nat) : Int)) (W.setRow g (C1.toList.take (k * 3) ++ fvG x ++ C1.toList.drop (k * 3 + (fvG x).length)).toArray) := by
    rintro W ty ad dl dc sa sl sc hW hX rfl rfl rfl rfl
    exact run_copy_rowK W _ _ ty 95 g (k * 3) (n + 1 - k) dc ⟨vb, 0, none⟩ 1 sc 3 1 C1 95 (fvG x) Tryz.underlying39 hinf hW (by simp only [Nat.min_def]; split <;> omega) rfl (fun j v hj => by rw [addn, Nat.zero_add]; exact xCells hX j v hj) (by rw [hC1s]; show k * 3 + 3 ≤ _; omega) (by intro v hv; exact oneFail [x] v (by rw [flatS_one]; exact hv))
  obtain ⟨C2, hC2⟩ : ∃ C2 : Array Value, C2 = (C1.toList.take (k * 3) ++ fvG x ++ C1.toList.drop (k * 3 + (fvG x).length)).toArray := ⟨_, rfl⟩
  rw [← hC2] at hcp2
  have HF : Hid (C2.size = c * 3 ∧ C2.toList.take ((n + 1) * 3) = flatS fvG (fs.take k ++ x :: fs.drop k)) := by
    have e1 : C1.toList.take (k * 3) = flatS fvG (fs.take k) := by
      rw [hC1]
      simp only []
      rw [List.take_append_of_le_length (by rw [List.length_append, List.length_take, Array.length_toList, hcs]; omega), List.take_append_of_le_length (by rw [List.length_take, Array.length_toList, hcs]; omega), List.take_take, Nat.min_eq_left (by omega), ← take_flat k (by omega), ← htk, List.take_take, Nat.min_eq_left (by omega)]
    have e2 : C1.toList.drop (k * 3 + 3) = flatS fvG (fs.drop k) ++ cur.toList.drop ((k + 1) * 3 + (flatS fvG (fs.drop k)).length) := by
      rw [hC1]
      simp only []
      rw [List.append_assoc, show k * 3 + 3 = (cur.toList.take ((k + 1) * 3)).length by rw [List.length_take, Array.length_toList, hcs]; omega, List.drop_left]
    refine ⟨?_, ?_⟩
    · rw [hC2]
      simp only [List.size_toArray, List.length_append, List.length_take, List.length_drop, Array.length_toList, hC1s]
      show min (k * 3) (c * 3) + 3 + (c * 3 - (k * 3 + 3)) = _
      omega
    · rw [hC2]
      show (C1.toList.take (k * 3) ++ fvG x ++ C1.toList.drop (k * 3 + 3)).take _ = _
      rw [e1, e2, flatS_append, flatS_cons, ← List.append_assoc, ← List.append_assoc]
      exact List.take_left' (by rw [List.length_append, List.length_append, hdl, flatS_len fvG_len, List.length_take, hl]; show min k n * 3 + 3 + (n - k) * 3 = _; omega)
  clear hC1 hC2 hC1s htk hcell hdl
  have H1 : Hid _ := hcp1
  have H2 : Hid _ := hcp2
  have HG : Hid (w.heap[g]? = some (.cells cur 95 (0, 0))) := hg
  have HV : Hid (w.heap[vb]? = some (.cells #[.string x.mc, .int .i64 x.ct, .int .i64 x.un] tv (0, 0))) := hv
  have HL : Hid (fs.length = n ∧ cur.size = c * 3) := ⟨hl, hcs⟩
  clear hcp1 hcp2 hg hv hl hcs hinf o
  have hw1 : IntKind.i64.wrap ((k : Int) + 1) = (k : Int) + 1 := by rw [IntKind.wrap_i64]; omega
  have mixed : Tryz.prog.follows .mixedOrders = true := by kernel_rfl
  have hb1 : (0 : Int) ≤ (k : Int) + 1 := by omega
  have htn : ((k : Int) + 1).toNat = k + 1 := by omega
  have hb3 : (k : Int) ≤ (n : Int) + 1 := by omega
  have hb5 : (k : Int) ≤ (n : Int) := by omega
  have hin : k ≤ n := by omega
  have hb2 : ¬ (c = k + 1) := by omega
  have hb4 : ¬ (c = k) := by omega
  go_enter Tryz.func51, Tryz.ntmps51
  go_wp2_with (simp only [hov])
  go_region_law_o (refine step_copyR rfl _ _ 39 39 rfl (.slice (some ⟨g, (k + 1) * 3, none⟩) (n + 1 - (k + 1)) (c - (k + 1))) (.slice (some ⟨g, k * 3, none⟩) (n + 1 - k) (c - k)) (by simp [Act.eval, Act.put]) (by simp [Act.eval, Act.put]) (H1.out _ _ _ _ _ _ _ _ HG.out rfl (by omega) rfl rfl) ?_)
  have HW : Hid (∀ W : World, W.heap[g]? = some (.cells C1 95 (0, 0)) → OwnS fvG 3 95 (W.setRow g C2) B (.slice (some ⟨g, 0, none⟩) (n + 1) c) (fs.take k ++ x :: fs.drop k)) := by
    intro W hW
    have hLl : (fs.take k ++ x :: fs.drop k).length = n + 1 := by
      have := HL.out.1
      simp
      omega
    refine ⟨by rw [flatS_len fvG_len], .inr ⟨g, c, C2, by rw [hLl], hBg, setRow_same hW C2, by omega, hcm, HF.out.1, by rw [hLl]; exact HF.out.2⟩⟩
  have hc2 := H2.out (w.drew.setRow g C1) 3 ⟨g, k * 3, none⟩ (n + 1 - k) (c - k) ⟨vb, 0, none⟩ 1 1 (setRow_same (w := w.drew) HG.out _) ((setRow_other _ g vb _ hne).trans HV.out) rfl rfl rfl rfl
  go_wp2
  go_ret
  refine ⟨_, rfl, HW.out _ (setRow_same (w := { w with drawn := w.drawn + 1 }) HG.out _), ?_⟩
  have d0 : Below B w { w with drawn := w.drawn + 1 } := ⟨rfl, rfl, rfl, Nat.le_refl _, fun _ _ => rfl⟩
  refine (d0.trans (setRow_below (w := { w with drawn := w.drawn + 1 }) hBg hB C1)).trans (setRow_below hBg ?_ C2)
  show B ≤ (World.setRow { w with drawn := w.drawn + 1 } g C1).heap.size
  simp [World.setRow]
  exact hB
theorem zero_cells (n : Nat) : (Builtin.zeroCells (Value.agg #[.string ⟨#[]⟩, .int .i64 0, .int .i64 0]).cells n).size = n * 3 := by rw [size_zeroCells]; rfl
set_option maxHeartbeats 4000000 in
theorem insFail_grow (g n c k vb : Nat) (fs : List FailV) (x : FailV) (B : Nat) (tv : TypeId) (w : World)
    (o : OwnS fvG 3 95 w B (.slice (some ⟨g, 0, none⟩) n c) fs) (hB : B ≤ w.heap.size) (hk : k < n) (hn : n ≤ 2000) (hr : c < n + 1) (hv : w.heap[vb]? = some (.cells #[.string x.mc, .int .i64 x.ct, .int .i64 x.un] tv (0, 0))) :
    Calls Tryz.prog 51 #[.slice (some ⟨g, 0, none⟩) n c, .int .i64 k, .slice (some ⟨vb, 0, none⟩) 1 1] w fun e w' => ∃ v, e = .returned v ∧ OwnS fvG 3 95 w' B v (fs.take k ++ x :: fs.drop k) ∧ Below B w w' := by
  have hl := o.len
  obtain ⟨cur, hg, hBg, hcm, hcs, htk, hnc⟩ : ∃ cur : Array Value, w.heap[g]? = some (.cells cur 95 (0, 0)) ∧ B ≤ g ∧ c ≤ maxLen ∧ cur.size = c * 3 ∧ cur.toList.take (n * 3) = flatS fvG fs ∧ n ≤ c := by
    rcases o.2 with ⟨h1, h2⟩ | ⟨g', cap, cur, h1, hb, hg, h3, h4, h5, h6⟩
    · cases h1
    · cases h1
      rw [hl] at h6 h3
      exact ⟨cur, hg, hb, h4, h5, h6, h3⟩
  obtain rfl : c = n := by omega
  obtain ⟨i0, hi, hz0, hz1, hz2⟩ := info_parts infoFail
  have hinf : (Tryz.prog.info? 95).map (·.size) = some 3 := by rw [hi]; simp [hz1]
  have hgw : g < w.heap.size := (Array.getElem?_eq_some_iff.1 hg).1
  have hvw : vb < w.heap.size := (Array.getElem?_eq_some_iff.1 hv).1
  have hkk : (c : Int) + 1 - (k : Int) = ((c + 1 - k : Nat) : Int) := by omega
  have hik : k + (c + 1 - k) = c + 1 := by omega
  have hcell0 : ∀ (W : World) j v, W.heap[g]? = some (.cells cur 95 (0, 0)) → (flatS fvG fs)[j]? = some v → W.cell? ⟨g, j, none⟩ = some v := by
    intro W j v hW hj
    rw [← htk, List.getElem?_take] at hj
    split at hj
    · simp only [World.cell?, hW]
      rw [Array.getElem?_toList] at hj
      simpa using hj
    · cases hj
  have hold : (Builtin.firstCells i0.size k (.slice (some ⟨g, 0, none⟩) k c)).run Tryz.prog w.drew = .ok (flatS fvG (fs.take k)).toArray w.drew := by
    rw [hz1]
    exact run_firstCells_some w.drew 3 k ⟨g, 0, none⟩ k c (flatS fvG (fs.take k)) (by rw [flatS_len fvG_len, List.length_take]; omega) (fun j v hj => by
      rw [addn, Nat.zero_add]
      rw [← take_flat k (by omega), List.getElem?_take] at hj
      split at hj
      · exact hcell0 w.drew j v hg hj
      · cases hj)
  have hrz : ∀ ty, (Builtin.append_ #[39, 3] ty #[.slice (some ⟨g, 0, none⟩) k c, .int .i64 ((c : Int) + 1 - (k : Int))]).run Tryz.prog w =
      .ok (.slice (some ⟨w.heap.size, 0, none⟩) (c + 1) (grownCap w (c + 1) c 95)) (w.drew.alloc (.cells ((flatS fvG (fs.take k)).toArray ++ Builtin.zeroCells (Value.agg #[.string ⟨#[]⟩, .int .i64 0, .int .i64 0]).cells (c + 1 - k) ++ Builtin.zeroCells (Value.agg #[.string ⟨#[]⟩, .int .i64 0, .int .i64 0]).cells (grownCap w (c + 1) c 95 - (c + 1))) 95)) := fun ty => by
    have h := Lib.run_append_grow_zeros w 39 3 ty 95 i0 _ .i64 .i64 Tryz.underlying39 Tryz.underlying3 hi hz0 (some ⟨g, 0, none⟩) k c (flatS fvG (fs.take k)) hold (c + 1 - k) (by omega) (by omega) (by omega) (by omega) (by rw [hz2]; omega) (by rw [hz2, hik]; exact growslice_fits (by omega) (by omega))
    rw [hik] at h
    rw [hkk]
    exact h
  obtain ⟨G, hG⟩ : ∃ G, G = grownCap w (c + 1) c 95 := ⟨_, rfl⟩
  have hGn : c + 1 ≤ G := by rw [hG]; exact grownCap_ge w _ _ _
  have hGm : G ≤ maxLen := by rw [hG]; exact grownCap_le_maxLen w (c + 1) c 95 (by unfold maxLen; omega)
  obtain ⟨C0, hC0⟩ : ∃ C0 : Array Value, C0 = (flatS fvG (fs.take k)).toArray ++ Builtin.zeroCells (Value.agg #[.string ⟨#[]⟩, .int .i64 0, .int .i64 0]).cells (c + 1 - k) ++ Builtin.zeroCells (Value.agg #[.string ⟨#[]⟩, .int .i64 0, .int .i64 0]).cells (G - (c + 1)) := ⟨_, rfl⟩
  rw [← hG] at hrz
  rw [← hC0] at hrz
  have htl : (flatS fvG (fs.take k)).length = k * 3 := by rw [flatS_len fvG_len, List.length_take]; omega
  have hdl : (flatS fvG (fs.drop k)).length = (c - k) * 3 := by rw [flatS_len fvG_len, List.length_drop, hl]
  have hC0s : C0.size = G * 3 := by
    rw [hC0, Array.size_append, Array.size_append, zero_cells, zero_cells, List.size_toArray, htl]
    omega
  have hC0t : C0.toList.take (k * 3) = flatS fvG (fs.take k) := by
    rw [hC0]
    simp only [Array.toList_append, List.append_assoc]
    exact List.take_left' htl
  obtain ⟨W1, hW1⟩ : ∃ W1, W1 = w.drew.alloc (.cells C0 95) := ⟨_, rfl⟩
  have hN1 : W1.heap[w.heap.size]? = some (.cells C0 95 (0, 0)) := by rw [hW1]; exact heap_alloc_new w.drew _
  have hg1 : W1.heap[g]? = some (.cells cur 95 (0, 0)) := by rw [hW1]; exact (heap_alloc_old w.drew _ hgw).trans hg
  have hv1 : W1.heap[vb]? = some (.cells #[.string x.mc, .int .i64 x.ct, .int .i64 x.un] tv (0, 0)) := by rw [hW1]; exact (heap_alloc_old w.drew _ hvw).trans hv
  have hb1 : Below B w W1 := by
    rw [hW1]
    exact ⟨rfl, rfl, rfl, by simp, fun q hq => heap_alloc_old w.drew _ (show q < w.heap.size by omega)⟩
  rw [← hW1] at hrz
  obtain ⟨C1, hC1⟩ : ∃ C1 : Array Value, C1 = (C0.toList.take (k * 3) ++ fvG x ++ C0.toList.drop (k * 3 + (fvG x).length)).toArray := ⟨_, rfl⟩
  have hc1 : ∀ ty dc, (Builtin.copy_ #[39, 39] ty #[.slice (some ⟨w.heap.size, k * 3, none⟩) (c + 1 - k) dc, .slice (some ⟨vb, 0, none⟩) 1 1]).run Tryz.prog W1 = .ok (goInt ((1 : Nat) : Int)) (W1.setRow w.heap.size C1) := fun ty dc => by
    rw [hC1]
    exact run_copy_rowK W1 _ _ ty 95 w.heap.size (k * 3) (c + 1 - k) dc ⟨vb, 0, none⟩ 1 1 3 1 C0 95 (fvG x) Tryz.underlying39 hinf hN1 (by simp only [Nat.min_def]; split <;> omega) rfl (fun j v hj => by rw [addn, Nat.zero_add]; exact xCells hv1 j v hj) (by rw [hC0s]; show k * 3 + 3 ≤ _; omega) (by intro v hv; exact oneFail [x] v (by rw [flatS_one]; exact hv))
  have hC1s : C1.size = G * 3 := by
    rw [hC1]
    simp only [List.size_toArray, List.length_append, List.length_take, List.length_drop, Array.length_toList, hC0s]
    show min (k * 3) (G * 3) + 3 + (G * 3 - (k * 3 + 3)) = _
    omega
  obtain ⟨W2, hW2⟩ : ∃ W2, W2 = W1.setRow w.heap.size C1 := ⟨_, rfl⟩
  rw [← hW2] at hc1
  have hN2 : W2.heap[w.heap.size]? = some (.cells C1 95 (0, 0)) := by rw [hW2]; exact setRow_same hN1 C1
  have hg2 : W2.heap[g]? = some (.cells cur 95 (0, 0)) := by rw [hW2]; exact (setRow_other _ _ g _ (by omega)).trans hg1
  have hb2 : Below B w W2 := by
    rw [hW2]
    exact hb1.trans (setRow_below hB (Nat.le_trans hB (Nat.le_of_lt (Array.getElem?_eq_some_iff.1 hN1).1)) C1)
  obtain ⟨C2, hC2⟩ : ∃ C2 : Array Value, C2 = (C1.toList.take ((k + 1) * 3) ++ flatS fvG (fs.drop k) ++ C1.toList.drop ((k + 1) * 3 + (flatS fvG (fs.drop k)).length)).toArray := ⟨_, rfl⟩
  have hcp : ∀ (W : World) ty ad dl dc sa sl sc, W.heap[w.heap.size]? = some (.cells C1 95 (0, 0)) → W.heap[g]? = some (.cells cur 95 (0, 0)) → ad = ⟨w.heap.size, (k + 1) * 3, none⟩ → dl = c - k → sa = ⟨g, k * 3, none⟩ → sl = c - k → (Builtin.copy_ #[39, 39] ty #[.slice (some ad) dl dc, .slice (some sa) sl sc]).run Tryz.prog W = .ok (goInt ((c - k : Nat) : Int)) (W.setRow w.heap.size C2) := by
    rintro W ty ad dl dc sa sl sc hW hWg rfl rfl rfl rfl
    rw [hC2]
    exact run_copy_rowK W _ _ ty 95 w.heap.size ((k + 1) * 3) (c - k) dc ⟨g, k * 3, none⟩ (c - k) sc 3 (c - k) C1 95 _ Tryz.underlying39 hinf hW (by simp) hdl (fun j v hj => by rw [addn]; exact hcell0 W _ v hWg (by rw [← drop_flat k (by omega), List.getElem?_drop] at hj; exact hj)) (by rw [hdl, hC1s]; omega) (oneFail _)
  have hF : OwnS fvG 3 95 (W2.setRow w.heap.size C2) B (.slice (some ⟨w.heap.size, 0, none⟩) (c + 1) G) (fs.take k ++ x :: fs.drop k) := by
    have hLl : (fs.take k ++ x :: fs.drop k).length = c + 1 := by
      simp
      omega
    have e1 : C1.toList.take ((k + 1) * 3) = flatS fvG (fs.take k) ++ fvG x := by
      rw [hC1]
      show (C0.toList.take (k * 3) ++ fvG x ++ C0.toList.drop (k * 3 + 3)).take _ = _
      rw [hC0t]
      exact List.take_left' (by rw [List.length_append, htl]; show k * 3 + 3 = _; omega)
    refine ⟨by rw [flatS_len fvG_len], .inr ⟨w.heap.size, G, C2, by rw [hLl], hB, setRow_same hN2 C2, by omega, hGm, ?_, ?_⟩⟩
    · rw [hC2]
      simp only [List.size_toArray, List.length_append, List.length_take, List.length_drop, Array.length_toList, hC1s, hdl]
      omega
    · rw [hC2, hLl]
      show (C1.toList.take ((k + 1) * 3) ++ flatS fvG (fs.drop k) ++ _).take _ = _
      rw [e1, flatS_append, flatS_cons, ← List.append_assoc]
      exact List.take_left' (by rw [List.length_append, List.length_append, htl, hdl]; show k * 3 + 3 + (c - k) * 3 = _; omega)
  have hbF : Below B w (W2.setRow w.heap.size C2) := hb2.trans (setRow_below hB (Nat.le_trans hB (Nat.le_of_lt (Array.getElem?_eq_some_iff.1 hN2).1)) C2)
  have H2 : Hid _ := hcp
  have HF : Hid _ := hF
  have HB : Hid _ := hbF
  have HN : Hid _ := hN2
  have HG : Hid _ := hg2
  have hG63 : G ≤ 9223372036854775807 := by unfold maxLen at hGm; omega
  clear hcp hF hbF hC2 hC1 hC0 hC0t hC0s hC1s hN1 hN2 hg1 hg2 hv1 hb1 hb2 hold hcell0 htk htl hdl hinf o hg hv hG hi hz0 hz1 hz2 hW1 hW2 hcs hkk hik
  have hw1 : IntKind.i64.wrap ((k : Int) + 1) = (k : Int) + 1 := by rw [IntKind.wrap_i64]; omega
  have mixed : Tryz.prog.follows .mixedOrders = true := by kernel_rfl
  have hb1 : (0 : Int) ≤ (k : Int) + 1 := by omega
  have htn : ((k : Int) + 1).toNat = k + 1 := by omega
  have hb3 : (k : Int) ≤ (c : Int) := by omega
  have hin : k ≤ c := by omega
  have hGi : ¬ (G = k) := by omega
  have hGim : ¬ (G = k + 1) := by omega
  have hci : ¬ (c = k) := by omega
  go_enter Tryz.func51, Tryz.ntmps51
  go_wp2_with (at_builtin; refine wpl_appendR _ rfl _ _ _ _ rfl _ _ rfl rfl (hrz _) ?_)
  go_region_law_o (refine step_copyR rfl _ _ 39 39 rfl (.slice (some ⟨w.heap.size, (k + 1) * 3, none⟩) (c + 1 - (k + 1)) (G - (k + 1))) (.slice (some ⟨g, k * 3, none⟩) (c - k) (c - k)) (by simp [Act.eval, Act.put]) (by simp [Act.eval, Act.put]) (H2.out _ _ _ _ _ _ _ _ HN.out HG.out rfl (by omega) rfl rfl) ?_)
  go_wp2
  go_ret
  exact ⟨_, rfl, HF.out, ⟨HB.out.os, HB.out.tape, HB.out.output, HB.out.size, HB.out.block⟩⟩
theorem insFail_any (a : Option Addr) (n c k vb : Nat) (fs : List FailV) (x : FailV) (B : Nat) (tv : TypeId) (w : World)
    (o : OwnS fvG 3 95 w B (.slice a n c) fs) (hB : B ≤ w.heap.size) (hk : k ≤ n) (hn : n ≤ 2000) (hv : w.heap[vb]? = some (.cells #[.string x.mc, .int .i64 x.ct, .int .i64 x.un] tv (0, 0))) (hne : ∀ g, a = some ⟨g, 0, none⟩ → vb ≠ g) :
    Calls Tryz.prog 51 #[.slice a n c, .int .i64 k, .slice (some ⟨vb, 0, none⟩) 1 1] w fun e w' => ∃ v, e = .returned v ∧ OwnS fvG 3 95 w' B v (fs.take k ++ x :: fs.drop k) ∧ Below B w w' := by
  have hl := o.len
  by_cases he : k = n
  · subst he
    have e : fs.take k ++ x :: fs.drop k = fs ++ [x] := by rw [List.take_of_length_le (by omega), List.drop_of_length_le (by omega)]
    rw [e]
    exact insFail_end a k c vb fs x B tv w o hB hn hv
  · obtain ⟨g, rfl, -, -, -⟩ := o.form (by omega)
    by_cases hr : n + 1 ≤ c
    · exact insFail_room g n c k vb fs x B tv w o hB (by omega) hr hv (hne g rfl)
    · exact insFail_grow g n c k vb fs x B tv w o hB (by omega) hn (by omega) hv
end Go.Proofs.YtnlepjcjakghcaaGreatDoor

namespace Go.Proofs.YtnlepjcjakghcaaGreatDoor
open Go.RowKit Go.PlainAid Go.Sort
set_option linter.unusedVariables false
set_option maxRecDepth 20000
theorem wsets_cells {g : Nat} : ∀ (vs : List Value) (i : Nat) (w : World), wsets w g i vs = w.setCells g i vs
  | [], _, _ => rfl
  | v :: r, i, w => by
    rw [World.setCells]
    exact wsets_cells r (i + 1) _
section RowP
variable {α : Type} {c : α → List Value} {K : Nat} {e : TypeId} {w : World} {B g n cap : Nat} {xs : List α}
theorem OwnS.there1 (h : OwnS c K e w B (.slice (some ⟨g, 0, none⟩) n cap) xs) (hK : ∀ x, (c x).length = K) {i : Nat} {x : α} (hx : xs[i]? = some x) (j : Nat) (hj : j < K) : w.there g (i * K + j) 1 := by
  intro m hm
  obtain rfl : m = 0 := by omega
  have hv : (c x)[j]? = some ((c x)[j]'(by rw [hK]; exact hj)) := List.getElem?_eq_getElem _
  obtain ⟨h1, h2⟩ := h.cell hK hx hv
  exact ⟨by rw [Nat.add_zero, h1]; rfl, h2⟩
theorem OwnS.thereE (h : OwnS c K e w B (.slice (some ⟨g, 0, none⟩) n cap) xs) (hK : ∀ x, (c x).length = K) {i : Nat} {x : α} (hx : xs[i]? = some x) : w.there g (i * K) K := by
  intro m hm
  have := h.there1 hK hx m hm 0 (by omega)
  rw [Nat.add_zero] at this
  exact this
theorem OwnS.putE (h : OwnS c K e w B (.slice (some ⟨g, 0, none⟩) n cap) xs) (hK : ∀ x, (c x).length = K) {i : Nat} (hi : i < n) (y : α) :
    OwnS c K e (w.setCells g (i * K) (c y)) B (.slice (some ⟨g, 0, none⟩) n cap) (xs.set i y) ∧ w.grownBy (w.setCells g (i * K) (c y)) (some g) := by
  have := h.store hK hi y
  rw [wsets_cells] at this
  exact this
end RowP
/-- One cell stored, where there is one. -/
theorem wpl_putC {P : Program} {ops : Array Oper} {rest : List Oper} {op : Oper} {a : Act} {w : World} {Q : Exit → Act → World → Prop} (t : TypeId) (hgd : op.guard = none) (x y : Operand) (ho : op.op = .store t x y)
    (q o : Nat) (v : Value) (hx : a.eval x = .pointer (some ⟨q, o, none⟩)) (hy : a.eval y = v) (h0 : w.there q o 1) (hi : (P.info? t).map (·.size) = some 1) (h1 : v.oneCell' = true)
    (h : ∀ w', w' = w.setCell ⟨q, o, none⟩ v → wpList P ops Q rest (a.put op.dst undef) w') : wpList P ops Q (op :: rest) a w :=
  wpList_plain hgd fun _ hK => by
    unfold Oper.wp execOp
    simp only [ho, hx, hy, Instr.storeAt, Instr.sureAddr, Sem.run_bind, Sem.run_pure, Result.andThen_ok, run_storeVar_at w q o t v h0 hi h1]
    exact hK _ _ (h _ rfl)
/-- A whole element stored, where there is one. -/
theorem wpl_putE {P : Program} {ops : Array Oper} {rest : List Oper} {op : Oper} {a : Act} {w : World} {Q : Exit → Act → World → Prop} (t : TypeId) (hgd : op.guard = none) (x y : Operand) (ho : op.op = .store t x y)
    (q o : Nat) (cells : Array Value) (hx : a.eval x = .pointer (some ⟨q, o, none⟩)) (hy : a.eval y = .agg cells) (h0 : w.there q o cells.size) (hi : (P.info? t).map (·.size) = some cells.size) (h1 : cells.toList.all (·.oneCell') = true)
    (h : ∀ w', w' = w.setCells q o cells.toList → wpList P ops Q rest (a.put op.dst undef) w') : wpList P ops Q (op :: rest) a w :=
  wpList_store_mid hgd t x y ho q o cells hx hy h0 hi (by rw [← Array.all_toList]; exact h1) (h _ rfl)
end Go.Proofs.YtnlepjcjakghcaaGreatDoor

namespace Go.Proofs.YtnlepjcjakghcaaGreatDoor
open Go.Lib Go.RowKit Go.PlainAid Go.Proofs.YtnlepjcjakghcaaGreatDoor.Bt Go.Sort
set_option linter.unusedVariables false
set_option maxRecDepth 20000
def cmpF (mc : ByteArray) (z : FailV) : Int := Lib.compareBytes z.mc.data.toList mc.data.toList
theorem cmpF_lt (mc : ByteArray) (z : FailV) : (cmpF mc z < 0) ↔ ltS z.mc mc = true := by
  unfold cmpF ltS
  rw [ByteArray.toList_eq, ByteArray.toList_eq, ← cby_lt, decide_eq_true_eq]
theorem cmpF_eq (mc : ByteArray) (z : FailV) : (cmpF mc z == 0) = eqM mc z := by
  unfold cmpF eqM
  rw [ByteArray.toList_eq, ByteArray.toList_eq, ← cby_eq]
  rfl
theorem failCmp_any (z : FailV) (mc : ByteArray) (w : World) :
    Calls Tryz.prog 72 #[.agg #[.string z.mc, .int .i64 z.ct, .int .i64 z.un], .string mc] w fun e w' => e = .returned (.int .i64 (cmpF mc z)) ∧ Grw w w' := by
  have HC : Hid (∀ w, Calls Tryz.prog 73 #[.string z.mc, .string mc] w fun e w' => e = .returned (.int .i64 (cmpF mc z)) ∧ w' = w) := fun w => Tryz.strings_Compare z.mc mc w
  generalize cmpF mc z = r at HC ⊢
  go_enter Tryz.func72, Tryz.ntmps72
  go_wp2_with fail
  refine (HC.out _).mono ?_
  rintro e w2 ⟨rfl, rfl⟩
  go_wp2
  go_ret
  exact ⟨rfl, (Grw.refl _).alloc _⟩
set_option maxHeartbeats 4000000 in
theorem bsFail_any (a : Option Addr) (n c : Nat) (fs : List FailV) (mc : ByteArray) (w : World) (h : Rw FaR 3 w a fs) (hl : fs.length = n) (hn : n ≤ 1048576) (hr : risB faB ltF fs = true) :
    Calls Tryz.prog 71 #[.slice a n c, .string mc, .func (.func 72) #[] #[]] w fun e w' => e = .returned (.tuple #[.int .i64 (fkN mc fs : Nat), .bool (atF mc fs (fun _ => true))]) ∧ Grw w w' := by
  have RY : Hid (Rw FaR 3 w a fs) := h
  have M : Hid (∀ (i j : Nat) (x y : FailV), i ≤ j → fs[i]? = some y → fs[j]? = some x → ltS x.mc mc = true → ltS y.mc mc = true) := fun i j x y hij hy hx hl => ris_down hr hij hy hx hl
  clear h hr
  have eg : ∀ args w, (callFunc 72 args).run Tryz.prog w = .ok (.enter 72 args) w := enters_of Tryz.func72 (by kernel_rfl) rfl
  have HE : Hid (fkN mc fs ≤ fs.length) := fk_le
  obtain ⟨K, hK⟩ : ∃ K, K = fkN mc fs := ⟨_, rfl⟩
  obtain ⟨T, hT⟩ : ∃ T, T = atF mc fs (fun _ => true) := ⟨_, rfl⟩
  have EK : Hid (K = fkN mc fs) := hK
  have ET : Hid (T = atF mc fs (fun _ => true)) := hT
  rw [← hK, ← hT]
  clear hK hT
  go_enter Tryz.func71, Tryz.ntmps71
  go_wp2
  go_loopg [9, 10] n (fun kx s9 s10 wr => ∃ lo hi : Nat, s9 = .int .i64 lo ∧ s10 = .int .i64 hi ∧ lo ≤ hi ∧ hi ≤ n ∧ hi - lo ≤ kx ∧ Hid (Grw w wr) ∧
    Hid ((∀ t x, t < lo → fs[t]? = some x → ltS x.mc mc = true) ∧ (∀ t x, hi ≤ t → fs[t]? = some x → ltS x.mc mc = false)))
  case atStart => exact ⟨0, n, rfl, rfl, Nat.zero_le _, Nat.le_refl _, by omega, Grw.refl _, (⟨fun t x ht => absurd ht (Nat.not_lt_zero _), fun t x h1 h2 => by have := (List.getElem?_eq_some_iff.1 h2).1; omega⟩ : (∀ t x, t < 0 → fs[t]? = some x → ltS x.mc mc = true) ∧ (∀ t x, n ≤ t → fs[t]? = some x → ltS x.mc mc = false))⟩
  case round =>
    obtain ⟨lo, hi, rfl, rfl, hlh, hin, hg, HG, I⟩ := hrel
    by_cases hlt : lo < hi
    · obtain ⟨z, hx⟩ := at_of hl (k := (lo + hi) / 2) (by omega)
      obtain ⟨bk, off, vs, rfl, hb, hvl, hR, hc⟩ := RY.out.at FaR.kp HG.out.below hx
      obtain ⟨rfl, -⟩ := hR
      have q0 : wr.cell? ⟨bk, off + (lo + hi) / 2 * 3, none⟩ = some (.string z.mc) := hc 0 _ rfl
      have q1 : wr.cell? ⟨bk, off + (lo + hi) / 2 * 3 + 1, none⟩ = some (.int .i64 z.ct) := hc 1 _ rfl
      have q2 : wr.cell? ⟨bk, off + (lo + hi) / 2 * 3 + 2, none⟩ = some (.int .i64 z.un) := hc 2 _ rfl
      have HX : Hid (fs[(lo + hi) / 2]? = some z) := hx
      have HP : Hid (∀ W, Calls Tryz.prog 72 #[.agg #[.string z.mc, .int .i64 z.ct, .int .i64 z.un], .string mc] W fun e w' => e = .returned (.int .i64 (cmpF mc z)) ∧ Grw W w') := fun W => failCmp_any z mc W
      have hcl := cmpF_lt mc z
      generalize cmpF mc z = r at HP hcl
      clear hc hvl hx
      by_cases hyx : r < 0
      · have hz := hcl.1 hyx
        clear hcl
        go_wp2_with (go_at_fn 72; refine (HP.out _).mono ?_; rintro e w' ⟨rfl, g1⟩)
        have HG1 : Hid (Grw w _) := HG.out.trans g1
        clear g1 HG
        go_roundg (hi - ((lo + hi) / 2 + 1))
        case measure => omega
        case rel =>
          have I2 : Hid ((∀ t x, t < (lo + hi) / 2 + 1 → fs[t]? = some x → ltS x.mc mc = true) ∧ (∀ t x, hi ≤ t → fs[t]? = some x → ltS x.mc mc = false)) := ⟨fun t x ht hx => M.out t ((lo + hi) / 2) z x (by omega) hx HX.out hz, I.out.2⟩
          exact ⟨(lo + hi) / 2 + 1, hi, by rw [show ((lo : Int) + (hi : Int)) / 2 + 1 = (((lo + hi) / 2 + 1 : Nat) : Int) by omega], rfl, by omega, hin, Nat.le_refl _, HG1, I2⟩
      · have hz : ltS z.mc mc = false := by
          cases hq : ltS z.mc mc with
          | false => rfl
          | true => exact absurd (hcl.2 hq) hyx
        clear hcl
        go_wp2_with (go_at_fn 72; refine (HP.out _).mono ?_; rintro e w' ⟨rfl, g1⟩)
        have HG1 : Hid (Grw w _) := HG.out.trans g1
        clear g1 HG
        go_roundg ((lo + hi) / 2 - lo)
        case measure => omega
        case rel =>
          have I2 : Hid ((∀ t x, t < lo → fs[t]? = some x → ltS x.mc mc = true) ∧ (∀ t x, (lo + hi) / 2 ≤ t → fs[t]? = some x → ltS x.mc mc = false)) := ⟨I.out.1, fun t x ht hx => by
            cases hq : ltS x.mc mc with
            | false => rfl
            | true => rw [M.out _ t x z ht HX.out hx hq] at hz; cases hz⟩
          exact ⟨lo, (lo + hi) / 2, rfl, by rw [show ((lo : Int) + (hi : Int)) / 2 = (((lo + hi) / 2 : Nat) : Int) by omega], by omega, by omega, Nat.le_refl _, HG1, I2⟩
    · obtain rfl : hi = lo := by omega
      obtain rfl : K = hi := by
        rw [EK.out]
        exact fk_of (by omega) I.out.1 (fun x hx => I.out.2 _ x (Nat.le_refl _) hx)
      by_cases hn2 : K < n
      · obtain ⟨z, hx⟩ := at_of hl hn2
        obtain ⟨bk, off, vs, rfl, hb, hvl, hR, hc⟩ := RY.out.at FaR.kp HG.out.below hx
        obtain ⟨rfl, -⟩ := hR
        have q0 : wr.cell? ⟨bk, off + K * 3, none⟩ = some (.string z.mc) := hc 0 _ rfl
        have q1 : wr.cell? ⟨bk, off + K * 3 + 1, none⟩ = some (.int .i64 z.ct) := hc 1 _ rfl
        have q2 : wr.cell? ⟨bk, off + K * 3 + 2, none⟩ = some (.int .i64 z.un) := hc 2 _ rfl
        have HP : Hid (∀ W, Calls Tryz.prog 72 #[.agg #[.string z.mc, .int .i64 z.ct, .int .i64 z.un], .string mc] W fun e w' => e = .returned (.int .i64 (cmpF mc z)) ∧ Grw W w') := fun W => failCmp_any z mc W
        have hT : Hid (T = eqM mc z) := by
          show T = eqM mc z
          have hx2 := hx
          rw [EK.out] at hx2
          rw [ET.out, atF_at hx2, Bool.and_true]
        have hce := cmpF_eq mc z
        rw [← hT.out] at hce
        generalize cmpF mc z = r at HP hce
        clear hc hvl hx
        go_wp2_with (go_at_fn 72; refine (HP.out _).mono ?_; rintro e w' ⟨rfl, g1⟩)
        go_ret2
        exact ⟨by first | rfl | rw [hce] | simp [hce], HG.out.trans g1⟩
      · have hT : T = false := by
          have hx : fs[fkN mc fs]? = none := by rw [← EK.out]; exact List.getElem?_eq_none (by omega)
          rw [ET.out, atF_no hx]
        subst hT
        go_wp2
        go_ret2
        exact ⟨rfl, HG.out⟩
set_option maxHeartbeats 1000000 in
theorem failPlace_any (a : Option Addr) (n c : Nat) (fs : List FailV) (mc : ByteArray) (w : World) (h : Rw FaR 3 w a fs) (hl : fs.length = n) (hn : n ≤ 1048576) (hr : risB faB ltF fs = true) :
    Calls Tryz.prog 48 #[.slice a n c, .string mc] w fun e w' => e = .returned (.tuple #[.int .i64 (fkN mc fs : Nat), .bool (atF mc fs (fun _ => true))]) ∧ Grw w w' := by
  have HB : Hid (∀ W, Grw w W → Calls Tryz.prog 71 #[.slice a n c, .string mc, .func (.func 72) #[] #[]] W fun e w' => e = .returned (.tuple #[.int .i64 (fkN mc fs : Nat), .bool (atF mc fs (fun _ => true))]) ∧ Grw W w') := fun W g => bsFail_any a n c fs mc W (h.keep FaR.kp g.below) hl hn hr
  clear h hr
  generalize atF mc fs (fun _ => true) = T at HB ⊢
  generalize fkN mc fs = K at HB ⊢
  go_enter Tryz.func48, Tryz.ntmps48
  go_wp2_with (go_at_call 71; refine (HB.out _ (Grw.refl w)).mono ?_; rintro e w' ⟨rfl, g1⟩)
  go_ret2
  exact ⟨rfl, g1⟩
set_option maxHeartbeats 2000000 in
theorem mustWait_any (a : Option Addr) (n c : Nat) (fs : List FailV) (mc : ByteArray) (now : Int) (w : World) (h : Rw FaR 3 w a fs) (hl : fs.length = n) (hn : n ≤ 1048576) (hr : risB faB ltF fs = true) :
    Calls Tryz.prog 25 #[.slice a n c, .string mc, .int .i64 now] w fun e w' => e = .returned (.bool (atF mc fs (fun x => decide (now < x.un)))) ∧ Grw w w' := by
  have HB : Hid (Calls Tryz.prog 48 #[.slice a n c, .string mc] w fun e w' => e = .returned (.tuple #[.int .i64 (fkN mc fs : Nat), .bool (atF mc fs (fun _ => true))]) ∧ Grw w w') := failPlace_any a n c fs mc w h hl hn hr
  have RY : Hid (Rw FaR 3 w a fs) := h
  have HT : Hid (atF mc fs (fun _ => true) = true → ∃ x, fs[fkN mc fs]? = some x ∧ atF mc fs (fun x => decide (now < x.un)) = decide (now < x.un)) := fun hq => by
    cases hx : fs[fkN mc fs]? with
    | none => rw [atF_no hx] at hq; cases hq
    | some x =>
      rw [atF_at hx, Bool.and_true] at hq
      exact ⟨x, rfl, by rw [atF_at hx, hq, Bool.true_and]⟩
  have HF : Hid (atF mc fs (fun _ => true) = false → atF mc fs (fun x => decide (now < x.un)) = false) := fun hq => by
    cases hx : fs[fkN mc fs]? with
    | none => exact atF_no hx
    | some x =>
      rw [atF_at hx, Bool.and_true] at hq
      rw [atF_at hx, hq, Bool.false_and]
  clear h hr
  obtain ⟨R, hR⟩ : ∃ R, R = atF mc fs (fun x => decide (now < x.un)) := ⟨_, rfl⟩
  rw [← hR] at HT HF ⊢
  clear hR
  generalize atF mc fs (fun _ => true) = T at HB HT HF
  obtain ⟨K, hK⟩ : ∃ K, K = fkN mc fs := ⟨_, rfl⟩
  rw [← hK] at HB HT
  clear hK
  cases T with
  | false =>
    have hr2 : Hid (R = false) := HF.out rfl
    go_enter Tryz.func25, Tryz.ntmps25
    go_wp2_with fail
    refine HB.out.mono ?_
    rintro e w2 ⟨rfl, g1⟩
    go_wp2
    go_ret
    exact ⟨by rw [hr2.out]; rfl, g1⟩
  | true =>
    obtain ⟨x, hx, hxr⟩ := HT.out rfl
    have hr2 : Hid (R = decide (now < x.un)) := hxr
    have HX : Hid (fs[K]? = some x) := hx
    have hkl : K < n := by have := (List.getElem?_eq_some_iff.1 hx).1; omega
    clear hx hxr HT HF
    go_enter Tryz.func25, Tryz.ntmps25
    go_wp2_with fail
    refine HB.out.mono ?_
    rintro e w2 ⟨rfl, g1⟩
    obtain ⟨bk, off, vs, rfl, hb, hvl, hR, hc⟩ := RY.out.at FaR.kp g1.below HX.out
    obtain ⟨rfl, -⟩ := hR
    have q2 : w2.cell? ⟨bk, off + K * 3 + 2, none⟩ = some (.int .i64 x.un) := hc 2 _ rfl
    clear hc hvl
    go_wp2
    go_ret
    exact ⟨by rw [hr2.out]; rfl, g1⟩
theorem failI_len {mc : ByteArray} {fs : List FailV} (h : fs.length = 20) : failI mc fs = fs := by unfold failI; rw [if_pos h]
theorem failI_ins {mc : ByteArray} {fs : List FailV} (h : ¬ fs.length = 20) : failI mc fs = insX mc fs := by unfold failI; rw [if_neg h]
theorem ins_set (fs : List FailV) (K : Nat) (x y : FailV) (hk : K ≤ fs.length) : (fs.take K ++ x :: fs.drop K).set K y = fs.take K ++ y :: fs.drop K := by
  have hl : (fs.take K).length = K := by rw [List.length_take]; omega
  rw [List.set_append_right _ _ (by omega), hl, Nat.sub_self]
  rfl
theorem ins_at (fs : List FailV) (K : Nat) (x : FailV) (hk : K ≤ fs.length) : (fs.take K ++ x :: fs.drop K)[K]? = some x := by
  have hl : (fs.take K).length = K := by rw [List.length_take]; omega
  rw [List.getElem?_append_right (by omega), hl, Nat.sub_self]
  rfl
set_option maxHeartbeats 4000000 in
theorem failsCounted_any (a : Option Addr) (n c : Nat) (fs : List FailV) (mc : ByteArray) (now : Int) (w : World) (h : Src FaR 3 w a n c fs) (hr : risB faB ltF fs = true) (hn : n ≤ 20) (hb : ∀ z, z ∈ fs → 0 ≤ z.ct ∧ z.ct ≤ 2) (ho : ∀ z, z ∈ fs → FaRok z) (h0 : 0 ≤ now ∧ now ≤ 100000) :
    Calls Tryz.prog 27 #[.slice a n c, .string mc, .int .i64 now] w fun e w' => ∃ v, e = .returned v ∧ OwnS fvG 3 95 w' w.heap.size v (failX mc now fs) ∧ Below w.heap.size w w' := by
  have hl := h.hlen
  have HC : Hid (Calls Tryz.prog 46 #[.slice a n c] w fun e w' => ∃ v, e = .returned v ∧ OwnS fvG 3 95 w' w.heap.size v fs ∧ Below w.heap.size w w') := cloneFail_any a n c fs w h.hrw h.hlen (by omega) h.hcap h.hspot h.hnil
  have HB : Hid (∀ (a : Option Addr) (c : Nat) W, OwnS fvG 3 95 W w.heap.size (.slice a n c) fs → Calls Tryz.prog 48 #[.slice a n c, .string mc] W fun e w' => e = .returned (.tuple #[.int .i64 (fkN mc fs : Nat), .bool (atF mc fs (fun _ => true))]) ∧ Grw W w') := fun a c W o => failPlace_any a n c fs mc W (o.rw (ok := FaRok) fvG_len ho) hl (by omega) hr
  have HL : Hid (fkN mc fs ≤ n) := by rw [← hl]; exact fk_le
  have HT : Hid (atF mc fs (fun _ => true) = true → ∃ x, fs[fkN mc fs]? = some x ∧ eqM mc x = true ∧ failX mc now fs = fs.set (fkN mc fs) (bumpF now x)) := fun hq => by
    cases hx : fs[fkN mc fs]? with
    | none => rw [atF_no hx] at hq; cases hq
    | some x =>
      rw [atF_at hx, Bool.and_true] at hq
      exact ⟨x, rfl, hq, failX_at hx hq⟩
  have HF : Hid (atF mc fs (fun _ => true) = false → failX mc now fs = failI mc fs) := fun hq => failX_else hq
  have HI : Hid (¬ n = 20 → failI mc fs = fs.take (fkN mc fs) ++ ⟨mc, 1, 0⟩ :: fs.drop (fkN mc fs)) := fun hq => by rw [failI_ins (by omega)]; rfl
  have HJ : Hid (n = 20 → failI mc fs = fs) := fun hq => failI_len (by omega)
  clear h hr ho
  generalize atF mc fs (fun _ => true) = T at HB HT HF
  generalize failX mc now fs = X at HT HF ⊢
  generalize failI mc fs = I at HF HI HJ
  generalize fkN mc fs = K at HB HT HI HL
  have hkn := HL.out
  have hw2 : IntKind.i64.wrap (now + 10) = now + 10 := by rw [IntKind.wrap_i64]; omega
  cases T with
  | true =>
    obtain ⟨x, hx, hq, hX⟩ := HT.out rfl
    have hxb := hb x (List.mem_of_getElem? hx)
    have hxm : x.mc = mc := ba_ext hq
    have HX : Hid (fs[K]? = some x) := hx
    have hkl : K < n := by have := (List.getElem?_eq_some_iff.1 hx).1; omega
    have EX : Hid (X = fs.set K (bumpF now x)) := hX
    obtain ⟨xm, xc, xu⟩ := x
    dsimp only at hxb hxm
    subst hxm
    have hw1 : IntKind.i64.wrap (xc + 1) = xc + 1 := by rw [IntKind.wrap_i64]; omega
    clear hx hX HT HF HI HJ hq hb
    go_enter Tryz.func27, Tryz.ntmps27
    go_wp2_with fail
    refine HC.out.mono ?_
    rintro e w1 ⟨v, rfl, o1, b1⟩
    obtain ⟨a1, cc, rfl, -⟩ := OwnS.slice o1
    rw [hl] at o1 ⊢
    obtain ⟨g, rfl, hgw, -, -⟩ := o1.form (by omega)
    go_wp2_with fail
    refine (HB.out _ _ _ o1).mono ?_
    rintro e w2 ⟨rfl, g1⟩
    have O1 : Hid (OwnS fvG 3 95 w2 w.heap.size (.slice (some ⟨g, 0, none⟩) n cc) fs) := o1.now g1.below
    have B1 : Hid (Below w.heap.size w w2) := b1.trans (g1.below.mono b1.size)
    clear o1 b1 g1 HB HC
    have hcl := O1.out.cell fvG_len (j := 1) HX.out rfl
    have c1 := hcl.1
    have z1 := hcl.2
    clear hcl
    by_cases h3 : xc + 1 = 3
    · have hd : (xc + 1 == 3) = true := by rw [h3]; rfl
      have hk3 : Hid (xc + 1 = 3) := h3
      clear h3
      go_wp2_with (first | (refine wpl_putC 3 rfl _ _ rfl g (K * 3 + 1) (.int .i64 (xc + 1)) rfl rfl (O1.out.there1 fvG_len HX.out 1 (by omega)) rfl rfl ?_; intro W5 hw5; have T5 := O1.out.set1 fvG_len (j := 1) (y := ⟨xm, xc + 1, xu⟩) HX.out (by omega) rfl; rw [← hw5] at T5; have B5 : Hid (Below w.heap.size w W5) := (B1.out.grown T5.2 B1.out.size (fun z hz => by cases hz; omega)); have O5 : Hid (OwnS fvG 3 95 W5 w.heap.size (.slice (some ⟨g, 0, none⟩) n cc) (fs.set K ⟨xm, xc + 1, xu⟩)) := T5.1; have HX5 : Hid ((fs.set K ⟨xm, xc + 1, xu⟩)[K]? = some ⟨xm, xc + 1, xu⟩) := List.getElem?_set_self (by have := (List.getElem?_eq_some_iff.1 HX.out).1; exact this); clear hw5 T5 O1 B1 c1 z1; obtain ⟨c5, z5⟩ := O5.out.cell fvG_len (j := 1) HX5.out rfl) | (refine wpl_putE 95 rfl _ _ rfl g (K * 3) _ rfl rfl (O5.out.thereE fvG_len HX5.out) rfl rfl ?_; intro W9 hw9; have T9 := O5.out.putE fvG_len (i := K) (by omega) ⟨xm, 0, now + 10⟩; replace hw9 : W9 = W5.setCells g (K * 3) (fvG ⟨xm, 0, now + 10⟩) := hw9; rw [← hw9] at T9; have B9 : Hid (Below w.heap.size w W9) := (B5.out.grown T9.2 B5.out.size (fun z hz => by cases hz; omega)); have O9 : Hid (OwnS fvG 3 95 W9 w.heap.size (.slice (some ⟨g, 0, none⟩) n cc) (fs.set K ⟨xm, 0, now + 10⟩)) := (by rw [List.set_set] at T9; exact T9.1); clear hw9 T9 O5 B5 c5 z5) | fail)
      go_ret
      refine ⟨_, rfl, ?_, B9.out⟩
      rw [show X = fs.set K ⟨xm, 0, now + 10⟩ by rw [EX.out]; unfold bumpF; rw [if_pos hk3.out]]
      exact O9.out
    · have hd : (xc + 1 == 3) = false := by simpa using h3
      have hk3 : Hid (¬ xc + 1 = 3) := h3
      clear h3
      go_wp2_with (first | (refine wpl_putC 3 rfl _ _ rfl g (K * 3 + 1) (.int .i64 (xc + 1)) rfl rfl (O1.out.there1 fvG_len HX.out 1 (by omega)) rfl rfl ?_; intro W5 hw5; have T5 := O1.out.set1 fvG_len (j := 1) (y := ⟨xm, xc + 1, xu⟩) HX.out (by omega) rfl; rw [← hw5] at T5; have B5 : Hid (Below w.heap.size w W5) := (B1.out.grown T5.2 B1.out.size (fun z hz => by cases hz; omega)); have O5 : Hid (OwnS fvG 3 95 W5 w.heap.size (.slice (some ⟨g, 0, none⟩) n cc) (fs.set K ⟨xm, xc + 1, xu⟩)) := T5.1; have HX5 : Hid ((fs.set K ⟨xm, xc + 1, xu⟩)[K]? = some ⟨xm, xc + 1, xu⟩) := List.getElem?_set_self (by have := (List.getElem?_eq_some_iff.1 HX.out).1; exact this); clear hw5 T5 O1 B1 c1 z1; obtain ⟨c5, z5⟩ := O5.out.cell fvG_len (j := 1) HX5.out rfl) | fail)
      go_ret
      refine ⟨_, rfl, ?_, B5.out⟩
      rw [show X = fs.set K ⟨xm, xc + 1, xu⟩ by rw [EX.out]; unfold bumpF; rw [if_neg hk3.out]]
      exact O5.out
  | false =>
    have hX : Hid (X = I) := HF.out rfl
    clear HT HF hb
    by_cases hf : n = 20
    · have hI : Hid (I = fs) := HJ.out hf
      have hz : ((n : Int) == 20) = true := by rw [hf]; rfl
      clear HI HJ hf
      go_enter Tryz.func27, Tryz.ntmps27
      go_wp2_with fail
      refine HC.out.mono ?_
      rintro e w1 ⟨v, rfl, o1, b1⟩
      obtain ⟨a1, cc, rfl, -⟩ := OwnS.slice o1
      rw [hl] at o1 ⊢
      go_wp2_with fail
      refine (HB.out _ _ _ o1).mono ?_
      rintro e w2 ⟨rfl, g1⟩
      have O1 : Hid (OwnS fvG 3 95 w2 w.heap.size (.slice a1 n cc) fs) := o1.now g1.below
      have B1 : Hid (Below w.heap.size w w2) := b1.trans (g1.below.mono b1.size)
      clear o1 b1 g1 HB HC
      go_wp2
      go_ret
      refine ⟨_, rfl, ?_, B1.out⟩
      rw [hX.out, hI.out]
      exact O1.out
    · have hI : Hid (I = fs.take K ++ ⟨mc, 1, 0⟩ :: fs.drop K) := HI.out hf
      have hz : ((n : Int) == 20) = false := by simp; omega
      clear HI HJ hf
      go_enter Tryz.func27, Tryz.ntmps27
      go_wp2_with fail
      refine HC.out.mono ?_
      rintro e w1 ⟨v, rfl, o1, b1⟩
      obtain ⟨a1, c1, rfl, -, -, ha1⟩ := OwnS.slice o1
      rw [hl] at o1 ⊢
      go_wp2_with fail
      refine (HB.out _ _ _ o1).mono ?_
      rintro e w2 ⟨rfl, g1⟩
      have O0 : Hid (OwnS fvG 3 95 w2 w.heap.size (.slice a1 n c1) fs) := o1.now g1.below
      have B0 : Hid (Below w.heap.size w w2) := b1.trans (g1.below.mono b1.size)
      have A1 : Hid (∀ g, a1 = some ⟨g, 0, none⟩ → g < w2.heap.size) := fun g e => Nat.lt_of_lt_of_le (ha1 g 0 e).2 g1.below.size
      clear o1 b1 g1 HB HC ha1
      go_wp2_with fail
      obtain ⟨x, hx⟩ : ∃ x : FailV, x = ⟨mc, 0, 0⟩ := ⟨_, rfl⟩
      have HQ := insFail_any a1 n c1 K w2.heap.size fs x w.heap.size 95 (w2.alloc (.cells #[.string x.mc, .int .i64 x.ct, .int .i64 x.un] 95)) (O0.out.now ((Below.refl _ _).alloc (Nat.le_refl _) _)) (by have := B0.out.size; simp; omega) hkn (by omega) (heap_alloc_new w2 _) (fun g e => by have := A1.out g e; omega)
      have BQ : Hid (Below w.heap.size w (w2.alloc (.cells #[.string x.mc, .int .i64 x.ct, .int .i64 x.un] 95))) := B0.out.alloc B0.out.size _
      have HXV : Hid (x = ⟨mc, 0, 0⟩) := hx
      rw [hx] at HQ BQ
      refine HQ.mono ?_
      rintro e w3 ⟨v, rfl, o3, b3⟩
      obtain ⟨a3, cc, rfl, -⟩ := OwnS.slice o3
      have hL : (fs.take K ++ (⟨mc, 0, 0⟩ : FailV) :: fs.drop K).length = n + 1 := by
        simp
        omega
      rw [hL] at o3 ⊢
      obtain ⟨g, rfl, hgw, -, -⟩ := o3.form (by omega)
      rw [← hx] at o3
      obtain ⟨xm, xc, xu⟩ := x
      have O1 : Hid (OwnS fvG 3 95 w3 w.heap.size (.slice (some ⟨g, 0, none⟩) (n + 1) cc) (fs.take K ++ ⟨xm, xc, xu⟩ :: fs.drop K)) := o3
      have B1 : Hid (Below w.heap.size w w3) := BQ.out.trans b3
      have HX : Hid ((fs.take K ++ (⟨xm, xc, xu⟩ : FailV) :: fs.drop K)[K]? = some ⟨xm, xc, xu⟩) := ins_at fs K _ (by omega)
      have hw1 : IntKind.i64.wrap (xc + 1) = xc + 1 := by
        have := congrArg FailV.ct hx
        dsimp only at this
        rw [IntKind.wrap_i64]
        omega
      have hkl : K < n + 1 := by omega
      clear o3 b3 HQ BQ O0 B0 A1 hx hL
      have hcl := O1.out.cell fvG_len (j := 1) HX.out rfl
      have c1 := hcl.1
      have z1 := hcl.2
      clear hcl
      have h3 : ¬ xc + 1 = 3 := by have := congrArg FailV.ct HXV.out; dsimp only at this; omega
      have hd : (xc + 1 == 3) = false := by simpa using h3
      have hk3 : Hid (¬ xc + 1 = 3) := h3
      clear h3
      go_wp2_with (first | (refine wpl_putC 3 rfl _ _ rfl g (K * 3 + 1) (.int .i64 (xc + 1)) rfl rfl (O1.out.there1 fvG_len HX.out 1 (by omega)) rfl rfl ?_; intro W5 hw5; have T5 := O1.out.set1 fvG_len (j := 1) (y := ⟨xm, xc + 1, xu⟩) HX.out (by omega) rfl; rw [← hw5] at T5; have B5 : Hid (Below w.heap.size w W5) := (B1.out.grown T5.2 B1.out.size (fun z hz => by cases hz; omega)); have O5 : Hid (OwnS fvG 3 95 W5 w.heap.size (.slice (some ⟨g, 0, none⟩) (n + 1) cc) ((fs.take K ++ ⟨xm, xc, xu⟩ :: fs.drop K).set K ⟨xm, xc + 1, xu⟩)) := T5.1; have HX5 : Hid (((fs.take K ++ ⟨xm, xc, xu⟩ :: fs.drop K).set K ⟨xm, xc + 1, xu⟩)[K]? = some ⟨xm, xc + 1, xu⟩) := List.getElem?_set_self (by have := (List.getElem?_eq_some_iff.1 HX.out).1; exact this); clear hw5 T5 O1 B1 c1 z1; obtain ⟨c5, z5⟩ := O5.out.cell fvG_len (j := 1) HX5.out rfl) | fail)
      go_ret
      refine ⟨_, rfl, ?_, B5.out⟩
      rw [show X = (fs.take K ++ ⟨xm, xc, xu⟩ :: fs.drop K).set K ⟨xm, xc + 1, xu⟩ by
        have h1 := congrArg FailV.mc HXV.out
        have h2 := congrArg FailV.ct HXV.out
        have h3 := congrArg FailV.un HXV.out
        dsimp only at h1 h2 h3
        rw [hX.out, hI.out, ins_set _ _ _ _ (by omega)]
        rw [h1, h2, h3]
        rfl]
      exact O5.out
end Go.Proofs.YtnlepjcjakghcaaGreatDoor

namespace Go.Proofs.YtnlepjcjakghcaaGreatDoor
open Go.Shelf Go.Lib Go.Proofs Go.RowKit Go.PlainAid Go.Proofs.YtnlepjcjakghcaaGreatDoor.Bt Go.Sort
set_option linter.unusedVariables false
set_option maxRecDepth 20000

theorem rolePlace1_any (nm nm2 : ByteArray) (ra : Option Addr) (rl2 rc2 : Nat) (rq rm ri : Int) (B : Nat) (w : World) (hc : w.cell? ⟨B, 0, none⟩ = some (.string nm2)) :
    Calls Tryz.prog 79 #[.agg #[.string nm, .slice ra rl2 rc2, .int .i64 rq, .int .i64 rm, .int .i64 ri], .pointer (some ⟨B, 0, none⟩)] w fun e w' => e = .returned (.bool (nm.toList == nm2.toList)) ∧ Grw w w' := by
  have hB : B < w.heap.size := World.block_lt_of_cell? w _ hc
  have hc2 := acell hc (.cells #[.string nm, .slice ra rl2 rc2, .int .i64 rq, .int .i64 rm, .int .i64 ri] 87)
  obtain ⟨u, hu⟩ : ∃ u, (nm.toList == nm2.toList) = u := ⟨_, rfl⟩
  rw [hu]
  go_enter Tryz.func79, Tryz.ntmps79
  go_wp2
  go_ret
  exact ⟨by first | rfl | (rw [hu]; rfl), (Grw.refl _).alloc _⟩
set_option maxHeartbeats 2000000 in
theorem idxRole_any (y : Option Addr) (n c : Nat) (ros : List RoleV) (nm2 : ByteArray) (B : Nat) (w : World) (h : Rw (RoR 0) 5 w y ros) (hl : ros.length = n) (hn : n ≤ 1048576) (hcl : w.cell? ⟨B, 0, none⟩ = some (.string nm2)) :
    Calls Tryz.prog 78 #[.slice y n c, .func (.func 79) #[] #[.pointer (some ⟨B, 0, none⟩)]] w fun e w' => e = .returned (.int .i64 (roI ros nm2)) ∧ Grw w w' := by
  have RY : Hid (Rw (RoR 0) 5 w y ros) := h
  clear h
  have HCL : Hid (w.cell? ⟨B, 0, none⟩ = some (.string nm2)) := hcl
  clear hcl
  have eg : ∀ args w, (callFunc 79 args).run Tryz.prog w = .ok (.enter 79 args) w := enters_of Tryz.func79 (by kernel_rfl) rfl
  go_enter Tryz.func78, Tryz.ntmps78
  go_wp2
  go_loopw [8] (fun u wr => ∃ k : Nat, k ≤ n ∧ u = .int .i64 k ∧ Hid ((ros.take k).find? (rfP nm2) = none) ∧ Hid (Grw w wr)) (fun u _ => n - (intOf u).toNat)
  case atStart => exact ⟨0, Nat.zero_le _, rfl, rfl, Grw.refl _⟩
  case round =>
    obtain ⟨k, hk, rfl, HO, HG⟩ := hrel
    by_cases hlt : k < n
    · obtain ⟨z, hx⟩ := at_of hl hlt
      obtain ⟨bk, off, vs, rfl, hb, hvl, hR, hc⟩ := RY.out.at (RoR.kp 0) HG.out.below hx
      have HY : Hid (rfP nm2 z = true → roI ros nm2 = k) := fun h => by unfold roI; rw [bfind_yes hx HO.out h, bfind_at hx HO.out h]
      have HN : Hid (rfP nm2 z = false → (ros.take (k + 1)).find? (rfP nm2) = none) := fun h => bfind_no hx HO.out h
      obtain ⟨nm, rrs, rq, rm, ri⟩ := z
      obtain ⟨ra, rc2, rfl, -⟩ := hR
      have q0 : wr.cell? ⟨bk, off + k * 5, none⟩ = some (.string nm) := hc 0 _ rfl
      have q1 : wr.cell? ⟨bk, off + k * 5 + 1, none⟩ = some (.slice ra rrs.length rc2) := hc 1 _ rfl
      have q2 : wr.cell? ⟨bk, off + k * 5 + 2, none⟩ = some (.int .i64 rq) := hc 2 _ rfl
      have q3 : wr.cell? ⟨bk, off + k * 5 + 3, none⟩ = some (.int .i64 rm) := hc 3 _ rfl
      have q4 : wr.cell? ⟨bk, off + k * 5 + 4, none⟩ = some (.int .i64 ri) := hc 4 _ rfl
      have hltz : (k : Int) < (n : Int) := by omega
      have he : rfP nm2 ⟨nm, rrs, rq, rm, ri⟩ = (nm.toList == nm2.toList) := rfl
      rw [he] at HY HN
      have HP : Hid (∀ W, Grw w W → Calls Tryz.prog 79 #[.agg #[.string nm, .slice ra rrs.length rc2, .int .i64 rq, .int .i64 rm, .int .i64 ri], .pointer (some ⟨B, 0, none⟩)] W fun e w' => e = .returned (.bool (nm.toList == nm2.toList)) ∧ Grw W w') := fun W g => rolePlace1_any nm nm2 ra rrs.length rc2 rq rm ri B W (g.keep HCL.out)
      generalize (nm.toList == nm2.toList) = u at HY HN HP
      clear hc hvl he hx
      cases u with
      | false =>
        have HN' : Hid ((ros.take (k + 1)).find? (rfP nm2) = none) := HN.out rfl
        clear HY HN
        go_wp2_with (go_at_fn 79; refine (HP.out _ HG.out).mono ?_; rintro e w' ⟨rfl, g1⟩)
        have HG1 : Hid (Grw w _) := HG.out.trans g1
        clear g1 HG
        go_roundw
        case rel => exact ⟨k + 1, by omega, by go_num, HN', HG1⟩
        case measure => simp [intOf]; omega
      | true =>
        have HY' : Hid (roI ros nm2 = k) := HY.out rfl
        clear HY HN
        go_wp2_with (go_at_fn 79; refine (HP.out _ HG.out).mono ?_; rintro e w' ⟨rfl, g1⟩)
        go_ret
        exact ⟨by rw [HY'.out]; rfl, HG.out.trans g1⟩
    · obtain rfl : k = n := by omega
      have hd : Hid (roI ros nm2 = -1) := by show roI ros nm2 = -1; unfold roI; rw [bfind_end hl HO.out]
      go_wp2
      go_ret
      exact ⟨by rw [hd.out]; rfl, HG.out⟩
set_option maxHeartbeats 1000000 in
theorem rolePlace_any (ip b gt : Int) (gm wm : ByteArray) (rs : Int) (x y : Option Addr) (lenx capx leny capy : Nat) (ros : List RoleV) (nm2 : ByteArray) (w : World) (h : Rw (RoR 0) 5 w y ros) (hl : ros.length = leny) (hl9 : leny ≤ 1048576) :
    Calls Tryz.prog 52 #[.agg #[.int .i64 ip, .int .i64 b, .int .i64 gt, .string gm, .string wm, .int .i64 rs, .slice x lenx capx, .slice y leny capy], .string nm2] w fun e w' => e = .returned (.int .i64 (roI ros nm2)) ∧ Grw w w' := by
  have RY : Hid (Rw (RoR 0) 5 w y ros) := h
  have HX : Hid (∀ W B, Grw w W → W.cell? ⟨B, 0, none⟩ = some (.string nm2) → Calls Tryz.prog 78 #[.slice y leny capy, .func (.func 79) #[] #[.pointer (some ⟨B, 0, none⟩)]] W fun e w' => e = .returned (.int .i64 (roI ros nm2)) ∧ Grw W w') := fun W B g hc => idxRole_any y leny capy ros nm2 B W (RY.out.keep (RoR.kp 0) g.below) hl hl9 hc
  clear h
  generalize roI ros nm2 = r at HX ⊢
  go_enter Tryz.func52, Tryz.ntmps52
  go_wp2_with (go_at_call 78; refine (HX.out _ _ (((Grw.refl w).alloc _).alloc _) (by simp [go_sem])).mono ?_; rintro e w' ⟨rfl, g1⟩)
  go_ret
  exact ⟨rfl, (((Grw.refl w).alloc _).alloc _).trans g1⟩
set_option maxHeartbeats 2000000 in
theorem userOK_any (ip b gt : Int) (gm wm : ByteArray) (rs : Int) (x y : Option Addr) (lenx capx leny capy : Nat) (ros : List RoleV) (nm : ByteArray) (sa : ByteArray) (ha : ByteArray) (ro : ByteArray) (bl : Int) (lg : Int) (w : World) (h : Rw (RoR 0) 5 w y ros) (hl : ros.length = leny) (hl9 : leny ≤ 1048576) (hsz : nm.size ≤ 1048576 ∧ sa.size ≤ 1048576 ∧ ha.size ≤ 1048576 ∧ ro.size ≤ 1048576) :
    Calls Tryz.prog 90 #[.agg #[.int .i64 ip, .int .i64 b, .int .i64 gt, .string gm, .string wm, .int .i64 rs, .slice x lenx capx, .slice y leny capy], .agg #[.string nm, .string sa, .string ha, .string ro, .int .i64 bl, .int .i64 lg]] w fun e w' => e = .returned (.bool (uB ros ⟨nm, sa, ha, ro, bl, lg⟩)) ∧ Grw w w' := by
  have RY : Hid (Rw (RoR 0) 5 w y ros) := h
  have HN : Hid (∀ w, Calls Tryz.prog 14 #[.string nm] w fun e w' => e = .returned (.bool (snB nm)) ∧ w' = w) := fun w => shortNameOK_any nm w hsz.1
  have HR : Hid (∀ w, Rw (RoR 0) 5 w y ros → Calls Tryz.prog 52 #[.agg #[.int .i64 ip, .int .i64 b, .int .i64 gt, .string gm, .string wm, .int .i64 rs, .slice x lenx capx, .slice y leny capy], .string ro] w fun e w' => e = .returned (.int .i64 (roI ros ro)) ∧ Grw w w') := fun w h => rolePlace_any ip b gt gm wm rs x y lenx capx leny capy ros ro w h hl hl9
  have HK : Hid (∀ w, Calls Tryz.prog 15 #[.int .i64 bl, .int .i64 lg] w fun e w' => e = .returned (.bool (dec (0 ≤ bl ∧ bl ≤ 1000000) && dec (0 ≤ lg ∧ lg ≤ 1000))) ∧ w' = w) := fun w => creditOK_any bl lg w
  have eu : uB ros ⟨nm, sa, ha, ro, bl, lg⟩ = (snB nm && (dec (sa.size ≤ 40) && (dec (ha.size = 32) && (roH ros ro && (dec (0 ≤ bl ∧ bl ≤ 1000000) && dec (0 ≤ lg ∧ lg ≤ 1000)))))) := rfl
  rw [eu]
  have hss : (sa.size : Int) ≤ 1048576 := by omega
  have hhs : (ha.size : Int) ≤ 1048576 := by omega
  clear h eu
  obtain ⟨q4, hq4⟩ : ∃ q, roH ros ro = q := ⟨_, rfl⟩
  obtain ⟨r, hr⟩ : ∃ r, roI ros ro = r := ⟨_, rfl⟩
  have hrr : (q4 = false ∧ decide (0 ≤ r) = false) ∨ (q4 = true ∧ decide (0 ≤ r) = true) := by
    rw [← hq4, ← hr]
    unfold roH roI
    cases ros.find? (rfP ro) with
    | none => left; exact ⟨rfl, by simp⟩
    | some v => right; exact ⟨rfl, by first | (simp; done) | (simp; omega)⟩
  rw [hq4]
  rw [hr] at HR
  clear hq4 hr
  generalize snB nm = q1 at HN ⊢
  generalize (dec (0 ≤ bl ∧ bl ≤ 1000000) && dec (0 ≤ lg ∧ lg ≤ 1000)) = q5 at HK ⊢
  have b1 : Hid (Grw w ((w.alloc (.cells #[.int .i64 ip, .int .i64 b, .int .i64 gt, .string gm, .string wm, .int .i64 rs, .slice x lenx capx, .slice y leny capy] 35)).alloc (.cells #[.string nm, .string sa, .string ha, .string ro, .int .i64 bl, .int .i64 lg] 25))) := ((Grw.refl w).alloc _).alloc _
  cases q1 with
  | false =>
    go_enter Tryz.func90, Tryz.ntmps90
    go_wp2_with fail
    refine (HN.out _).mono ?_
    rintro e w1 ⟨rfl, hw⟩
    subst hw
    go_wp2
    go_ret
    exact ⟨by first | rfl | simp, b1.out⟩
  | true =>
    by_cases hsa : sa.size ≤ 40
    rotate_left
    · rw [dec_n hsa]
      have hsz1 : decide ((sa.size : Int) ≤ 40) = false := decide_eq_false (by omega)
      go_enter Tryz.func90, Tryz.ntmps90
      go_wp2_with fail
      refine (HN.out _).mono ?_
      rintro e w1 ⟨rfl, hw⟩
      subst hw
      go_wp2
      go_ret
      exact ⟨by first | rfl | simp, b1.out⟩
    rw [dec_y hsa]
    have hsz1 : decide ((sa.size : Int) ≤ 40) = true := decide_eq_true (by omega)
    by_cases hha : ha.size = 32
    rotate_left
    · rw [dec_n hha]
      have hsz2 : ((ha.size : Int) == 32) = false := by simp; omega
      go_enter Tryz.func90, Tryz.ntmps90
      go_wp2_with fail
      refine (HN.out _).mono ?_
      rintro e w1 ⟨rfl, hw⟩
      subst hw
      go_wp2
      go_ret
      exact ⟨by first | rfl | simp, b1.out⟩
    rw [dec_y hha]
    have hsz2 : ((ha.size : Int) == 32) = true := by simp; omega
    rcases hrr with ⟨rfl, hr0⟩ | ⟨rfl, hr0⟩
    · go_enter Tryz.func90, Tryz.ntmps90
      go_wp2_with fail
      refine (HN.out _).mono ?_
      rintro e w1 ⟨rfl, hw⟩
      subst hw
      go_wp2_with fail
      refine (HR.out _ (RY.out.keep (RoR.kp 0) b1.out.below)).mono ?_
      rintro e w2 ⟨rfl, g2⟩
      go_wp2
      go_ret
      exact ⟨by first | rfl | simp, b1.out.trans g2⟩
    · go_enter Tryz.func90, Tryz.ntmps90
      go_wp2_with fail
      refine (HN.out _).mono ?_
      rintro e w1 ⟨rfl, hw⟩
      subst hw
      go_wp2_with fail
      refine (HR.out _ (RY.out.keep (RoR.kp 0) b1.out.below)).mono ?_
      rintro e w2 ⟨rfl, g2⟩
      have k4 : w2.cell? ⟨w.heap.size + 1, 4, none⟩ = some (.int .i64 bl) := g2.keep (a := ⟨w.heap.size + 1, 4, none⟩) (v := .int .i64 bl) (by simp [go_sem])
      have k5 : w2.cell? ⟨w.heap.size + 1, 5, none⟩ = some (.int .i64 lg) := g2.keep (a := ⟨w.heap.size + 1, 5, none⟩) (v := .int .i64 lg) (by simp [go_sem])
      have B2 : Hid (Grw w w2) := b1.out.trans g2
      clear g2
      go_wp2_with fail
      refine (HK.out _).mono ?_
      rintro e w1 ⟨rfl, hw⟩
      subst hw
      go_wp2
      go_ret
      exact ⟨by first | rfl | simp, B2.out⟩
set_option maxHeartbeats 8000000 in
theorem usersOK_any (ip b gt : Int) (gm wm : ByteArray) (rs : Int) (x y : Option Addr) (lenx capx leny capy : Nat) (ros : List RoleV) (a : Option Addr) (len cap : Nat) (us : List UserV) (w : World) (h : Rw (RoR 0) 5 w y ros) (hl2 : ros.length = leny) (hu : Rw UsR 6 w a us) (hl : us.length = len) (hsz : SzU us) (hl9 : leny ≤ 1048576) (hl8 : len ≤ 1048576) :
    Calls Tryz.prog 64 #[.agg #[.int .i64 ip, .int .i64 b, .int .i64 gt, .string gm, .string wm, .int .i64 rs, .slice x lenx capx, .slice y leny capy], .slice a len cap] w fun e w' => e = .returned (.bool (usB ros us)) ∧ Grw w w' := by
  have RY : Hid (Rw (RoR 0) 5 w y ros) := h
  have RW : Hid (Rw UsR 6 w a us) := hu
  have SZ : Hid (SzU us) := hsz
  clear h hu hsz
  by_cases h6 : len ≤ 6
  rotate_left
  · have hv : Hid (usB ros us = false) := by show usB ros us = false; unfold usB; rw [dec_n (by omega)]; rfl
    have h6z : (6 : Int) < (len : Int) := by omega
    go_enter Tryz.func64, Tryz.ntmps64
    go_wp2
    go_ret
    exact ⟨by rw [hv.out]; rfl, (Grw.refl _).alloc _⟩
  have h6z : (len : Int) ≤ 6 := by omega
  go_enter Tryz.func64, Tryz.ntmps64
  go_wp2
  go_loopw [12] (fun u wr => ∃ k : Nat, k ≤ len ∧ u = .int .i64 k ∧ Hid ((List.range k).all (risAt (uB ros) ltU us) = true) ∧ Hid (Grw w wr ∧ wr.cell? ⟨w.heap.size, 0, none⟩ = some (.int .i64 ip) ∧ wr.cell? ⟨w.heap.size, 1, none⟩ = some (.int .i64 b) ∧ wr.cell? ⟨w.heap.size, 2, none⟩ = some (.int .i64 gt) ∧ wr.cell? ⟨w.heap.size, 3, none⟩ = some (.string gm) ∧ wr.cell? ⟨w.heap.size, 4, none⟩ = some (.string wm) ∧ wr.cell? ⟨w.heap.size, 5, none⟩ = some (.int .i64 rs) ∧ wr.cell? ⟨w.heap.size, 6, none⟩ = some (.slice x lenx capx) ∧ wr.cell? ⟨w.heap.size, 7, none⟩ = some (.slice y leny capy))) (fun u _ => len - (intOf u).toNat)
  case atStart => exact ⟨0, Nat.zero_le _, rfl, rfl, (Grw.refl _).alloc _, by simp [go_sem], by simp [go_sem], by simp [go_sem], by simp [go_sem], by simp [go_sem], by simp [go_sem], by simp [go_sem], by simp [go_sem]⟩
  case round =>
    obtain ⟨k, hk, rfl, HO, HG⟩ := hrel
    obtain ⟨G0, d0, d1, d2, d3, d4, d5, d6, d7⟩ := HG.out
    have GG := G0.below
    by_cases hlt : k < len
    · obtain ⟨z, hx⟩ := at_of hl hlt
      obtain ⟨bk, off, vs, rfl, hb, hvl, hR, hc⟩ := RW.out.at UsR.kp GG hx
      have hsz := SZ.out _ (List.mem_of_getElem? hx)
      have HS : Hid (risAt (uB ros) ltU us k = true → (List.range (k + 1)).all (risAt (uB ros) ltU us) = true) := fun h => ris_step HO.out h
      have HF : Hid (risAt (uB ros) ltU us k = false → risB (uB ros) ltU us = false) := fun h => ris_no (by omega) h
      obtain ⟨nm, sa, ha, ro, bl, lg⟩ := z
      obtain ⟨rfl, -⟩ := hR
      have q0 : wr.cell? ⟨bk, off + k * 6, none⟩ = some (.string nm) := hc 0 _ rfl
      have q1 : wr.cell? ⟨bk, off + k * 6 + 1, none⟩ = some (.string sa) := hc 1 _ rfl
      have q2 : wr.cell? ⟨bk, off + k * 6 + 2, none⟩ = some (.string ha) := hc 2 _ rfl
      have q3 : wr.cell? ⟨bk, off + k * 6 + 3, none⟩ = some (.string ro) := hc 3 _ rfl
      have q4 : wr.cell? ⟨bk, off + k * 6 + 4, none⟩ = some (.int .i64 bl) := hc 4 _ rfl
      have q5 : wr.cell? ⟨bk, off + k * 6 + 5, none⟩ = some (.int .i64 lg) := hc 5 _ rfl
      have HK : Hid (∀ w, Rw (RoR 0) 5 w y ros → Calls Tryz.prog 90 #[.agg #[.int .i64 ip, .int .i64 b, .int .i64 gt, .string gm, .string wm, .int .i64 rs, .slice x lenx capx, .slice y leny capy], .agg #[.string nm, .string sa, .string ha, .string ro, .int .i64 bl, .int .i64 lg]] w fun e w' => e = .returned (.bool (uB ros ⟨nm, sa, ha, ro, bl, lg⟩)) ∧ Grw w w') := fun w h => userOK_any ip b gt gm wm rs x y lenx capx leny capy ros nm sa ha ro bl lg w h hl2 hl9 hsz
      have hltz : (k : Int) < (len : Int) := by omega
      by_cases hk0 : k = 0
      · have eo : risAt (uB ros) ltU us k = uB ros ⟨nm, sa, ha, ro, bl, lg⟩ := by subst hk0; exact risAt_zero hx
        have hkd : decide (0 < k) = false := decide_eq_false (by omega)
        clear hk0
        rw [eo] at HS HF
        generalize uB ros ⟨nm, sa, ha, ro, bl, lg⟩ = q at HK HS HF
        clear hc hvl hx eo
        have HA : Hid (Grw w (wr.alloc (.cells #[.string nm, .string sa, .string ha, .string ro, .int .i64 bl, .int .i64 lg] 25))) := G0.alloc _
        have hmix : Tryz.prog.follows .mixedOrders = true := by kernel_rfl
        have y0 : ∀ n os, (grow (World.drewN (wr.alloc (.cells #[.string nm, .string sa, .string ha, .string ro, .int .i64 bl, .int .i64 lg] 25)) n) os).cell? ⟨wr.heap.size, 0, none⟩ = some (.string nm) := fun n os => cell_grown (by simp) (by simp) n os
        have y1 : ∀ n os, (grow (World.drewN (wr.alloc (.cells #[.string nm, .string sa, .string ha, .string ro, .int .i64 bl, .int .i64 lg] 25)) n) os).cell? ⟨wr.heap.size, 1, none⟩ = some (.string sa) := fun n os => cell_grown (by simp) (by simp) n os
        have y2 : ∀ n os, (grow (World.drewN (wr.alloc (.cells #[.string nm, .string sa, .string ha, .string ro, .int .i64 bl, .int .i64 lg] 25)) n) os).cell? ⟨wr.heap.size, 2, none⟩ = some (.string ha) := fun n os => cell_grown (by simp) (by simp) n os
        have y3 : ∀ n os, (grow (World.drewN (wr.alloc (.cells #[.string nm, .string sa, .string ha, .string ro, .int .i64 bl, .int .i64 lg] 25)) n) os).cell? ⟨wr.heap.size, 3, none⟩ = some (.string ro) := fun n os => cell_grown (by simp) (by simp) n os
        have y4 : ∀ n os, (grow (World.drewN (wr.alloc (.cells #[.string nm, .string sa, .string ha, .string ro, .int .i64 bl, .int .i64 lg] 25)) n) os).cell? ⟨wr.heap.size, 4, none⟩ = some (.int .i64 bl) := fun n os => cell_grown (by simp) (by simp) n os
        have y5 : ∀ n os, (grow (World.drewN (wr.alloc (.cells #[.string nm, .string sa, .string ha, .string ro, .int .i64 bl, .int .i64 lg] 25)) n) os).cell? ⟨wr.heap.size, 5, none⟩ = some (.int .i64 lg) := fun n os => cell_grown (by simp) (by simp) n os
        have e0 : ∀ n os, (grow (World.drewN (wr.alloc (.cells #[.string nm, .string sa, .string ha, .string ro, .int .i64 bl, .int .i64 lg] 25)) n) os).cell? ⟨w.heap.size, 0, none⟩ = some (.int .i64 ip) := fun n os => (((Grw.refl wr).alloc _).trans ⟨n, os, rfl⟩).keep d0
        have e1 : ∀ n os, (grow (World.drewN (wr.alloc (.cells #[.string nm, .string sa, .string ha, .string ro, .int .i64 bl, .int .i64 lg] 25)) n) os).cell? ⟨w.heap.size, 1, none⟩ = some (.int .i64 b) := fun n os => (((Grw.refl wr).alloc _).trans ⟨n, os, rfl⟩).keep d1
        have e2 : ∀ n os, (grow (World.drewN (wr.alloc (.cells #[.string nm, .string sa, .string ha, .string ro, .int .i64 bl, .int .i64 lg] 25)) n) os).cell? ⟨w.heap.size, 2, none⟩ = some (.int .i64 gt) := fun n os => (((Grw.refl wr).alloc _).trans ⟨n, os, rfl⟩).keep d2
        have e3 : ∀ n os, (grow (World.drewN (wr.alloc (.cells #[.string nm, .string sa, .string ha, .string ro, .int .i64 bl, .int .i64 lg] 25)) n) os).cell? ⟨w.heap.size, 3, none⟩ = some (.string gm) := fun n os => (((Grw.refl wr).alloc _).trans ⟨n, os, rfl⟩).keep d3
        have e4 : ∀ n os, (grow (World.drewN (wr.alloc (.cells #[.string nm, .string sa, .string ha, .string ro, .int .i64 bl, .int .i64 lg] 25)) n) os).cell? ⟨w.heap.size, 4, none⟩ = some (.string wm) := fun n os => (((Grw.refl wr).alloc _).trans ⟨n, os, rfl⟩).keep d4
        have e5 : ∀ n os, (grow (World.drewN (wr.alloc (.cells #[.string nm, .string sa, .string ha, .string ro, .int .i64 bl, .int .i64 lg] 25)) n) os).cell? ⟨w.heap.size, 5, none⟩ = some (.int .i64 rs) := fun n os => (((Grw.refl wr).alloc _).trans ⟨n, os, rfl⟩).keep d5
        have e6 : ∀ n os, (grow (World.drewN (wr.alloc (.cells #[.string nm, .string sa, .string ha, .string ro, .int .i64 bl, .int .i64 lg] 25)) n) os).cell? ⟨w.heap.size, 6, none⟩ = some (.slice x lenx capx) := fun n os => (((Grw.refl wr).alloc _).trans ⟨n, os, rfl⟩).keep d6
        have e7 : ∀ n os, (grow (World.drewN (wr.alloc (.cells #[.string nm, .string sa, .string ha, .string ro, .int .i64 bl, .int .i64 lg] 25)) n) os).cell? ⟨w.heap.size, 7, none⟩ = some (.slice y leny capy) := fun n os => (((Grw.refl wr).alloc _).trans ⟨n, os, rfl⟩).keep d7
        have YR : Hid (∀ n os, Rw (RoR 0) 5 (grow (World.drewN (wr.alloc (.cells #[.string nm, .string sa, .string ha, .string ro, .int .i64 bl, .int .i64 lg] 25)) n) os) y ros) := fun n os => RY.out.keep (RoR.kp 0) (HA.out.trans ⟨n, os, rfl⟩).below
        cases q with
        | false =>
          have hd : Hid (risB (uB ros) ltU us = false) := HF.out (by simp)
          have hv : Hid (usB ros us = false) := by show usB ros us = false; unfold usB; rw [hd.out, Bool.and_false]
          go_wp2_with fail
          refine wp_region_quiet_grown (by assumption) (by kernel_rfl) ?_
          repeat (go_big_quiet_step (first | fail | (go_at_call 90; exact Calls.grown_of (HK.out _ (YR.out _ _)))))
          refine wpQuiet_nil ?_
          intro _ hw'
          obtain ⟨⟨nq, osq⟩, hw''⟩ := hw'
          subst hw''
          have HG1 : Hid (Grw w _) := HA.out.trans ⟨nq, osq, rfl⟩
          clear y0 y1 y2 y3 y4 y5 e0 e1 e2 e3 e4 e5 e6 e7
          go_wp2
          go_ret
          exact ⟨by rw [hv.out]; rfl, HG1.out⟩
        | true =>
          have HS' : Hid ((List.range (k + 1)).all (risAt (uB ros) ltU us) = true) := HS.out (by simp)
          clear HS HF
          go_wp2_with fail
          refine wp_region_quiet_grown (by assumption) (by kernel_rfl) ?_
          repeat (go_big_quiet_step (first | fail | (go_at_call 90; exact Calls.grown_of (HK.out _ (YR.out _ _)))))
          refine wpQuiet_nil ?_
          intro _ hw'
          obtain ⟨⟨nq, osq⟩, hw''⟩ := hw'
          subst hw''
          have HG1 : Hid (Grw w (grow (World.drewN (wr.alloc (.cells #[.string nm, .string sa, .string ha, .string ro, .int .i64 bl, .int .i64 lg] 25)) nq) osq) ∧ (grow (World.drewN (wr.alloc (.cells #[.string nm, .string sa, .string ha, .string ro, .int .i64 bl, .int .i64 lg] 25)) nq) osq).cell? ⟨w.heap.size, 0, none⟩ = some (.int .i64 ip) ∧ (grow (World.drewN (wr.alloc (.cells #[.string nm, .string sa, .string ha, .string ro, .int .i64 bl, .int .i64 lg] 25)) nq) osq).cell? ⟨w.heap.size, 1, none⟩ = some (.int .i64 b) ∧ (grow (World.drewN (wr.alloc (.cells #[.string nm, .string sa, .string ha, .string ro, .int .i64 bl, .int .i64 lg] 25)) nq) osq).cell? ⟨w.heap.size, 2, none⟩ = some (.int .i64 gt) ∧ (grow (World.drewN (wr.alloc (.cells #[.string nm, .string sa, .string ha, .string ro, .int .i64 bl, .int .i64 lg] 25)) nq) osq).cell? ⟨w.heap.size, 3, none⟩ = some (.string gm) ∧ (grow (World.drewN (wr.alloc (.cells #[.string nm, .string sa, .string ha, .string ro, .int .i64 bl, .int .i64 lg] 25)) nq) osq).cell? ⟨w.heap.size, 4, none⟩ = some (.string wm) ∧ (grow (World.drewN (wr.alloc (.cells #[.string nm, .string sa, .string ha, .string ro, .int .i64 bl, .int .i64 lg] 25)) nq) osq).cell? ⟨w.heap.size, 5, none⟩ = some (.int .i64 rs) ∧ (grow (World.drewN (wr.alloc (.cells #[.string nm, .string sa, .string ha, .string ro, .int .i64 bl, .int .i64 lg] 25)) nq) osq).cell? ⟨w.heap.size, 6, none⟩ = some (.slice x lenx capx) ∧ (grow (World.drewN (wr.alloc (.cells #[.string nm, .string sa, .string ha, .string ro, .int .i64 bl, .int .i64 lg] 25)) nq) osq).cell? ⟨w.heap.size, 7, none⟩ = some (.slice y leny capy)) := ⟨HA.out.trans ⟨nq, osq, rfl⟩, e0 nq osq, e1 nq osq, e2 nq osq, e3 nq osq, e4 nq osq, e5 nq osq, e6 nq osq, e7 nq osq⟩
          clear y0 y1 y2 y3 y4 y5 e0 e1 e2 e3 e4 e5 e6 e7
          go_wp2
          go_roundw
          case rel => exact ⟨k + 1, by omega, by go_num, HS', HG1⟩
          case measure => simp [intOf]; omega
      · obtain ⟨j, hkj⟩ : ∃ j, k = j + 1 := ⟨k - 1, by omega⟩
        obtain ⟨z', hx'⟩ := at_of (k := j) hl (by omega)
        obtain ⟨b', off', vs', e', hb', hvl', hR', hc'⟩ := RW.out.at UsR.kp GG hx'
        cases e'
        obtain ⟨nm', sa', ha', ro', bl', lg'⟩ := z'
        obtain ⟨rfl, -⟩ := hR'
        have p0 : wr.cell? ⟨bk, off + j * 6, none⟩ = some (.string nm') := hc' 0 _ rfl
        obtain ⟨lt, hlt2⟩ : ∃ lt, Op.bytesLess nm'.toList nm.toList = lt := ⟨_, rfl⟩
        have eo : risAt (uB ros) ltU us k = (uB ros ⟨nm, sa, ha, ro, bl, lg⟩ && lt) := by subst hkj; rw [← hlt2]; exact risAt_succ hx hx'
        have hkd : decide (0 < k) = true := decide_eq_true (by omega)
        have hj : (k : Int) - 1 = (j : Int) := by omega
        have hjl : (j : Int) < (len : Int) := by omega
        clear hk0 hkj
        rw [eo] at HS HF
        generalize uB ros ⟨nm, sa, ha, ro, bl, lg⟩ = q at HK HS HF
        clear hc hvl hx eo hc' hvl' hx'
        have HA : Hid (Grw w (wr.alloc (.cells #[.string nm, .string sa, .string ha, .string ro, .int .i64 bl, .int .i64 lg] 25))) := G0.alloc _
        have hmix : Tryz.prog.follows .mixedOrders = true := by kernel_rfl
        have y0 : ∀ n os, (grow (World.drewN (wr.alloc (.cells #[.string nm, .string sa, .string ha, .string ro, .int .i64 bl, .int .i64 lg] 25)) n) os).cell? ⟨wr.heap.size, 0, none⟩ = some (.string nm) := fun n os => cell_grown (by simp) (by simp) n os
        have y1 : ∀ n os, (grow (World.drewN (wr.alloc (.cells #[.string nm, .string sa, .string ha, .string ro, .int .i64 bl, .int .i64 lg] 25)) n) os).cell? ⟨wr.heap.size, 1, none⟩ = some (.string sa) := fun n os => cell_grown (by simp) (by simp) n os
        have y2 : ∀ n os, (grow (World.drewN (wr.alloc (.cells #[.string nm, .string sa, .string ha, .string ro, .int .i64 bl, .int .i64 lg] 25)) n) os).cell? ⟨wr.heap.size, 2, none⟩ = some (.string ha) := fun n os => cell_grown (by simp) (by simp) n os
        have y3 : ∀ n os, (grow (World.drewN (wr.alloc (.cells #[.string nm, .string sa, .string ha, .string ro, .int .i64 bl, .int .i64 lg] 25)) n) os).cell? ⟨wr.heap.size, 3, none⟩ = some (.string ro) := fun n os => cell_grown (by simp) (by simp) n os
        have y4 : ∀ n os, (grow (World.drewN (wr.alloc (.cells #[.string nm, .string sa, .string ha, .string ro, .int .i64 bl, .int .i64 lg] 25)) n) os).cell? ⟨wr.heap.size, 4, none⟩ = some (.int .i64 bl) := fun n os => cell_grown (by simp) (by simp) n os
        have y5 : ∀ n os, (grow (World.drewN (wr.alloc (.cells #[.string nm, .string sa, .string ha, .string ro, .int .i64 bl, .int .i64 lg] 25)) n) os).cell? ⟨wr.heap.size, 5, none⟩ = some (.int .i64 lg) := fun n os => cell_grown (by simp) (by simp) n os
        have e0 : ∀ n os, (grow (World.drewN (wr.alloc (.cells #[.string nm, .string sa, .string ha, .string ro, .int .i64 bl, .int .i64 lg] 25)) n) os).cell? ⟨w.heap.size, 0, none⟩ = some (.int .i64 ip) := fun n os => (((Grw.refl wr).alloc _).trans ⟨n, os, rfl⟩).keep d0
        have e1 : ∀ n os, (grow (World.drewN (wr.alloc (.cells #[.string nm, .string sa, .string ha, .string ro, .int .i64 bl, .int .i64 lg] 25)) n) os).cell? ⟨w.heap.size, 1, none⟩ = some (.int .i64 b) := fun n os => (((Grw.refl wr).alloc _).trans ⟨n, os, rfl⟩).keep d1
        have e2 : ∀ n os, (grow (World.drewN (wr.alloc (.cells #[.string nm, .string sa, .string ha, .string ro, .int .i64 bl, .int .i64 lg] 25)) n) os).cell? ⟨w.heap.size, 2, none⟩ = some (.int .i64 gt) := fun n os => (((Grw.refl wr).alloc _).trans ⟨n, os, rfl⟩).keep d2
        have e3 : ∀ n os, (grow (World.drewN (wr.alloc (.cells #[.string nm, .string sa, .string ha, .string ro, .int .i64 bl, .int .i64 lg] 25)) n) os).cell? ⟨w.heap.size, 3, none⟩ = some (.string gm) := fun n os => (((Grw.refl wr).alloc _).trans ⟨n, os, rfl⟩).keep d3
        have e4 : ∀ n os, (grow (World.drewN (wr.alloc (.cells #[.string nm, .string sa, .string ha, .string ro, .int .i64 bl, .int .i64 lg] 25)) n) os).cell? ⟨w.heap.size, 4, none⟩ = some (.string wm) := fun n os => (((Grw.refl wr).alloc _).trans ⟨n, os, rfl⟩).keep d4
        have e5 : ∀ n os, (grow (World.drewN (wr.alloc (.cells #[.string nm, .string sa, .string ha, .string ro, .int .i64 bl, .int .i64 lg] 25)) n) os).cell? ⟨w.heap.size, 5, none⟩ = some (.int .i64 rs) := fun n os => (((Grw.refl wr).alloc _).trans ⟨n, os, rfl⟩).keep d5
        have e6 : ∀ n os, (grow (World.drewN (wr.alloc (.cells #[.string nm, .string sa, .string ha, .string ro, .int .i64 bl, .int .i64 lg] 25)) n) os).cell? ⟨w.heap.size, 6, none⟩ = some (.slice x lenx capx) := fun n os => (((Grw.refl wr).alloc _).trans ⟨n, os, rfl⟩).keep d6
        have e7 : ∀ n os, (grow (World.drewN (wr.alloc (.cells #[.string nm, .string sa, .string ha, .string ro, .int .i64 bl, .int .i64 lg] 25)) n) os).cell? ⟨w.heap.size, 7, none⟩ = some (.slice y leny capy) := fun n os => (((Grw.refl wr).alloc _).trans ⟨n, os, rfl⟩).keep d7
        have p1 : ∀ n os, (grow (World.drewN (wr.alloc (.cells #[.string nm, .string sa, .string ha, .string ro, .int .i64 bl, .int .i64 lg] 25)) n) os).cell? ⟨bk, off + j * 6, none⟩ = some (.string nm') := fun n os => (((Grw.refl wr).alloc _).trans ⟨n, os, rfl⟩).keep p0
        have YR : Hid (∀ n os, Rw (RoR 0) 5 (grow (World.drewN (wr.alloc (.cells #[.string nm, .string sa, .string ha, .string ro, .int .i64 bl, .int .i64 lg] 25)) n) os) y ros) := fun n os => RY.out.keep (RoR.kp 0) (HA.out.trans ⟨n, os, rfl⟩).below
        cases q with
        | false =>
          have hd : Hid (risB (uB ros) ltU us = false) := HF.out (by simp)
          have hv : Hid (usB ros us = false) := by show usB ros us = false; unfold usB; rw [hd.out, Bool.and_false]
          go_wp2_with fail
          refine wp_region_quiet_grown (by assumption) (by kernel_rfl) ?_
          repeat (go_big_quiet_step (first | fail | (go_at_call 90; exact Calls.grown_of (HK.out _ (YR.out _ _)))))
          refine wpQuiet_nil ?_
          intro _ hw'
          obtain ⟨⟨nq, osq⟩, hw''⟩ := hw'
          subst hw''
          have HG1 : Hid (Grw w _) := HA.out.trans ⟨nq, osq, rfl⟩
          clear y0 y1 y2 y3 y4 y5 e0 e1 e2 e3 e4 e5 e6 e7 p1
          go_wp2
          go_ret
          exact ⟨by rw [hv.out]; rfl, HG1.out⟩
        | true =>
          cases lt with
          | true =>
            have HS' : Hid ((List.range (k + 1)).all (risAt (uB ros) ltU us) = true) := HS.out (by simp)
            clear HS HF
            go_wp2_with fail
            refine wp_region_quiet_grown (by assumption) (by kernel_rfl) ?_
            repeat (go_big_quiet_step (first | fail | (go_at_call 90; exact Calls.grown_of (HK.out _ (YR.out _ _)))))
            refine wpQuiet_nil ?_
            intro _ hw'
            obtain ⟨⟨nq, osq⟩, hw''⟩ := hw'
            subst hw''
            have HG1 : Hid (Grw w (grow (World.drewN (wr.alloc (.cells #[.string nm, .string sa, .string ha, .string ro, .int .i64 bl, .int .i64 lg] 25)) nq) osq) ∧ (grow (World.drewN (wr.alloc (.cells #[.string nm, .string sa, .string ha, .string ro, .int .i64 bl, .int .i64 lg] 25)) nq) osq).cell? ⟨w.heap.size, 0, none⟩ = some (.int .i64 ip) ∧ (grow (World.drewN (wr.alloc (.cells #[.string nm, .string sa, .string ha, .string ro, .int .i64 bl, .int .i64 lg] 25)) nq) osq).cell? ⟨w.heap.size, 1, none⟩ = some (.int .i64 b) ∧ (grow (World.drewN (wr.alloc (.cells #[.string nm, .string sa, .string ha, .string ro, .int .i64 bl, .int .i64 lg] 25)) nq) osq).cell? ⟨w.heap.size, 2, none⟩ = some (.int .i64 gt) ∧ (grow (World.drewN (wr.alloc (.cells #[.string nm, .string sa, .string ha, .string ro, .int .i64 bl, .int .i64 lg] 25)) nq) osq).cell? ⟨w.heap.size, 3, none⟩ = some (.string gm) ∧ (grow (World.drewN (wr.alloc (.cells #[.string nm, .string sa, .string ha, .string ro, .int .i64 bl, .int .i64 lg] 25)) nq) osq).cell? ⟨w.heap.size, 4, none⟩ = some (.string wm) ∧ (grow (World.drewN (wr.alloc (.cells #[.string nm, .string sa, .string ha, .string ro, .int .i64 bl, .int .i64 lg] 25)) nq) osq).cell? ⟨w.heap.size, 5, none⟩ = some (.int .i64 rs) ∧ (grow (World.drewN (wr.alloc (.cells #[.string nm, .string sa, .string ha, .string ro, .int .i64 bl, .int .i64 lg] 25)) nq) osq).cell? ⟨w.heap.size, 6, none⟩ = some (.slice x lenx capx) ∧ (grow (World.drewN (wr.alloc (.cells #[.string nm, .string sa, .string ha, .string ro, .int .i64 bl, .int .i64 lg] 25)) nq) osq).cell? ⟨w.heap.size, 7, none⟩ = some (.slice y leny capy)) := ⟨HA.out.trans ⟨nq, osq, rfl⟩, e0 nq osq, e1 nq osq, e2 nq osq, e3 nq osq, e4 nq osq, e5 nq osq, e6 nq osq, e7 nq osq⟩
            clear y0 y1 y2 y3 y4 y5 e0 e1 e2 e3 e4 e5 e6 e7 p1
            go_wp2
            go_roundw
            case rel => exact ⟨k + 1, by omega, by go_num, HS', HG1⟩
            case measure => simp [intOf]; omega
          | false =>
            have hd : Hid (risB (uB ros) ltU us = false) := HF.out (by simp)
            have hv : Hid (usB ros us = false) := by show usB ros us = false; unfold usB; rw [hd.out, Bool.and_false]
            go_wp2_with fail
            refine wp_region_quiet_grown (by assumption) (by kernel_rfl) ?_
            repeat (go_big_quiet_step (first | fail | (go_at_call 90; exact Calls.grown_of (HK.out _ (YR.out _ _)))))
            refine wpQuiet_nil ?_
            intro _ hw'
            obtain ⟨⟨nq, osq⟩, hw''⟩ := hw'
            subst hw''
            have HG1 : Hid (Grw w _) := HA.out.trans ⟨nq, osq, rfl⟩
            clear y0 y1 y2 y3 y4 y5 e0 e1 e2 e3 e4 e5 e6 e7 p1
            go_wp2
            go_ret
            exact ⟨by rw [hv.out]; rfl, HG1.out⟩
    · obtain rfl : k = len := by omega
      have hv : Hid (usB ros us = true) := by show usB ros us = true; unfold usB; rw [ris_end hl HO.out, dec_y (by omega)]; rfl
      go_wp2
      go_ret
      exact ⟨by rw [hv.out]; rfl, G0⟩
end Go.Proofs.YtnlepjcjakghcaaGreatDoor

namespace Go.Proofs.YtnlepjcjakghcaaGreatDoor
open Go.RowKit Go.Maps Go.ChangeMaps Go.MapKept
open Go.WideElems (Fit rd rg pl rd_val elemAt)
set_option linter.unusedVariables false
theorem own_clear {H : Type} {P : Program} {k t e : TypeId} {R : Value → Option (DataW H × List MemPlace)} {w : World} {b n : Nat} {D : DataW H} (h : w.ownsMap P k R b n D) (ht : P.underlying t = some (.map k e)) (ty : TypeId) :
    ∃ w', (Builtin.clear_ #[t] ty #[.map (some b)]).run P w = .ok (.tuple #[]) w' ∧ w'.ownsMap P k R b 0 (.map []) ∧ w.grownBy w' (some b) := by
  obtain ⟨es, clock, hb, F, hs, hD⟩ := h
  have hlt : b < w.heap.size := (Array.getElem?_eq_some_iff.1 hb).1
  refine ⟨setBlock w b (.map #[] clock), ?_, ⟨#[], clock, heap_setBlock_same hb _, ⟨by simp, stamped_empty clock, by simp⟩, Nat.le_refl _, rfl⟩, ⟨rfl, rfl, rfl, by simp [setBlock], fun i _ hi => heap_setBlock_other hb _ (fun e => hi (by rw [e]))⟩⟩
  unfold Builtin.clear_
  have e1 : (underlying t).run P w = .ok (.map k e) w := by simp [underlying, ht]
  have e2 := MapKept.run_getObj_map (P := P) hb
  have e3 := MapKept.run_setObj_map (P := P) (.map #[] clock) hb
  simp [go_sem, e1, e2, e3, setBlock]
end Go.Proofs.YtnlepjcjakghcaaGreatDoor

namespace Go.Proofs.YtnlepjcjakghcaaGreatDoor
open Go.Shelf Go.Lib Go.Proofs Go.Maps Go.WideAt Go.WideMaps Go.RowKit Go.PlainAid Go.Proofs.YtnlepjcjakghcaaGreatDoor.Bt Go.Sort
set_option linter.unusedVariables false
set_option maxRecDepth 20000

set_option maxHeartbeats 1000000 in
theorem inLan_any (ip b gt : Int) (gm wm : ByteArray) (rs : Int) (x y : Option Addr) (lenx capx leny capy : Nat) (q : Int) (w : World) :
    Calls Tryz.prog 23 #[.agg #[.int .i64 ip, .int .i64 b, .int .i64 gt, .string gm, .string wm, .int .i64 rs, .slice x lenx capx, .slice y leny capy], .int .i64 q] w fun e w' => e = .returned (.bool (nhB ip b q)) ∧ Grw w w' := by
  have HA : Hid (∀ w, Calls Tryz.prog 43 #[.agg #[.int .i64 ip, .int .i64 b], .int .i64 q] w fun e w' => e = .returned (.tuple #[.bool (nhB ip b q), .int .i64 (nhC ip b q)]) ∧ Grw w w') := fun w => implNetHas_any ip b q w
  have hcase : (nhC ip b q = 0) ∨ (nhC ip b q ≠ 0 ∧ nhB ip b q = false) := by
    unfold nhC nhB
    cases nB ip b <;> cases dec (0 ≤ q ∧ q ≤ 4294967295) <;> simp
  generalize nhB ip b q = r at HA hcase ⊢
  generalize nhC ip b q = c at HA hcase
  rcases hcase with rfl | ⟨hc, rfl⟩
  · go_enter Tryz.func23, Tryz.ntmps23
    go_wp2_with fail
    refine (HA.out _).mono ?_
    rintro e w2 ⟨rfl, g2⟩
    go_wp2
    go_ret
    exact ⟨by first | rfl | simp, ((Grw.refl w).alloc _).trans g2⟩
  · have hcz : (c == 0) = false := by simp [hc]
    clear hc
    go_enter Tryz.func23, Tryz.ntmps23
    go_wp2_with fail
    refine (HA.out _).mono ?_
    rintro e w2 ⟨rfl, g2⟩
    go_wp2
    go_ret
    exact ⟨by first | rfl | simp, ((Grw.refl w).alloc _).trans g2⟩
set_option maxHeartbeats 4000000 in
theorem sessionOK_any (ip b gt : Int) (gm wm : ByteArray) (rs : Int) (x y : Option Addr) (lenx capx leny capy : Nat) (ua sa fa ra : Option Addr) (ul uc sl sc fl fc rl rc : Nat) (nx : Int) (id us1 : Int) (mc : ByteArray) (sip be la ud qu un il : Int) (w : World) (hn : nB ip b = true) (hn1 : 1 ≤ nx) (hn2 : nx ≤ 10000) (mu : ul ≤ 1048576) :
    Calls Tryz.prog 91 #[.agg #[.int .i64 ip, .int .i64 b, .int .i64 gt, .string gm, .string wm, .int .i64 rs, .slice x lenx capx, .slice y leny capy], .agg #[.slice ua ul uc, .slice sa sl sc, .slice fa fl fc, .slice ra rl rc, .int .i64 nx], .agg #[.int .i64 id, .int .i64 us1, .string mc, .int .i64 sip, .int .i64 be, .int .i64 la, .int .i64 ud, .int .i64 qu, .int .i64 un, .int .i64 il]] w fun e w' => e = .returned (.bool (sB nx ul ip b ⟨id, us1, mc, sip, be, la, ud, qu, un, il⟩)) ∧ Grw w w' := by
  have T0 : Hid (∀ w, Calls Tryz.prog 35 #[.int .i64 id, .int .i64 1, .int .i64 (nx - 1)] w fun e w' => e = .returned (.bool (dec (1 ≤ id ∧ id ≤ nx - 1))) ∧ w' = w) := fun w => between_any id 1 (nx - 1) w
  have T1 : Hid (∀ w, Calls Tryz.prog 35 #[.int .i64 us1, .int .i64 0, .int .i64 ((ul : Int) - 1)] w fun e w' => e = .returned (.bool (dec (0 ≤ us1 ∧ us1 ≤ (ul : Int) - 1))) ∧ w' = w) := fun w => between_any us1 0 ((ul : Int) - 1) w
  have T2 : Hid (∀ w, Calls Tryz.prog 22 #[.string mc] w fun e w' => e = .returned (.bool (dec (mc.size = 6))) ∧ w' = w) := fun w => isMac_any mc w
  have T3 : Hid (∀ w, Calls Tryz.prog 23 #[.agg #[.int .i64 ip, .int .i64 b, .int .i64 gt, .string gm, .string wm, .int .i64 rs, .slice x lenx capx, .slice y leny capy], .int .i64 sip] w fun e w' => e = .returned (.bool (nhB ip b sip)) ∧ Grw w w') := fun w => inLan_any ip b gt gm wm rs x y lenx capx leny capy sip w
  have T4 : Hid (∀ w, Calls Tryz.prog 42 #[.int .i64 be] w fun e w' => e = .returned (.bool (dec (0 ≤ be ∧ be ≤ 100000))) ∧ w' = w) := fun w => timeOK_any be w
  have T5 : Hid (∀ w, Calls Tryz.prog 35 #[.int .i64 la, .int .i64 be, .int .i64 100000] w fun e w' => e = .returned (.bool (dec (be ≤ la ∧ la ≤ 100000))) ∧ w' = w) := fun w => between_any la be 100000 w
  have T6 : Hid (∀ w, Calls Tryz.prog 35 #[.int .i64 un, .int .i64 be, .int .i64 101000] w fun e w' => e = .returned (.bool (dec (be ≤ un ∧ un ≤ 101000))) ∧ w' = w) := fun w => between_any un be 101000 w
  have T7 : Hid (∀ w, Calls Tryz.prog 35 #[.int .i64 qu, .int .i64 1, .int .i64 1000000] w fun e w' => e = .returned (.bool (dec (1 ≤ qu ∧ qu ≤ 1000000))) ∧ w' = w) := fun w => between_any qu 1 1000000 w
  have T8 : Hid (∀ w, Calls Tryz.prog 35 #[.int .i64 ud, .int .i64 0, .int .i64 qu] w fun e w' => e = .returned (.bool (dec (0 ≤ ud ∧ ud ≤ qu))) ∧ w' = w) := fun w => between_any ud 0 qu w
  have T9 : Hid (∀ w, Calls Tryz.prog 102 #[.int .i64 il] w fun e w' => e = .returned (.bool (dec (1 ≤ il ∧ il ≤ 1000))) ∧ w' = w) := fun w => minutesOK_any il w
  have hnh : nhB ip b sip = (hB ip b sip && dec (0 ≤ sip ∧ sip ≤ 4294967295)) := by unfold nhB; rw [hn, Bool.true_and, Bool.and_comm]
  obtain ⟨z, hz⟩ : ∃ z, z = sB nx ul ip b ⟨id, us1, mc, sip, be, la, ud, qu, un, il⟩ := ⟨_, rfl⟩
  have E : Hid (z = (dec (1 ≤ id ∧ id ≤ nx - 1) && (dec (0 ≤ us1 ∧ us1 ≤ (ul : Int) - 1) && (dec (mc.size = 6) && (nhB ip b sip && (dec (0 ≤ be ∧ be ≤ 100000) && (dec (be ≤ la ∧ la ≤ 100000) && (dec (be ≤ un ∧ un ≤ 101000) && (dec (1 ≤ qu ∧ qu ≤ 1000000) && (dec (0 ≤ ud ∧ ud ≤ qu) && dec (1 ≤ il ∧ il ≤ 1000))))))))))) := by
    rw [hz, hnh]
    unfold sB
    dsimp only
    ac_rfl
  rw [← hz]
  clear hz hnh
  generalize dec (1 ≤ id ∧ id ≤ nx - 1) = t0 at T0 E
  generalize dec (0 ≤ us1 ∧ us1 ≤ (ul : Int) - 1) = t1 at T1 E
  generalize dec (mc.size = 6) = t2 at T2 E
  generalize nhB ip b sip = t3 at T3 E
  generalize dec (0 ≤ be ∧ be ≤ 100000) = t4 at T4 E
  generalize dec (be ≤ la ∧ la ≤ 100000) = t5 at T5 E
  generalize dec (be ≤ un ∧ un ≤ 101000) = t6 at T6 E
  generalize dec (1 ≤ qu ∧ qu ≤ 1000000) = t7 at T7 E
  generalize dec (0 ≤ ud ∧ ud ≤ qu) = t8 at T8 E
  generalize dec (1 ≤ il ∧ il ≤ 1000) = t9 at T9 E
  go_enter Tryz.func91, Tryz.ntmps91
  go_wp2_with fail
  refine (T0.out _).mono ?_
  rintro e w9 ⟨rfl, rfl⟩
  cases t0 with
  | false =>
    have hv : Hid (z = false) := by show z = false; rw [E.out]; simp
    go_wp2
    go_ret
    exact ⟨by rw [hv.out]; rfl, ((((Grw.refl w).alloc _).alloc _).alloc _)⟩
  | true =>
    go_wp2_with fail
    refine (T1.out _).mono ?_
    rintro e w9 ⟨rfl, rfl⟩
    cases t1 with
    | false =>
      have hv : Hid (z = false) := by show z = false; rw [E.out]; simp
      go_wp2
      go_ret
      exact ⟨by rw [hv.out]; rfl, ((((Grw.refl w).alloc _).alloc _).alloc _)⟩
    | true =>
      go_wp2_with fail
      refine (T2.out _).mono ?_
      rintro e w9 ⟨rfl, rfl⟩
      cases t2 with
      | false =>
        have hv : Hid (z = false) := by show z = false; rw [E.out]; simp
        go_wp2
        go_ret
        exact ⟨by rw [hv.out]; rfl, ((((Grw.refl w).alloc _).alloc _).alloc _)⟩
      | true =>
        go_wp2_with fail
        refine (T3.out _).mono ?_
        rintro e w2 ⟨rfl, g2⟩
        have x0 : w2.cell? ⟨w.heap.size + 1 + 1, 0, none⟩ = some (.int .i64 id) := g2.keep (a := ⟨w.heap.size + 1 + 1, 0, none⟩) (v := .int .i64 id) (by simp [go_sem])
        have x1 : w2.cell? ⟨w.heap.size + 1 + 1, 1, none⟩ = some (.int .i64 us1) := g2.keep (a := ⟨w.heap.size + 1 + 1, 1, none⟩) (v := .int .i64 us1) (by simp [go_sem])
        have x2 : w2.cell? ⟨w.heap.size + 1 + 1, 2, none⟩ = some (.string mc) := g2.keep (a := ⟨w.heap.size + 1 + 1, 2, none⟩) (v := .string mc) (by simp [go_sem])
        have x3 : w2.cell? ⟨w.heap.size + 1 + 1, 3, none⟩ = some (.int .i64 sip) := g2.keep (a := ⟨w.heap.size + 1 + 1, 3, none⟩) (v := .int .i64 sip) (by simp [go_sem])
        have x4 : w2.cell? ⟨w.heap.size + 1 + 1, 4, none⟩ = some (.int .i64 be) := g2.keep (a := ⟨w.heap.size + 1 + 1, 4, none⟩) (v := .int .i64 be) (by simp [go_sem])
        have x5 : w2.cell? ⟨w.heap.size + 1 + 1, 5, none⟩ = some (.int .i64 la) := g2.keep (a := ⟨w.heap.size + 1 + 1, 5, none⟩) (v := .int .i64 la) (by simp [go_sem])
        have x6 : w2.cell? ⟨w.heap.size + 1 + 1, 6, none⟩ = some (.int .i64 ud) := g2.keep (a := ⟨w.heap.size + 1 + 1, 6, none⟩) (v := .int .i64 ud) (by simp [go_sem])
        have x7 : w2.cell? ⟨w.heap.size + 1 + 1, 7, none⟩ = some (.int .i64 qu) := g2.keep (a := ⟨w.heap.size + 1 + 1, 7, none⟩) (v := .int .i64 qu) (by simp [go_sem])
        have x8 : w2.cell? ⟨w.heap.size + 1 + 1, 8, none⟩ = some (.int .i64 un) := g2.keep (a := ⟨w.heap.size + 1 + 1, 8, none⟩) (v := .int .i64 un) (by simp [go_sem])
        have x9 : w2.cell? ⟨w.heap.size + 1 + 1, 9, none⟩ = some (.int .i64 il) := g2.keep (a := ⟨w.heap.size + 1 + 1, 9, none⟩) (v := .int .i64 il) (by simp [go_sem])
        have BX : Hid (Grw w w2) := ((((Grw.refl w).alloc _).alloc _).alloc _).trans g2
        clear g2
        cases t3 with
        | false =>
          have hv : Hid (z = false) := by show z = false; rw [E.out]; simp
          go_wp2
          go_ret
          exact ⟨by rw [hv.out]; rfl, BX.out⟩
        | true =>
          go_wp2_with fail
          refine (T4.out _).mono ?_
          rintro e w9 ⟨rfl, rfl⟩
          cases t4 with
          | false =>
            have hv : Hid (z = false) := by show z = false; rw [E.out]; simp
            go_wp2
            go_ret
            exact ⟨by rw [hv.out]; rfl, BX.out⟩
          | true =>
            go_wp2_with fail
            refine (T5.out _).mono ?_
            rintro e w9 ⟨rfl, rfl⟩
            cases t5 with
            | false =>
              have hv : Hid (z = false) := by show z = false; rw [E.out]; simp
              go_wp2
              go_ret
              exact ⟨by rw [hv.out]; rfl, BX.out⟩
            | true =>
              go_wp2_with fail
              refine (T6.out _).mono ?_
              rintro e w9 ⟨rfl, rfl⟩
              cases t6 with
              | false =>
                have hv : Hid (z = false) := by show z = false; rw [E.out]; simp
                go_wp2
                go_ret
                exact ⟨by rw [hv.out]; rfl, BX.out⟩
              | true =>
                go_wp2_with fail
                refine (T7.out _).mono ?_
                rintro e w9 ⟨rfl, rfl⟩
                cases t7 with
                | false =>
                  have hv : Hid (z = false) := by show z = false; rw [E.out]; simp
                  go_wp2
                  go_ret
                  exact ⟨by rw [hv.out]; rfl, BX.out⟩
                | true =>
                  go_wp2_with fail
                  refine (T8.out _).mono ?_
                  rintro e w9 ⟨rfl, rfl⟩
                  cases t8 with
                  | false =>
                    have hv : Hid (z = false) := by show z = false; rw [E.out]; simp
                    go_wp2
                    go_ret
                    exact ⟨by rw [hv.out]; rfl, BX.out⟩
                  | true =>
                    go_wp2_with fail
                    refine (T9.out _).mono ?_
                    rintro e w9 ⟨rfl, rfl⟩
                    have hv : Hid (z = t9) := by show z = t9; rw [E.out]; simp
                    go_wp2
                    go_ret
                    exact ⟨by rw [hv.out]; rfl, BX.out⟩
theorem numOf_inj {f g : Nat → Int} (hf : ∀ k, 0 ≤ f k ∧ f k ≤ 255) (hg : ∀ k, 0 ≤ g k ∧ g k ≤ 255) : ∀ k, numOf f k = numOf g k → ∀ j, j < k → f j = g j
  | 0, _, j, hj => absurd hj (by omega)
  | k + 1, h, j, hj => by
    rw [numOf, numOf] at h
    have a := hf k
    have b := hg k
    have e1 : numOf f k = numOf g k := by omega
    by_cases hjk : j < k
    · exact numOf_inj hf hg k e1 j hjk
    · obtain rfl : j = k := by omega
      omega
theorem bt_list9 (s : ByteArray) (j : Nat) (h : j < s.size) : bt s j = ((s.data.toList[j]'(by simpa using h)).toNat : Int) := by
  unfold bt; rw [dif_pos h]; rfl
def macN (s : SessV) : Int := numOf (bt s.mc) 6
theorem macN_iff (x y : SessV) (hx : x.mc.size = 6) (hy : y.mc.size = 6) : macN x = macN y ↔ x.mc.toList = y.mc.toList := by
  constructor
  · intro h
    have h1 := numOf_inj (fun k => ⟨bt_nonneg _ k, bt_le _ k⟩) (fun k => ⟨bt_nonneg _ k, bt_le _ k⟩) 6 h
    rw [ByteArray.toList_eq, ByteArray.toList_eq]
    apply List.ext_getElem (by simp; omega)
    intro j hj1 hj2
    have hj : j < 6 := by simp at hj1; omega
    have e := h1 j hj
    rw [bt_list9 x.mc j (by omega), bt_list9 y.mc j (by omega)] at e
    exact UInt8.toNat_inj.1 (by exact_mod_cast e)
  · intro h
    have e : x.mc = y.mc := by
      rw [ByteArray.toList_eq, ByteArray.toList_eq] at h
      apply ByteArray.ext
      exact Array.toList_inj.1 h
    unfold macN
    rw [e]
set_option maxHeartbeats 1000000 in
theorem apart1_any (id us1 : Int) (mc : ByteArray) (sip be la ud qu un il : Int) (w : World) :
    Calls Tryz.prog 103 #[.agg #[.int .i64 id, .int .i64 us1, .string mc, .int .i64 sip, .int .i64 be, .int .i64 la, .int .i64 ud, .int .i64 qu, .int .i64 un, .int .i64 il]] w fun e w' => e = .returned (.int .i64 us1) ∧ Below w.heap.size w w' := by
  go_enter Tryz.func103, Tryz.ntmps103
  go_wp2
  go_ret
  exact ⟨rfl, (Below.refl _ _).alloc (Nat.le_refl _) _⟩
set_option maxHeartbeats 1000000 in
theorem apart3_any (id us1 : Int) (mc : ByteArray) (sip be la ud qu un il : Int) (w : World) :
    Calls Tryz.prog 106 #[.agg #[.int .i64 id, .int .i64 us1, .string mc, .int .i64 sip, .int .i64 be, .int .i64 la, .int .i64 ud, .int .i64 qu, .int .i64 un, .int .i64 il]] w fun e w' => e = .returned (.int .i64 sip) ∧ Below w.heap.size w w' := by
  go_enter Tryz.func106, Tryz.ntmps106
  go_wp2
  go_ret
  exact ⟨rfl, (Below.refl _ _).alloc (Nat.le_refl _) _⟩
set_option maxHeartbeats 1000000 in
theorem apart2_any (id us1 : Int) (mc : ByteArray) (sip be la ud qu un il : Int) (w : World) (h6 : mc.size = 6) :
    Calls Tryz.prog 104 #[.agg #[.int .i64 id, .int .i64 us1, .string mc, .int .i64 sip, .int .i64 be, .int .i64 la, .int .i64 ud, .int .i64 qu, .int .i64 un, .int .i64 il]] w fun e w' => e = .returned (.int .i64 (numOf (bt mc) 6)) ∧ Below w.heap.size w w' := by
  obtain ⟨W0, hW0⟩ : ∃ W, W = w.alloc (.cells #[.int .i64 id, .int .i64 us1, .string mc, .int .i64 sip, .int .i64 be, .int .i64 la, .int .i64 ud, .int .i64 qu, .int .i64 un, .int .i64 il] 48) := ⟨_, rfl⟩
  have hsz : W0.heap.size = w.heap.size + 1 := by rw [hW0]; simp
  have bw : Below w.heap.size w W0 := by rw [hW0]; exact (Below.refl _ _).alloc (Nat.le_refl _) _
  obtain ⟨cap, w1, hcv, b1, z1, -, h5⟩ := conv_bytes (P := Tryz.prog) W0 9 22 5 mc Tryz.underlying9 Tryz.underlying22 Tryz.underlying5
  have e6 : numOf (bt mc) mc.size = numOf (bt mc) 6 := by rw [h6]
  have HN : Hid (Calls Tryz.prog 105 #[.slice (some ⟨W0.heap.size, 0, none⟩) mc.size cap] w1 fun e w' => e = .returned (.tuple #[.int .i64 (numOf (bt mc) 6), .int .i64 0]) ∧ w' = w1) := by
    rw [← e6]
    exact numberOf_yes _ mc.size cap (bt mc) w1 ⟨fun k => ⟨bt_nonneg mc k, bt_le mc k⟩, fun _ => ⟨_, 0, rfl, fun i hi => by rw [Nat.zero_add]; exact h5 i hi⟩⟩ (by omega) (by omega)
  have B1 : Hid (Below w.heap.size w w1) := bw.trans (b1.mono bw.size)
  rw [hsz] at hcv HN
  rw [hW0] at hcv
  clear b1 z1 h5 e6 h6 bw hsz hW0
  generalize numOf (bt mc) 6 = r at HN ⊢
  go_enter Tryz.func104, Tryz.ntmps104
  go_wp2_with fail
  refine HN.out.mono ?_
  rintro e w2 ⟨rfl, rfl⟩
  go_wp2
  go_ret
  exact ⟨rfl, B1.out⟩
/-- The three marks of a session: the function's number, and what it answers. -/
def mkN (i : Nat) : Nat := if i = 0 then 103 else if i = 1 then 104 else 106
def mkF (i : Nat) : SessV → Int := if i = 0 then (fun s => s.us) else if i = 1 then macN else fun s => s.ip
theorem mk_enter (i : Nat) : ∀ args w, (callFunc (mkN i) args).run Tryz.prog w = .ok (.enter (mkN i) args) w := by
  unfold mkN
  split
  · exact enters_of Tryz.func103 (by kernel_rfl) rfl
  split
  · exact enters_of Tryz.func104 (by kernel_rfl) rfl
  · exact enters_of Tryz.func106 (by kernel_rfl) rfl
theorem mk_any (i : Nat) (id us1 : Int) (mc : ByteArray) (sip be la ud qu un il : Int) (w : World) (h6 : mc.size = 6) :
    Calls Tryz.prog (mkN i) #[.agg #[.int .i64 id, .int .i64 us1, .string mc, .int .i64 sip, .int .i64 be, .int .i64 la, .int .i64 ud, .int .i64 qu, .int .i64 un, .int .i64 il]] w fun e w' => e = .returned (.int .i64 (mkF i ⟨id, us1, mc, sip, be, la, ud, qu, un, il⟩)) ∧ Below w.heap.size w w' := by
  unfold mkN mkF
  split
  · exact apart1_any id us1 mc sip be la ud qu un il w
  split
  · exact apart2_any id us1 mc sip be la ud qu un il w h6
  · exact apart3_any id us1 mc sip be la ud qu un il w
theorem keyI9 : Keyed Tryz.prog 3 := int_keyed Tryz.underlying3
theorem map_below {H : Type} {P : Program} {k : TypeId} {R : Value → Option (DataW H × List MemPlace)} {w w' : World} {b n m : Nat} {D : DataW H} (h : w.ownsMap P k R b n D) (hb : Below m w w') (hm : b < m) : w'.ownsMap P k R b n D := by
  obtain ⟨es, clock, h1, h2⟩ := h
  exact ⟨es, clock, (hb.block b hm).trans h1, h2⟩
theorem mk_wf (i : Nat) (s : SessV) (h : SeRok s) : (Lit.int .i64 (mkF i s)).wf = true := by
  unfold mkF
  split
  · exact h.2.1
  split
  · have := numOf_bd (bt s.mc) (fun k => ⟨bt_nonneg _ k, bt_le _ k⟩) 6
    unfold macN
    have hb : (0 : Int) ≤ numOf (bt s.mc) 6 ∧ numOf (bt s.mc) 6 ≤ 281474976710655 := by simpa using ⟨this.1, by omega⟩
    simp [Lit.wf, IntKind.min, IntKind.max, IntKind.bits, IntKind.signed]
    omega
  · exact h.2.2.2.1
/-- The marks and the map. -/
def ApW (w W : World) (n : Nat) (D : DataW Unit) : Prop := W.ownsMap Tryz.prog 3 unitElem (w.heap.size + 1) n D ∧ (∀ j, j < 3 → W.cell? ⟨w.heap.size, j, none⟩ = some (.func (.func (mkN j)) #[] #[])) ∧ Below w.heap.size w W
theorem ApW.keep {w W W' : World} {n : Nat} {D : DataW Unit} (h : ApW w W n D) (hb : Below W.heap.size W W') : ApW w W' n D :=
  ⟨map_below h.1 hb h.1.lt, fun j hj => bkeep hb (h.2.1 j hj), h.2.2.trans (hb.mono h.2.2.size)⟩
theorem ApW.turn {w W W' : World} {n n' : Nat} {D D' : DataW Unit} (h : ApW w W n D) (o : W'.ownsMap Tryz.prog 3 unitElem (w.heap.size + 1) n' D') (g : W.grownBy W' (some (w.heap.size + 1))) : ApW w W' n' D' := by
  refine ⟨o, fun j hj => ?_, h.2.2.grown g h.2.2.size (fun k hk => by injection hk with e; omega)⟩
  have hc := h.2.1 j hj
  have hlt : w.heap.size < W.heap.size := World.block_lt_of_cell? W _ hc
  rw [World.cell?_of_block (w := W) (g.block w.heap.size hlt (by intro e; injection e with e; omega))]
  exact hc
set_option maxHeartbeats 4000000 in
theorem sessionsApart_any (a : Option Addr) (len cap : Nat) (ss : List SessV) (w : World) (h : Rw SeR 10 w a ss) (hl : ss.length = len) (h3 : len ≤ 3) (h6 : ∀ s ∈ ss, s.mc.size = 6) :
    Calls Tryz.prog 92 #[.slice a len cap] w fun e w' => e = .returned (.bool (dstB (ss.map (mkF 0)) && (dstB (ss.map (mkF 1)) && dstB (ss.map (mkF 2))))) ∧ Below w.heap.size w w' := by
  have RW : Hid (Rw SeR 10 w a ss) := h
  have H6 : Hid (∀ s ∈ ss, s.mc.size = 6) := h6
  clear h h6
  have hmm := @run_makeMap Tryz.prog
  have h3z : (len : Int) ≤ 3 := by omega
  have hz0 : (zeroValue 146).run Tryz.prog w = .ok (.agg #[]) w := by kernel_rfl
  clear hz0
  obtain ⟨z, hz⟩ : ∃ z, z = (dstB (ss.map (mkF 0)) && (dstB (ss.map (mkF 1)) && dstB (ss.map (mkF 2)))) := ⟨_, rfl⟩
  have E : Hid (z = (dstB (ss.map (mkF 0)) && (dstB (ss.map (mkF 1)) && dstB (ss.map (mkF 2))))) := hz
  rw [← hz]
  clear hz
  have A0 : Hid (ApW w ((w.alloc (.cells #[.func (.func 103) #[] #[], .func (.func 104) #[] #[], .func (.func 106) #[] #[]] 141)).alloc (.map #[] 0)) 0 (.map [])) := by
    refine ⟨by have := World.ownsMap_made (H := Unit) (w.alloc (.cells #[.func (.func 103) #[] #[], .func (.func 104) #[] #[], .func (.func 106) #[] #[]] 141)) Tryz.prog 3 unitElem; simpa using this, fun j hj => ?_, ((Below.refl _ _).alloc (Nat.le_refl _) _).alloc (by simp) _⟩
    have : j = 0 ∨ j = 1 ∨ j = 2 := by omega
    rcases this with rfl | rfl | rfl <;> simp [go_sem, mkN]
  go_enter Tryz.func92, Tryz.ntmps92
  go_wp2
  go_loopw [13] (fun u wr => ∃ i : Nat, i ≤ 3 ∧ u = .int .i64 i ∧ Hid (∀ j, j < i → dstB (ss.map (mkF j)) = true) ∧ Hid (∃ n D, ApW w wr n D)) (fun u _ => 3 - (intOf u).toNat)
  case atStart => exact ⟨0, Nat.zero_le _, rfl, fun j hj => absurd hj (by omega), _, _, A0.out⟩
  case round =>
    clear A0
    obtain ⟨i, hi, rfl, HO, X⟩ := hrel
    by_cases hi3 : i < 3
    · obtain ⟨n0, D0, X0⟩ := X.out
      obtain ⟨w4, hclr, o4, g4⟩ := own_clear X0.1 Tryz.underlying145 0
      have mi := X0.2.1 i hi3
      have X4 : Hid (ApW w w4 0 (setI ((ss.take 0).map (mkF i)))) := X0.turn o4 g4
      have hiz : (i : Int) < 3 := by omega
      obtain ⟨g, hg⟩ : ∃ g, g = mkN i := ⟨_, rfl⟩
      have eg : ∀ args w, (callFunc g args).run Tryz.prog w = .ok (.enter g args) w := by rw [hg]; exact mk_enter i
      have HM : Hid (∀ (id us1 : Int) (mc : ByteArray) (sip be la ud qu un il : Int) (w : World), mc.size = 6 → Calls Tryz.prog g #[.agg #[.int .i64 id, .int .i64 us1, .string mc, .int .i64 sip, .int .i64 be, .int .i64 la, .int .i64 ud, .int .i64 qu, .int .i64 un, .int .i64 il]] w fun e w' => e = .returned (.int .i64 (mkF i ⟨id, us1, mc, sip, be, la, ud, qu, un, il⟩)) ∧ Below w.heap.size w w') := by rw [hg]; exact mk_any i
      rw [← hg] at mi
      clear X X0 o4 g4 hg
      go_wp2
      go_loopw [20] (fun u wr => ∃ k : Nat, k ≤ len ∧ u = .int .i64 k ∧ Hid (ApW w wr k (setI ((ss.take k).map (mkF i))))) (fun u _ => len - (intOf u).toNat)
      case atStart => exact ⟨0, Nat.zero_le _, rfl, X4.out⟩
      case round =>
        clear X4
        obtain ⟨k, hk, rfl, X⟩ := hrel
        by_cases hlt : k < len
        · obtain ⟨x9, hx⟩ := at_of hl hlt
          obtain ⟨bk, off, vs, rfl, hbk, hvl, hR, hc⟩ := RW.out.at SeR.kp X.out.2.2 hx
          have hs6 := H6.out x9 (List.mem_of_getElem? hx)
          obtain ⟨id, us1, mc, sip, be, la, ud, qu, un, il⟩ := x9
          obtain ⟨rfl, hok⟩ := hR
          have q0 : wr.cell? ⟨bk, off + k * 10, none⟩ = some (.int .i64 id) := hc 0 _ rfl
          have q1 : wr.cell? ⟨bk, off + k * 10 + 1, none⟩ = some (.int .i64 us1) := hc 1 _ rfl
          have q2 : wr.cell? ⟨bk, off + k * 10 + 2, none⟩ = some (.string mc) := hc 2 _ rfl
          have q3 : wr.cell? ⟨bk, off + k * 10 + 3, none⟩ = some (.int .i64 sip) := hc 3 _ rfl
          have q4 : wr.cell? ⟨bk, off + k * 10 + 4, none⟩ = some (.int .i64 be) := hc 4 _ rfl
          have q5 : wr.cell? ⟨bk, off + k * 10 + 5, none⟩ = some (.int .i64 la) := hc 5 _ rfl
          have q6 : wr.cell? ⟨bk, off + k * 10 + 6, none⟩ = some (.int .i64 ud) := hc 6 _ rfl
          have q7 : wr.cell? ⟨bk, off + k * 10 + 7, none⟩ = some (.int .i64 qu) := hc 7 _ rfl
          have q8 : wr.cell? ⟨bk, off + k * 10 + 8, none⟩ = some (.int .i64 un) := hc 8 _ rfl
          have q9 : wr.cell? ⟨bk, off + k * 10 + 9, none⟩ = some (.int .i64 il) := hc 9 _ rfl
          have hltz : (k : Int) < (len : Int) := by omega
          have X5 : Hid (ApW w (wr.alloc (.cells #[.int .i64 id, .int .i64 us1, .string mc, .int .i64 sip, .int .i64 be, .int .i64 la, .int .i64 ud, .int .i64 qu, .int .i64 un, .int .i64 il] 48)) k (setI ((ss.take k).map (mkF i)))) := X.out.keep ((Below.refl _ _).alloc (Nat.le_refl _) _)
          have hwf := mk_wf i ⟨id, us1, mc, sip, be, la, ud, qu, un, il⟩ hok
          have HT : Hid (∀ D : DataW Unit, D = setI ((ss.take k).map (mkF i)) → D.put (.int .i64 (mkF i ⟨id, us1, mc, sip, be, la, ud, qu, un, il⟩)) (.agg []) = setI ((ss.take (k + 1)).map (mkF i))) := fun D hD => by
            rw [hD, ← setI_snoc, List.take_add_one, hx]
            simp
          have HM1 : Hid (∀ w, Calls Tryz.prog g #[.agg #[.int .i64 id, .int .i64 us1, .string mc, .int .i64 sip, .int .i64 be, .int .i64 la, .int .i64 ud, .int .i64 qu, .int .i64 un, .int .i64 il]] w fun e w' => e = .returned (.int .i64 (mkF i ⟨id, us1, mc, sip, be, la, ud, qu, un, il⟩)) ∧ Below w.heap.size w w') := fun w => HM.out id us1 mc sip be la ud qu un il w hs6
          generalize mkF i ⟨id, us1, mc, sip, be, la, ud, qu, un, il⟩ = r at HT HM1 hwf
          clear hc hvl hx hok hs6 X
          go_wp2_with (go_at_fn g; refine (HM1.out _).mono ?_; rintro e w6 ⟨rfl, b6⟩; have X6 := X5.out.keep b6; obtain ⟨w7, hupd, o7, g7⟩ := X6.1.update keyI9 Tryz.underlying145 (by unfold maxLen; omega) (key := .int .i64 r) (val := .agg #[]) (keyOf_int_mk Tryz.underlying3 hwf) (unitElem_mk (H := Unit)); have X7 : Hid (ApW w w7 (k + 1) (setI ((ss.take (k + 1)).map (mkF i)))) := HT.out _ rfl ▸ X6.turn o7 g7; clear X6 o7 g7 b6)
          go_roundw
          case rel => exact ⟨k + 1, by omega, by go_num, X7⟩
          case measure => simp [intOf]; omega
        · obtain rfl : len = k := by omega
          have hlen := fun ty => X.out.1.len Tryz.underlying145 ty
          have hsl := setI_lt (H := Unit) ((ss.take len).map (mkF i))
          rw [List.take_of_length_le (by omega)] at hlen hsl
          have hsl2 : decide ((Maps.size (setI (H := Unit) (ss.map (mkF i))) : Int) < (len : Int)) = !dstB (ss.map (mkF i)) := by
            rw [← hsl]
            simp [hl]
          generalize Maps.size (setI (H := Unit) (ss.map (mkF i))) = n9 at hlen hsl2
          have HX : Hid (ApW w wr len (setI ((ss.take len).map (mkF i)))) := X.out
          clear hsl X
          cases hd : dstB (ss.map (mkF i)) with
          | false =>
            rw [hd] at hsl2
            have hsl3 : decide (n9 < len) = true := by have := of_decide_eq_true hsl2; exact decide_eq_true (by omega)
            have hv : Hid (z = false) := by
              show z = false
              rw [E.out]
              have : i = 0 ∨ i = 1 ∨ i = 2 := by omega
              rcases this with rfl | rfl | rfl <;> simp [hd]
            clear hd
            go_wp2
            go_ret
            exact ⟨by rw [hv.out]; rfl, HX.out.2.2⟩
          | true =>
            rw [hd] at hsl2
            have hsl3 : decide (n9 < len) = false := by have := of_decide_eq_false hsl2; exact decide_eq_false (by omega)
            have HO' : Hid (∀ j, j < i + 1 → dstB (ss.map (mkF j)) = true) := fun j hj => by
              by_cases hji : j < i
              · exact HO.out j hji
              · obtain rfl : j = i := by omega
                exact hd
            clear hd
            go_wp2
            exact ⟨⟨i + 1, by omega, by go_num, HO', _, _, HX.out⟩, by simp [intOf]; omega⟩
    · obtain rfl : i = 3 := by omega
      have hv : Hid (z = true) := by
        show z = true
        rw [E.out, HO.out 0 (by omega), HO.out 1 (by omega), HO.out 2 (by omega)]
        rfl
      go_wp2
      go_ret
      obtain ⟨n0, D0, X0⟩ := X.out
      exact ⟨by rw [hv.out]; rfl, X0.2.2⟩
end Go.Proofs.YtnlepjcjakghcaaGreatDoor
