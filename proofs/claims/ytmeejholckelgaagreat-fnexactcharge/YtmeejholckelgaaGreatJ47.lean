/- What both sides ask of guests with a time, in packed words. Results whose first part is a struct in a box. Nothing of the program is used. EndSession of the model, packed. A session charged, as pure words. Elements of a row of one's own, stored into by an operation: one cell, or the whole element. Nothing of the program is used. l08Charge of the model, packed. Charge of the model, packed. sessionPlace of the program. EndSession of the program, packed. Charge of the program, packed. The walk of laws.FnExactCharge. -/
import Derived.Test.YtmeejholckelgaaGreatJ45
import Derived.Test.YtmeejholckelgaaGreatJ41
import Derived.Test.YtmeejholckelgaaGreatGokS
import Derived.Test.YtmeejholckelgaaGreatJ46
import Derived.Test.YtmeejholckelgaaGreatJ31
import Derived.Test.YtmeejholckelgaaGreatJ43
import Derived.Test.YtmeejholckelgaaGreatJ42
namespace Go.Proofs.YtmeejholckelgaaGreat
open Go.RowKit Go.PlainAid Go.Proofs.YtmeejholckelgaaGreat.Bt Go.Sort
set_option linter.unusedVariables false
set_option maxRecDepth 20000

theorem szu_of {us : List UserV} {n : Int} (h : szL wtUser us ≤ n) (hn : n ≤ 1048576) : SzU us := by
  intro u hu
  have := szL_mem wtUser_nn us u hu
  have e : wtUser u = (u.nm.size : Int) + u.sa.size + u.ha.size + u.ro.size := rfl
  rw [e] at this
  omega
theorem spec_ask (C : CfA) (c : CfV) (A : HuA) (h : HuV) (now : Int) (w : World) (rc : CfR w C c) (rh : HuR w A h) (sc : CfSz c) (sh : HuSz h) :
    Calls Tryz.prog 30 #[.agg #[.int .i64 c.ip, .int .i64 c.b, .int .i64 c.gt, .string c.gm, .string c.wm, .int .i64 c.rs, .slice C.x c.ps.length C.xc, .slice C.y c.ros.length C.yc], .agg #[.slice A.u h.us.length A.uc, .slice A.s h.ss.length A.sc, .slice A.f h.fs.length A.fc, .slice A.r h.es.length A.rc, .int .i64 h.nx], .int .i64 now] w fun e w' => e = .returned (.int .i64 (fauC (okG c h) now)) ∧ Below w.heap.size w w' := by
  refine l08Ask_any c.ip c.b c.gt c.gm c.wm c.rs C.x C.y c.ps.length C.xc c.ros.length C.yc A.u A.s A.f A.r h.us.length A.uc h.ss.length A.sc h.fs.length A.fc h.es.length A.rc h.nx now (okG c h) w (fun wx hb => ?_)
  have rc' := rc.below hb; have rh' := rh.below hb
  exact (specGuests_any _ _ _ _ _ _ _ _ _ _ _ _ c.ps c.ros _ _ _ _ _ _ _ _ _ _ _ _ h.us h.ss h.fs h.es h.nx wx rc'.ps rfl rc'.ros rfl sc.szr sc.ros rh'.us rfl rh'.ss rfl rh'.fs rfl rh'.es rfl (szu_of sh.szu (Int.le_refl _)) sh.us).mono fun e w' h => ⟨h.1, h.2.below⟩
theorem impl_fault (C : CfA) (c : CfV) (A : HuA) (h : HuV) (now : Int) (w : World) (rc : CfR w C c) (rh : HuR w A h) (sc : CfSz c) (sh : HuSz h) :
    Calls Tryz.prog 42 #[.agg #[.int .i64 c.ip, .int .i64 c.b, .int .i64 c.gt, .string c.gm, .string c.wm, .int .i64 c.rs, .slice C.x c.ps.length C.xc, .slice C.y c.ros.length C.yc], .agg #[.slice A.u h.us.length A.uc, .slice A.s h.ss.length A.sc, .slice A.f h.fs.length A.fc, .slice A.r h.es.length A.rc, .int .i64 h.nx], .int .i64 now] w fun e w' => e = .returned (.int .i64 (fauC (okG c h) now)) ∧ Below w.heap.size w w' := by
  refine guestsFault_any c.ip c.b c.gt c.gm c.wm c.rs C.x C.y c.ps.length C.xc c.ros.length C.yc A.u A.s A.f A.r h.us.length A.uc h.ss.length A.sc h.fs.length A.fc h.es.length A.rc h.nx now (okG c h) w (fun wx hb => ?_)
  have rc' := rc.below hb; have rh' := rh.below hb
  exact implGuests_any _ _ _ _ _ _ _ _ _ _ _ _ c.ps c.ros _ _ _ _ _ _ _ _ _ _ _ _ h.us h.ss h.fs h.es h.nx wx rc'.ps rfl rc'.ros rfl sc.szr sc.ros rh'.us rfl rh'.ss rfl rh'.fs rfl rh'.es rfl (szu_of sh.szu (Int.le_refl _)) sh.us
theorem hu_of4 {w : World} {B : Nat} {vu vs vf vr : Value} {h : HuV} (o : Own4 w B vu vs vf vr h.us h.ss h.fs h.es) : ∃ R : HuA, vu = .slice R.u h.us.length R.uc ∧ vs = .slice R.s h.ss.length R.sc ∧ vf = .slice R.f h.fs.length R.fc ∧ vr = .slice R.r h.es.length R.rc ∧ OwnHu w B R h := by
  obtain ⟨a1, c1, rfl, -⟩ := o.u.slice
  obtain ⟨a2, c2, rfl, -⟩ := o.s.slice
  obtain ⟨a3, c3, rfl, -⟩ := o.f.slice
  obtain ⟨a4, c4, rfl, -⟩ := o.r.slice
  exact ⟨⟨a1, a2, a3, a4, c1, c2, c3, c4⟩, rfl, rfl, rfl, rfl, o⟩
theorem spec_own (A : HuA) (h : HuV) (w : World) (o : HuS w A h) :
    Calls Tryz.prog 33 #[.agg #[.slice A.u h.us.length A.uc, .slice A.s h.ss.length A.sc, .slice A.f h.fs.length A.fc, .slice A.r h.es.length A.rc, .int .i64 h.nx]] w fun e w' => ∃ R : HuA, e = .returned (.agg #[.slice R.u h.us.length R.uc, .slice R.s h.ss.length R.sc, .slice R.f h.fs.length R.fc, .slice R.r h.es.length R.rc, .int .i64 h.nx]) ∧ OwnHu w' w.heap.size R h ∧ Below w.heap.size w w' := by
  refine (l08Own_any A.u A.s A.f A.r h.us.length A.uc h.ss.length A.sc h.fs.length A.fc h.es.length A.rc h.us h.ss h.fs h.es h.nx w o.us o.ss o.fs o.es).mono ?_
  rintro e w' ⟨vu, vs, vf, vr, h1, h2, h3⟩
  obtain ⟨R, rfl, rfl, rfl, rfl, h4⟩ := hu_of4 h2
  exact ⟨R, h1, h4, h3⟩
theorem impl_copy (A : HuA) (h : HuV) (w : World) (o : HuS w A h) :
    Calls Tryz.prog 45 #[.agg #[.slice A.u h.us.length A.uc, .slice A.s h.ss.length A.sc, .slice A.f h.fs.length A.fc, .slice A.r h.es.length A.rc, .int .i64 h.nx]] w fun e w' => ∃ R : HuA, e = .returned (.agg #[.slice R.u h.us.length R.uc, .slice R.s h.ss.length R.sc, .slice R.f h.fs.length R.fc, .slice R.r h.es.length R.rc, .int .i64 h.nx]) ∧ OwnHu w' w.heap.size R h ∧ Below w.heap.size w w' := by
  refine (copyGuests_any A.u A.s A.f A.r h.us.length A.uc h.ss.length A.sc h.fs.length A.fc h.es.length A.rc h.us h.ss h.fs h.es h.nx w o.us o.ss o.fs o.es).mono ?_
  rintro e w' ⟨vu, vs, vf, vr, h1, h2, h3⟩
  obtain ⟨R, rfl, rfl, rfl, rfl, h4⟩ := hu_of4 h2
  exact ⟨R, h1, h4, h3⟩
theorem enA_ln {now ca : Int} {h : HuV} (k : Nat) (o : HuLn h) : HuLn (enA now ca h k) := by
  unfold enA
  cases hx : h.ss[k]? with
  | none => exact o
  | some x =>
    refine ⟨o.us, ?_, o.fs, ?_⟩
    · show (h.ss.take k ++ h.ss.drop (k + 1)).length ≤ _
      have := o.ss
      simp
      omega
    · have := enR_len now ca h.es x
      have h2 := o.es
      show (enR now ca h.es x).length ≤ _
      omega
theorem HuSz.hl {h : HuV} (o : HuSz h) : HuL h := ⟨o.us, o.ss, o.fs, o.es⟩
end Go.Proofs.YtmeejholckelgaaGreat

namespace Go.Proofs.YtmeejholckelgaaGreat
open Go.RowKit Go.PlainAid Go.Sort
set_option linter.unusedVariables false
theorem results_cell2 {P : Program} {fn : Func} {tmps : Array Value} {w : World} {a b : Tmp} {t : TypeId} (hr : fn.results = #[.cell a t, .tmp b]) (q : Nat) (hp : tmps.getD a undef = .pointer (some ⟨q, 0, none⟩)) {v : Value} (hv : tmps.getD b undef = v) {cs : List Value} (hb : Bx w q cs)
    (d : TypeDesc) (hu : P.underlying t = some d) (hd : d.isRow = true) (hi : (P.info? t).map (·.size) = some cs.length) : (results fn tmps).run P w = .ok (.tuple #[.agg cs.toArray, v]) w := by
  have h := run_loadVar_mid w q 0 t cs d hb.cl hu hd hi
  unfold results
  rw [hr]
  have hp' : tmps[a]?.getD undef = .pointer (some ⟨q, 0, none⟩) := by rw [← Array.getD_eq_getD_getElem?]; exact hp
  have hv' : tmps[b]?.getD undef = v := by rw [← Array.getD_eq_getD_getElem?]; exact hv
  simp [hp', hv', asAddr, h]
end Go.Proofs.YtmeejholckelgaaGreat

namespace Go.Proofs.YtmeejholckelgaaGreat
open Go.RowKit Go.PlainAid Go.Proofs.YtmeejholckelgaaGreat.Bt Go.Sort
set_option linter.unusedVariables false
set_option maxRecDepth 20000

theorem fau_zero {z : Bool} {now : Int} (h : fauC z now = 0) : z = true ∧ 0 ≤ now ∧ now ≤ 100000 := by
  unfold fauC fau2 at h
  cases z with
  | false => simp at h
  | true =>
    by_cases hd : 0 ≤ now ∧ now ≤ 100000
    · exact ⟨rfl, hd⟩
    · rw [dec_n hd] at h; simp at h
end Go.Proofs.YtmeejholckelgaaGreat

namespace Go.Proofs.YtmeejholckelgaaGreat
open Go.RowKit Go.PlainAid Go.Proofs.YtmeejholckelgaaGreat.Bt Go.Sort
set_option linter.unusedVariables false
set_option maxRecDepth 20000

/-- The code of what is asked ahead. -/
noncomputable def chF (z : Bool) (now n : Int) : Int := if fauC z now = 0 then (if dec (0 ≤ n ∧ n ≤ 1000000) = true then 0 else 4) else fauC z now
/-- What is charged is more than what is left. -/
def chB (n : Int) (x : SessV) (u : UserV) : Bool := decide (x.qu - x.ud < n) || decide (u.bl < n)
def chS (now n : Int) (x : SessV) : SessV := { x with la := max now x.la, ud := x.ud + n }
def chV (n : Int) (u : UserV) : UserV := { u with bl := u.bl - n }
def chG (now n : Int) (h : HuV) (k : Nat) (x : SessV) (u : UserV) : HuV := { h with us := h.us.set x.us.toNat (chV n u), ss := h.ss.set k (chS now n x) }
def chX (now n : Int) (h : HuV) (k : Nat) (x : SessV) (u : UserV) : HuV := if chB n x u = true then enG now 4 h (h.ss.take k) (h.ss.drop (k + 1)) x else chG now n h k x u
def chY (n : Int) (x : SessV) (u : UserV) : Int := if chB n x u = true then 15 else 0
def chA (now n : Int) (h : HuV) (k : Nat) : HuV := match h.ss[k]? with
  | some x => (match h.us[x.us.toNat]? with | some u => chX now n h k x u | none => h)
  | none => h
def chK (n : Int) (h : HuV) (k : Nat) : Int := match h.ss[k]? with
  | some x => (match h.us[x.us.toNat]? with | some u => chY n x u | none => 0)
  | none => 0
theorem chA_at {now n : Int} {h : HuV} {k : Nat} {x : SessV} {u : UserV} (hx : h.ss[k]? = some x) (hu : h.us[x.us.toNat]? = some u) : chA now n h k = chX now n h k x u ∧ chK n h k = chY n x u := by
  unfold chA chK
  rw [hx]
  dsimp only
  rw [hu]
  exact ⟨rfl, rfl⟩
noncomputable def chC (c : CfV) (h : HuV) (q n now : Int) : Int := if chF (okG c h) now n = 0 then (if ixI (siP q) h.ss < 0 then 5 else chK n h (ixI (siP q) h.ss).toNat) else chF (okG c h) now n
noncomputable def chU (c : CfV) (h : HuV) (q n now : Int) : HuV := if chF (okG c h) now n = 0 then (if ixI (siP q) h.ss < 0 then h else chA now n h (ixI (siP q) h.ss).toNat) else zeroHu
theorem chF_zero {z : Bool} {now n : Int} (h : chF z now n = 0) : z = true ∧ (0 ≤ now ∧ now ≤ 100000) ∧ (0 ≤ n ∧ n ≤ 1000000) := by
  unfold chF at h
  split at h
  · rename_i h1
    obtain ⟨h2, h3, h4⟩ := fau_zero h1
    split at h
    · rename_i h5
      exact ⟨h2, ⟨h3, h4⟩, of_decide_eq_true h5⟩
    · simp at h
  · rename_i h1
    exact absurd h h1
/-- What right guests say of a session and of whose it is. -/
theorem okG_ch {c : CfV} {h : HuV} {k : Nat} {x : SessV} (hk : okG c h = true) (hx : h.ss[k]? = some x) : ∃ u, h.us[x.us.toNat]? = some u ∧ (0 ≤ x.us ∧ x.us.toNat < h.us.length) ∧ (0 ≤ x.la ∧ x.la ≤ 100000) ∧ (1 ≤ x.qu ∧ x.qu ≤ 1000000) ∧ (0 ≤ x.ud ∧ x.ud ≤ x.qu) ∧ (0 ≤ u.bl ∧ u.bl ≤ 1000000) := by
  unfold okG gokB at hk
  simp only [Bool.and_eq_true] at hk
  have h1 := (seB_iff.1 hk.2.2.2.1.2).1 k x hx
  unfold sB at h1
  simp only [Bool.and_eq_true] at h1
  have hu := of_decide_eq_true h1.2.1
  have hb := of_decide_eq_true h1.2.2.2.2.2.1
  have hl := of_decide_eq_true h1.2.2.2.2.2.2.1
  have hq := of_decide_eq_true h1.2.2.2.2.2.2.2.1
  have hd := of_decide_eq_true h1.2.2.2.2.2.2.2.2.1
  have hlt : x.us.toNat < h.us.length := by omega
  refine ⟨h.us[x.us.toNat], List.getElem?_eq_getElem hlt, ⟨hu.1, hlt⟩, ⟨by omega, hl.2⟩, hq, hd, ?_⟩
  have h2 := hk.2.2.1
  unfold usB at h2
  simp only [Bool.and_eq_true] at h2
  have h3 := (risB_iff.1 h2.2).1 _ _ (List.getElem?_eq_getElem hlt)
  unfold uB at h3
  simp only [Bool.and_eq_true] at h3
  exact of_decide_eq_true h3.2.2.2.2.1
theorem chB_no {n : Int} {x : SessV} {u : UserV} (h : ¬ chB n x u = true) : n ≤ x.qu - x.ud ∧ n ≤ u.bl := by
  unfold chB at h
  simp only [Bool.or_eq_true, decide_eq_true_eq, not_or] at h
  omega
theorem chG_ok {now n : Int} {h : HuV} {k : Nat} {x : SessV} {u : UserV} (o : HuOk h) (hx : h.ss[k]? = some x) (hu : h.us[x.us.toNat]? = some u) (hn : 0 ≤ now ∧ now ≤ 100000) (h0 : 0 ≤ n) (h1 : 0 ≤ x.la ∧ x.la ≤ 100000) (h2 : 1 ≤ x.qu ∧ x.qu ≤ 1000000) (h3 : 0 ≤ x.ud ∧ x.ud ≤ x.qu) (h4 : 0 ≤ u.bl ∧ u.bl ≤ 1000000) (h5 : n ≤ x.qu - x.ud ∧ n ≤ u.bl) : HuOk (chG now n h k x u) := by
  refine ⟨fun z hz => ?_, fun z hz => ?_, o.fs, o.es⟩
  · rcases List.mem_or_eq_of_mem_set hz with h6 | rfl
    · exact o.us z h6
    · have hb := o.us u (List.mem_of_getElem? hu)
      exact ⟨hb.1, hb.2.1, hb.2.2.1, hb.2.2.2.1, int_wf9 (n := u.bl - n) (by omega) (Int.le_trans (show u.bl - n ≤ 1000000 by omega) (by decide)), hb.2.2.2.2.2⟩
  · rcases List.mem_or_eq_of_mem_set hz with h6 | rfl
    · exact o.ss z h6
    · have hb := o.ss x (List.mem_of_getElem? hx)
      exact ⟨hb.1, hb.2.1, hb.2.2.1, hb.2.2.2.1, hb.2.2.2.2.1, int_wf9 (n := max now x.la) (by omega) (Int.le_trans (show max now x.la ≤ 100000 by omega) (by decide)), int_wf9 (n := x.ud + n) (by omega) (Int.le_trans (show x.ud + n ≤ 1000000 by omega) (by decide)), hb.2.2.2.2.2.2.2⟩
theorem chX_ok {now n : Int} {h : HuV} {k : Nat} {x : SessV} {u : UserV} (o : HuOk h) (hx : h.ss[k]? = some x) (hu : h.us[x.us.toNat]? = some u) (hn : 0 ≤ now ∧ now ≤ 100000) (h0 : 0 ≤ n) (h1 : 0 ≤ x.la ∧ x.la ≤ 100000) (h2 : 1 ≤ x.qu ∧ x.qu ≤ 1000000) (h3 : 0 ≤ x.ud ∧ x.ud ≤ x.qu) (h4 : 0 ≤ u.bl ∧ u.bl ≤ 1000000) : HuOk (chX now n h k x u) := by
  unfold chX
  split
  · rw [← enA_at hx]
    exact enA_ok k o hn ⟨by omega, by omega⟩
  · rename_i h5
    exact chG_ok o hx hu hn h0 h1 h2 h3 h4 (chB_no h5)
theorem chX_ln {now n : Int} {h : HuV} {k : Nat} {x : SessV} {u : UserV} (o : HuLn h) (hx : h.ss[k]? = some x) : HuLn (chX now n h k x u) := by
  unfold chX
  split
  · rw [← enA_at hx]
    exact enA_ln k o
  · refine ⟨?_, ?_, o.fs, o.es⟩
    · show (h.us.set _ _).length ≤ _
      rw [List.length_set]
      exact o.us
    · show (h.ss.set _ _).length ≤ _
      rw [List.length_set]
      exact o.ss
theorem chU_ok {c : CfV} {h : HuV} {q n now : Int} (o : HuOk h) : HuOk (chU c h q n now) := by
  unfold chU
  split
  · rename_i h1
    obtain ⟨hk, h2, h3⟩ := chF_zero h1
    split
    · exact o
    · rename_i h4
      obtain ⟨k, x, hkk, hx, -, -⟩ := ixI_split h4
      obtain ⟨u, hu, -, h5, h6, h7, h8⟩ := okG_ch hk hx
      rw [hkk, show ((k : Int)).toNat = k by simp, (chA_at hx hu).1]
      exact chX_ok o hx hu h2 h3.1 h5 h6 h7 h8
  · exact zeroHu_ok
theorem chU_ln {c : CfV} {h : HuV} {q n now : Int} (o : HuLn h) : HuLn (chU c h q n now) := by
  unfold chU
  split
  · rename_i h1
    obtain ⟨hk, h2, h3⟩ := chF_zero h1
    split
    · exact o
    · rename_i h4
      obtain ⟨k, x, hkk, hx, -, -⟩ := ixI_split h4
      obtain ⟨u, hu, -⟩ := okG_ch hk hx
      rw [hkk, show ((k : Int)).toNat = k by simp, (chA_at hx hu).1]
      exact chX_ln o hx
  · exact ⟨Nat.zero_le _, Nat.zero_le _, Nat.zero_le _, Nat.zero_le _⟩
end Go.Proofs.YtmeejholckelgaaGreat

namespace Go.Proofs.YtmeejholckelgaaGreat
open Go.RowKit Go.PlainAid Go.Sort
set_option linter.unusedVariables false
set_option maxRecDepth 20000
theorem wsets_cells {g : Nat} : ∀ (vs : List Value) (i : Nat) (w : World), wsets w g i vs = w.setCells g i vs
  | [], _, _ => rfl
  | v :: r, i, w => by
    rw [World.setCells]
    exact wsets_cells r (i + 1) _
section RowP
variable {α : Type} {c : α → List Value} {K : Nat} {e : TypeId} {w : World} {B g n cap : Nat} {xs : List α}
theorem OwnS.there1 (h : OwnS c K e w B (.slice (some ⟨g, 0, none⟩) n cap) xs) (hK : ∀ x, (c x).length = K) {i : Nat} {x : α} (hx : xs[i]? = some x) (j : Nat) (hj : j < K) : w.there g (i * K + j) 1 := by
  intro m hm
  obtain rfl : m = 0 := by omega
  have hv : (c x)[j]? = some ((c x)[j]'(by rw [hK]; exact hj)) := List.getElem?_eq_getElem _
  obtain ⟨h1, h2⟩ := h.cell hK hx hv
  exact ⟨by rw [Nat.add_zero, h1]; rfl, h2⟩
theorem OwnS.thereE (h : OwnS c K e w B (.slice (some ⟨g, 0, none⟩) n cap) xs) (hK : ∀ x, (c x).length = K) {i : Nat} {x : α} (hx : xs[i]? = some x) : w.there g (i * K) K := by
  intro m hm
  have := h.there1 hK hx m hm 0 (by omega)
  rw [Nat.add_zero] at this
  exact this
theorem OwnS.putE (h : OwnS c K e w B (.slice (some ⟨g, 0, none⟩) n cap) xs) (hK : ∀ x, (c x).length = K) {i : Nat} (hi : i < n) (y : α) :
    OwnS c K e (w.setCells g (i * K) (c y)) B (.slice (some ⟨g, 0, none⟩) n cap) (xs.set i y) ∧ w.grownBy (w.setCells g (i * K) (c y)) (some g) := by
  have := h.store hK hi y
  rw [wsets_cells] at this
  exact this
end RowP
/-- One cell stored, where there is one. -/
theorem wpl_putC {P : Program} {ops : Array Oper} {rest : List Oper} {op : Oper} {a : Act} {w : World} {Q : Exit → Act → World → Prop} (t : TypeId) (hgd : op.guard = none) (x y : Operand) (ho : op.op = .store t x y)
    (q o : Nat) (v : Value) (hx : a.eval x = .pointer (some ⟨q, o, none⟩)) (hy : a.eval y = v) (h0 : w.there q o 1) (hi : (P.info? t).map (·.size) = some 1) (h1 : v.oneCell' = true)
    (h : ∀ w', w' = w.setCell ⟨q, o, none⟩ v → wpList P ops Q rest (a.put op.dst undef) w') : wpList P ops Q (op :: rest) a w :=
  wpList_plain hgd fun _ hK => by
    unfold Oper.wp execOp
    simp only [ho, hx, hy, Instr.storeAt, Instr.sureAddr, Sem.run_bind, Sem.run_pure, Result.andThen_ok, run_storeVar_at w q o t v h0 hi h1]
    exact hK _ _ (h _ rfl)
/-- A whole element stored, where there is one. -/
theorem wpl_putE {P : Program} {ops : Array Oper} {rest : List Oper} {op : Oper} {a : Act} {w : World} {Q : Exit → Act → World → Prop} (t : TypeId) (hgd : op.guard = none) (x y : Operand) (ho : op.op = .store t x y)
    (q o : Nat) (cells : Array Value) (hx : a.eval x = .pointer (some ⟨q, o, none⟩)) (hy : a.eval y = .agg cells) (h0 : w.there q o cells.size) (hi : (P.info? t).map (·.size) = some cells.size) (h1 : cells.toList.all (·.oneCell') = true)
    (h : ∀ w', w' = w.setCells q o cells.toList → wpList P ops Q rest (a.put op.dst undef) w') : wpList P ops Q (op :: rest) a w :=
  wpList_store_mid hgd t x y ho q o cells hx hy h0 hi (by rw [← Array.all_toList]; exact h1) (h _ rfl)
end Go.Proofs.YtmeejholckelgaaGreat

namespace Go.Proofs.YtmeejholckelgaaGreat
open Go.RowKit Go.PlainAid Go.Proofs.YtmeejholckelgaaGreat.Bt Go.Sort
set_option linter.unusedVariables false
set_option maxRecDepth 20000
theorem la_max (a b : Int) : True := trivial
section
variable {w w' : World} {B g n cap : Nat} {vu vs vf vr : Value} {us us' : List UserV} {ss ss' : List SessV} {fs : List FailV} {rs : List RecV}
theorem ap_ne {v v' : Value} {g : Nat} (h : Ap v v') (h' : v'.ownBlock = some g) : v.ownBlock = none ∨ v.ownBlock ≠ some g := .inr (fun e => h g e h')
theorem Own4.setS (h : Own4 w B vu (.slice (some ⟨g, 0, none⟩) n cap) vf vr us ss fs rs) (o : OwnS svG 10 84 w' B (.slice (some ⟨g, 0, none⟩) n cap) ss') (hg : w.grownBy w' (some g)) : Own4 w' B vu (.slice (some ⟨g, 0, none⟩) n cap) vf vr us ss' fs rs :=
  ⟨h.u.kept hg (ap_ne h.us_ rfl), o, h.f.kept hg (ap_ne h.sf.symm rfl), h.r.kept hg (ap_ne h.sr.symm rfl), h.us_, h.uf, h.ur, h.sf, h.sr, h.fr⟩
theorem Own4.setU (h : Own4 w B (.slice (some ⟨g, 0, none⟩) n cap) vs vf vr us ss fs rs) (o : OwnS uvG 6 86 w' B (.slice (some ⟨g, 0, none⟩) n cap) us') (hg : w.grownBy w' (some g)) : Own4 w' B (.slice (some ⟨g, 0, none⟩) n cap) vs vf vr us' ss fs rs :=
  ⟨o, h.s.kept hg (ap_ne h.us_.symm rfl), h.f.kept hg (ap_ne h.uf.symm rfl), h.r.kept hg (ap_ne h.ur.symm rfl), h.us_, h.uf, h.ur, h.sf, h.sr, h.fr⟩
end
set_option maxHeartbeats 4000000 in
theorem l08Charge_any (A : HuA) (h : HuV) (k : Nat) (id : Int) (m : Nat) (mc : ByteArray) (ip be la ud qu un il : Int) (nm sa ha ro : ByteArray) (bl lg : Int) (n now : Int) (w : World) (hs : HuS w A h) (ho : HuOk h) (hx : h.ss[k]? = some ⟨id, (m : Int), mc, ip, be, la, ud, qu, un, il⟩) (hsp : h.ss = h.ss.take k ++ ⟨id, (m : Int), mc, ip, be, la, ud, qu, un, il⟩ :: h.ss.drop (k + 1)) (hu : h.us[m]? = some ⟨nm, sa, ha, ro, bl, lg⟩) (b1 : m < h.us.length) (b2 : 0 ≤ la ∧ la ≤ 100000) (b3 : 1 ≤ qu ∧ qu ≤ 1000000) (b4 : 0 ≤ ud ∧ ud ≤ qu) (b5 : 0 ≤ bl ∧ bl ≤ 1000000) (hn : 0 ≤ now ∧ now ≤ 100000) (h0 : 0 ≤ n ∧ n ≤ 1000000) :
    Calls Tryz.prog 34 #[.agg #[.slice A.u h.us.length A.uc, .slice A.s h.ss.length A.sc, .slice A.f h.fs.length A.fc, .slice A.r h.es.length A.rc, .int .i64 h.nx], .int .i64 (k : Int), .int .i64 n, .int .i64 now] w fun e w' => ∃ A' : HuA, e = .returned (.tuple #[.agg #[.slice A'.u (chX now n h k ⟨id, (m : Int), mc, ip, be, la, ud, qu, un, il⟩ ⟨nm, sa, ha, ro, bl, lg⟩).us.length A'.uc, .slice A'.s (chX now n h k ⟨id, (m : Int), mc, ip, be, la, ud, qu, un, il⟩ ⟨nm, sa, ha, ro, bl, lg⟩).ss.length A'.sc, .slice A'.f (chX now n h k ⟨id, (m : Int), mc, ip, be, la, ud, qu, un, il⟩ ⟨nm, sa, ha, ro, bl, lg⟩).fs.length A'.fc, .slice A'.r (chX now n h k ⟨id, (m : Int), mc, ip, be, la, ud, qu, un, il⟩ ⟨nm, sa, ha, ro, bl, lg⟩).es.length A'.rc, .int .i64 (chX now n h k ⟨id, (m : Int), mc, ip, be, la, ud, qu, un, il⟩ ⟨nm, sa, ha, ro, bl, lg⟩).nx], .int .i64 (chY n ⟨id, (m : Int), mc, ip, be, la, ud, qu, un, il⟩ ⟨nm, sa, ha, ro, bl, lg⟩)]) ∧ HuS w' A' (chX now n h k ⟨id, (m : Int), mc, ip, be, la, ud, qu, un, il⟩ ⟨nm, sa, ha, ro, bl, lg⟩) ∧ Below w.heap.size w w' := by
  have hkl := (List.getElem?_eq_some_iff.1 hx).1
  obtain ⟨bs, os, -, es, -, -, -, -⟩ := hs.ss.hrw.at SeR.kp (Below.refl _ _) hx
  obtain ⟨bu, ou, -, eu, -, -, -, -⟩ := hs.us.hrw.at UsR.kp (Below.refl _ _) hu
  have BW2 : Hid (Below w.heap.size w ((w.alloc (.cells #[.slice (some ⟨bu, ou, none⟩) h.us.length A.uc, .slice (some ⟨bs, os, none⟩) h.ss.length A.sc, .slice A.f h.fs.length A.fc, .slice A.r h.es.length A.rc, .int .i64 h.nx] 41)).alloc (.cells #[.slice none 0 0, .slice none 0 0, .slice none 0 0, .slice none 0 0, .int .i64 0] 41))) := ((Below.refl _ _).alloc (Nat.le_refl _) _).alloc (by simp) _
  have BW : Hid (Below w.heap.size w (((w.alloc (.cells #[.slice (some ⟨bu, ou, none⟩) h.us.length A.uc, .slice (some ⟨bs, os, none⟩) h.ss.length A.sc, .slice A.f h.fs.length A.fc, .slice A.r h.es.length A.rc, .int .i64 h.nx] 41)).alloc (.cells #[.slice none 0 0, .slice none 0 0, .slice none 0 0, .slice none 0 0, .int .i64 0] 41)).alloc (.cells #[.int .i64 id, .int .i64 (m : Int), .string mc, .int .i64 ip, .int .i64 be, .int .i64 la, .int .i64 ud, .int .i64 qu, .int .i64 un, .int .i64 il] 84))) := (((Below.refl _ _).alloc (Nat.le_refl _) _).alloc (by simp) _).alloc (by simp; omega) _
  obtain ⟨bs', os', vs, es', hbs, hvl, hR, hcs⟩ := hs.ss.hrw.at SeR.kp BW2.out hx
  obtain ⟨rfl, -⟩ := hR
  rw [es] at es'
  cases es'
  obtain ⟨bu', ou', vu, eu', hbu, hvl2, hR2, hcu⟩ := hs.us.hrw.at UsR.kp BW.out hu
  obtain ⟨rfl, -⟩ := hR2
  rw [eu] at eu'
  cases eu'
  have cu4 : (((w.alloc (.cells #[.slice (some ⟨bu, ou, none⟩) h.us.length A.uc, .slice (some ⟨bs, os, none⟩) h.ss.length A.sc, .slice A.f h.fs.length A.fc, .slice A.r h.es.length A.rc, .int .i64 h.nx] 41)).alloc (.cells #[.slice none 0 0, .slice none 0 0, .slice none 0 0, .slice none 0 0, .int .i64 0] 41)).alloc (.cells #[.int .i64 id, .int .i64 (m : Int), .string mc, .int .i64 ip, .int .i64 be, .int .i64 la, .int .i64 ud, .int .i64 qu, .int .i64 un, .int .i64 il] 84)).cell? ⟨bu, ou + m * 6 + 4, none⟩ = some (.int .i64 bl) := hcu 4 _ rfl
  have ho' : ∀ wx, Below w.heap.size w wx → Calls Tryz.prog 33 #[.agg #[.slice A.u h.us.length A.uc, .slice A.s h.ss.length A.sc, .slice A.f h.fs.length A.fc, .slice A.r h.es.length A.rc, .int .i64 h.nx]] wx fun e w' => ∃ R : HuA, e = .returned (.agg #[.slice R.u h.us.length R.uc, .slice R.s h.ss.length R.sc, .slice R.f h.fs.length R.fc, .slice R.r h.es.length R.rc, .int .i64 h.nx]) ∧ OwnHu w' wx.heap.size R h ∧ Below wx.heap.size wx w' := fun wx hb => spec_own A h wx (hs.below hb)
  have he' : ∀ wx, Below w.heap.size w wx → Calls Tryz.prog 74 #[.agg #[.slice A.u h.us.length A.uc, .slice A.s h.ss.length A.sc, .slice A.f h.fs.length A.fc, .slice A.r h.es.length A.rc, .int .i64 h.nx], .int .i64 (k : Int), .int .i64 now, .int .i64 4] wx fun e w' => ∃ A' : HuA, e = .returned (.agg #[.slice A'.u (enG now 4 h (h.ss.take k) (h.ss.drop (k + 1)) ⟨id, (m : Int), mc, ip, be, la, ud, qu, un, il⟩).us.length A'.uc, .slice A'.s (enG now 4 h (h.ss.take k) (h.ss.drop (k + 1)) ⟨id, (m : Int), mc, ip, be, la, ud, qu, un, il⟩).ss.length A'.sc, .slice A'.f (enG now 4 h (h.ss.take k) (h.ss.drop (k + 1)) ⟨id, (m : Int), mc, ip, be, la, ud, qu, un, il⟩).fs.length A'.fc, .slice A'.r (enG now 4 h (h.ss.take k) (h.ss.drop (k + 1)) ⟨id, (m : Int), mc, ip, be, la, ud, qu, un, il⟩).es.length A'.rc, .int .i64 (enG now 4 h (h.ss.take k) (h.ss.drop (k + 1)) ⟨id, (m : Int), mc, ip, be, la, ud, qu, un, il⟩).nx]) ∧ HuP (fun b => b < w.heap.size ∨ wx.heap.size ≤ b) w' A' (enG now 4 h (h.ss.take k) (h.ss.drop (k + 1)) ⟨id, (m : Int), mc, ip, be, la, ud, qu, un, il⟩) ∧ Below wx.heap.size wx w' := fun wx hb => by
    refine (l08End_keep (fun b => b < w.heap.size) A h (h.ss.take k) (h.ss.drop (k + 1)) ⟨id, (m : Int), mc, ip, be, la, ud, qu, un, il⟩ k now 4 wx ?_ hsp (by rw [List.length_take]; omega) hn ⟨by omega, by omega⟩)
    exact hs.keepP.step hb.size (fun b _ hl => ⟨hl, hb.block b hl⟩)
  rw [es, eu] at ho' he' ⊢
  have HO : Hid _ := ho'
  have HE : Hid _ := he'
  have OK : Hid (HuOk h) := ho
  have HL : Hid (HuL h) := ⟨hs.us.hlen ▸ hs.us.hmost, hs.ss.hlen ▸ hs.ss.hmost, hs.fs.hlen ▸ hs.fs.hmost, hs.es.hlen ▸ hs.es.hmost⟩
  have HXX : Hid (h.ss[k]? = some ⟨id, (m : Int), mc, ip, be, la, ud, qu, un, il⟩) := hx
  have HUU : Hid (h.us[m]? = some ⟨nm, sa, ha, ro, bl, lg⟩) := hu
  clear ho' he' ho es eu hvl hvl2 hcu hs hsp hx hu
  have G3 : Hid (Bx (((w.alloc (.cells #[.slice (some ⟨bu, ou, none⟩) h.us.length A.uc, .slice (some ⟨bs, os, none⟩) h.ss.length A.sc, .slice A.f h.fs.length A.fc, .slice A.r h.es.length A.rc, .int .i64 h.nx] 41)).alloc (.cells #[.slice none 0 0, .slice none 0 0, .slice none 0 0, .slice none 0 0, .int .i64 0] 41)).alloc (.cells #[.int .i64 id, .int .i64 (m : Int), .string mc, .int .i64 ip, .int .i64 be, .int .i64 la, .int .i64 ud, .int .i64 qu, .int .i64 un, .int .i64 il] 84)) w.heap.size [.slice (some ⟨bu, ou, none⟩) h.us.length A.uc, .slice (some ⟨bs, os, none⟩) h.ss.length A.sc, .slice A.f h.fs.length A.fc, .slice A.r h.es.length A.rc, .int .i64 h.nx]) := ((Bx.new w #[.slice (some ⟨bu, ou, none⟩) h.us.length A.uc, .slice (some ⟨bs, os, none⟩) h.ss.length A.sc, .slice A.f h.fs.length A.fc, .slice A.r h.es.length A.rc, .int .i64 h.nx] 41).below ((Below.refl _ _).alloc (Nat.le_refl _) _)).below ((Below.refl _ _).alloc (Nat.le_refl _) _)
  have R3 : Hid (Bx (((w.alloc (.cells #[.slice (some ⟨bu, ou, none⟩) h.us.length A.uc, .slice (some ⟨bs, os, none⟩) h.ss.length A.sc, .slice A.f h.fs.length A.fc, .slice A.r h.es.length A.rc, .int .i64 h.nx] 41)).alloc (.cells #[.slice none 0 0, .slice none 0 0, .slice none 0 0, .slice none 0 0, .int .i64 0] 41)).alloc (.cells #[.int .i64 id, .int .i64 (m : Int), .string mc, .int .i64 ip, .int .i64 be, .int .i64 la, .int .i64 ud, .int .i64 qu, .int .i64 un, .int .i64 il] 84)) (w.heap.size + 1) [.slice none 0 0, .slice none 0 0, .slice none 0 0, .slice none 0 0, .int .i64 0]) := by
    have h := Bx.new (w.alloc (.cells #[.slice (some ⟨bu, ou, none⟩) h.us.length A.uc, .slice (some ⟨bs, os, none⟩) h.ss.length A.sc, .slice A.f h.fs.length A.fc, .slice A.r h.es.length A.rc, .int .i64 h.nx] 41)) #[.slice none 0 0, .slice none 0 0, .slice none 0 0, .slice none 0 0, .int .i64 0] 41
    rw [World.size_alloc] at h
    exact h.below ((Below.refl _ _).alloc (Nat.le_refl _) _)
  have X3 : Hid (Bx (((w.alloc (.cells #[.slice (some ⟨bu, ou, none⟩) h.us.length A.uc, .slice (some ⟨bs, os, none⟩) h.ss.length A.sc, .slice A.f h.fs.length A.fc, .slice A.r h.es.length A.rc, .int .i64 h.nx] 41)).alloc (.cells #[.slice none 0 0, .slice none 0 0, .slice none 0 0, .slice none 0 0, .int .i64 0] 41)).alloc (.cells #[.int .i64 id, .int .i64 (m : Int), .string mc, .int .i64 ip, .int .i64 be, .int .i64 la, .int .i64 ud, .int .i64 qu, .int .i64 un, .int .i64 il] 84)) (w.heap.size + 1 + 1) [.int .i64 id, .int .i64 (m : Int), .string mc, .int .i64 ip, .int .i64 be, .int .i64 la, .int .i64 ud, .int .i64 qu, .int .i64 un, .int .i64 il]) := by
    have h := Bx.new ((w.alloc (.cells #[.slice (some ⟨bu, ou, none⟩) h.us.length A.uc, .slice (some ⟨bs, os, none⟩) h.ss.length A.sc, .slice A.f h.fs.length A.fc, .slice A.r h.es.length A.rc, .int .i64 h.nx] 41)).alloc (.cells #[.slice none 0 0, .slice none 0 0, .slice none 0 0, .slice none 0 0, .int .i64 0] 41)) #[.int .i64 id, .int .i64 (m : Int), .string mc, .int .i64 ip, .int .i64 be, .int .i64 la, .int .i64 ud, .int .i64 qu, .int .i64 un, .int .i64 il] 84
    rw [World.size_alloc, World.size_alloc] at h
    exact h
  have NE : Hid (∀ b, (b < w.heap.size ∨ (((w.alloc (.cells #[.slice (some ⟨bu, ou, none⟩) h.us.length A.uc, .slice (some ⟨bs, os, none⟩) h.ss.length A.sc, .slice A.f h.fs.length A.fc, .slice A.r h.es.length A.rc, .int .i64 h.nx] 41)).alloc (.cells #[.slice none 0 0, .slice none 0 0, .slice none 0 0, .slice none 0 0, .int .i64 0] 41)).alloc (.cells #[.int .i64 id, .int .i64 (m : Int), .string mc, .int .i64 ip, .int .i64 be, .int .i64 la, .int .i64 ud, .int .i64 qu, .int .i64 un, .int .i64 il] 84)).heap.size ≤ b) → b ≠ w.heap.size + 1) := by
    intro b hb
    have hz : (((w.alloc (.cells #[.slice (some ⟨bu, ou, none⟩) h.us.length A.uc, .slice (some ⟨bs, os, none⟩) h.ss.length A.sc, .slice A.f h.fs.length A.fc, .slice A.r h.es.length A.rc, .int .i64 h.nx] 41)).alloc (.cells #[.slice none 0 0, .slice none 0 0, .slice none 0 0, .slice none 0 0, .int .i64 0] 41)).alloc (.cells #[.int .i64 id, .int .i64 (m : Int), .string mc, .int .i64 ip, .int .i64 be, .int .i64 la, .int .i64 ud, .int .i64 qu, .int .i64 un, .int .i64 il] 84)).heap.size = w.heap.size + 3 := by simp
    rw [hz] at hb
    omega
  have g0 := G3.out.cell 0 rfl
  have g1 : ((w.alloc (.cells #[.slice (some ⟨bu, ou, none⟩) h.us.length A.uc, .slice (some ⟨bs, os, none⟩) h.ss.length A.sc, .slice A.f h.fs.length A.fc, .slice A.r h.es.length A.rc, .int .i64 h.nx] 41)).alloc (.cells #[.slice none 0 0, .slice none 0 0, .slice none 0 0, .slice none 0 0, .int .i64 0] 41)).cell? ⟨w.heap.size, 1, none⟩ = some (.slice (some ⟨bs, os, none⟩) h.ss.length A.sc) := ((Bx.new w #[.slice (some ⟨bu, ou, none⟩) h.us.length A.uc, .slice (some ⟨bs, os, none⟩) h.ss.length A.sc, .slice A.f h.fs.length A.fc, .slice A.r h.es.length A.rc, .int .i64 h.nx] 41).below ((Below.refl _ _).alloc (Nat.le_refl _) _)).cell 1 rfl
  have x1 := X3.out.cell 1 rfl
  have x6 := X3.out.cell 6 rfl
  have x7 := X3.out.cell 7 rfl
  have hw1 : IntKind.i64.wrap (qu - ud) = qu - ud := by rw [IntKind.wrap_i64]; omega
  have hi1 : (k : Int) < (h.ss.length : Int) := by omega
  have hi2 : (m : Int) < (h.us.length : Int) := by omega
  obtain ⟨GG, hGG⟩ : ∃ GG, GG = (chX now n h k ⟨id, (m : Int), mc, ip, be, la, ud, qu, un, il⟩ ⟨nm, sa, ha, ro, bl, lg⟩) := ⟨_, rfl⟩
  by_cases hqa : qu - ud < n
  · have hy : chB n ⟨id, (m : Int), mc, ip, be, la, ud, qu, un, il⟩ ⟨nm, sa, ha, ro, bl, lg⟩ = true := by unfold chB; simp [hqa]
    have e1 : chY n ⟨id, (m : Int), mc, ip, be, la, ud, qu, un, il⟩ ⟨nm, sa, ha, ro, bl, lg⟩ = 15 := by unfold chY; rw [if_pos hy]
    have e2 : (chX now n h k ⟨id, (m : Int), mc, ip, be, la, ud, qu, un, il⟩ ⟨nm, sa, ha, ro, bl, lg⟩) = (enG now 4 h (h.ss.take k) (h.ss.drop (k + 1)) ⟨id, (m : Int), mc, ip, be, la, ud, qu, un, il⟩) := by unfold chX; rw [if_pos hy]
    rw [e1]
    rw [← e2, ← hGG] at HE
    rw [← hGG]
    have hd1 : decide (qu - ud < n) = true := decide_eq_true hqa
    clear hy e1 e2 hGG cu4 HO OK HL HXX HUU X3
    go_enter Tryz.func34, Tryz.ntmps34
    go_wp2_with (first | (refine wpList_load_mid rfl 84 _ rfl bs (os + k * 10) rfl [.int .i64 id, .int .i64 (m : Int), .string mc, .int .i64 ip, .int .i64 be, .int .i64 la, .int .i64 ud, .int .i64 qu, .int .i64 un, .int .i64 il] _ (fun j u hu => hcs j u hu) Tryz.underlying84 rfl rfl ?_) | (refine wpl_getT 41 rfl _ rfl (w.heap.size) rfl G3.out _ Tryz.underlying41 rfl rfl ?_) | fail)
    refine (HE.out _ BW.out).mono ?_
    rintro e w4 ⟨A4, rfl, s4, bx⟩
    have R4 : Bx w4 (w.heap.size + 1) [.slice none 0 0, .slice none 0 0, .slice none 0 0, .slice none 0 0, .int .i64 0] := R3.out.below bx
    have B4 : Below w.heap.size w w4 := BW.out.trans (bx.mono BW.out.size)
    have S4 : Hid (HuP (fun b => b < w.heap.size ∨ (((w.alloc (.cells #[.slice (some ⟨bu, ou, none⟩) h.us.length A.uc, .slice (some ⟨bs, os, none⟩) h.ss.length A.sc, .slice A.f h.fs.length A.fc, .slice A.r h.es.length A.rc, .int .i64 h.nx] 41)).alloc (.cells #[.slice none 0 0, .slice none 0 0, .slice none 0 0, .slice none 0 0, .int .i64 0] 41)).alloc (.cells #[.int .i64 id, .int .i64 (m : Int), .string mc, .int .i64 ip, .int .i64 be, .int .i64 la, .int .i64 ud, .int .i64 qu, .int .i64 un, .int .i64 il] 84)).heap.size ≤ b) w4 A4 GG) := s4
    clear s4 bx
    go_wp2_with (first | (refine wpl_putT 41 rfl _ _ rfl (w.heap.size + 1) _ rfl rfl R4 rfl rfl rfl ?_; intro W5 hw5 R5; have B5 : Hid (Below w.heap.size w W5) := (by rw [hw5]; exact below_cells (by omega) _ _ _ B4); have S5 : Hid (HuS W5 A4 GG) := (by rw [hw5]; exact S4.out _ (by rw [(heap_cellsA _ _ _).1]; omega) (fun b hb hl => (heap_cellsA _ _ _).2 b (NE.out b hb))); clear hw5) | fail)
    refine bodyPost_ret (v := .tuple #[.agg #[.slice A4.u GG.us.length A4.uc, .slice A4.s GG.ss.length A4.sc, .slice A4.f GG.fs.length A4.fc, .slice A4.r GG.es.length A4.rc, .int .i64 GG.nx], .int .i64 15]) (results_cell2 Tryz.results34 (w.heap.size + 1) rfl rfl R5 _ Tryz.underlying41 rfl rfl) rfl ?_
    exact ⟨A4, rfl, S5.out, B5.out⟩
  have hd1 : decide (qu - ud < n) = false := decide_eq_false hqa
  by_cases hqb : bl < n
  · have hy : chB n ⟨id, (m : Int), mc, ip, be, la, ud, qu, un, il⟩ ⟨nm, sa, ha, ro, bl, lg⟩ = true := by unfold chB; simp [hqb]
    have e1 : chY n ⟨id, (m : Int), mc, ip, be, la, ud, qu, un, il⟩ ⟨nm, sa, ha, ro, bl, lg⟩ = 15 := by unfold chY; rw [if_pos hy]
    have e2 : (chX now n h k ⟨id, (m : Int), mc, ip, be, la, ud, qu, un, il⟩ ⟨nm, sa, ha, ro, bl, lg⟩) = (enG now 4 h (h.ss.take k) (h.ss.drop (k + 1)) ⟨id, (m : Int), mc, ip, be, la, ud, qu, un, il⟩) := by unfold chX; rw [if_pos hy]
    rw [e1]
    rw [← e2, ← hGG] at HE
    rw [← hGG]
    have hd2 : decide (bl < n) = true := decide_eq_true hqb
    clear hy e1 e2 hGG HO OK HL HXX HUU X3
    go_enter Tryz.func34, Tryz.ntmps34
    go_wp2_with (first | (refine wpList_load_mid rfl 84 _ rfl bs (os + k * 10) rfl [.int .i64 id, .int .i64 (m : Int), .string mc, .int .i64 ip, .int .i64 be, .int .i64 la, .int .i64 ud, .int .i64 qu, .int .i64 un, .int .i64 il] _ (fun j u hu => hcs j u hu) Tryz.underlying84 rfl rfl ?_) | (refine wpl_getT 41 rfl _ rfl (w.heap.size) rfl G3.out _ Tryz.underlying41 rfl rfl ?_) | fail)
    refine (HE.out _ BW.out).mono ?_
    rintro e w4 ⟨A4, rfl, s4, bx⟩
    have R4 : Bx w4 (w.heap.size + 1) [.slice none 0 0, .slice none 0 0, .slice none 0 0, .slice none 0 0, .int .i64 0] := R3.out.below bx
    have B4 : Below w.heap.size w w4 := BW.out.trans (bx.mono BW.out.size)
    have S4 : Hid (HuP (fun b => b < w.heap.size ∨ (((w.alloc (.cells #[.slice (some ⟨bu, ou, none⟩) h.us.length A.uc, .slice (some ⟨bs, os, none⟩) h.ss.length A.sc, .slice A.f h.fs.length A.fc, .slice A.r h.es.length A.rc, .int .i64 h.nx] 41)).alloc (.cells #[.slice none 0 0, .slice none 0 0, .slice none 0 0, .slice none 0 0, .int .i64 0] 41)).alloc (.cells #[.int .i64 id, .int .i64 (m : Int), .string mc, .int .i64 ip, .int .i64 be, .int .i64 la, .int .i64 ud, .int .i64 qu, .int .i64 un, .int .i64 il] 84)).heap.size ≤ b) w4 A4 GG) := s4
    clear s4 bx
    go_wp2_with (first | (refine wpl_putT 41 rfl _ _ rfl (w.heap.size + 1) _ rfl rfl R4 rfl rfl rfl ?_; intro W5 hw5 R5; have B5 : Hid (Below w.heap.size w W5) := (by rw [hw5]; exact below_cells (by omega) _ _ _ B4); have S5 : Hid (HuS W5 A4 GG) := (by rw [hw5]; exact S4.out _ (by rw [(heap_cellsA _ _ _).1]; omega) (fun b hb hl => (heap_cellsA _ _ _).2 b (NE.out b hb))); clear hw5) | fail)
    refine bodyPost_ret (v := .tuple #[.agg #[.slice A4.u GG.us.length A4.uc, .slice A4.s GG.ss.length A4.sc, .slice A4.f GG.fs.length A4.fc, .slice A4.r GG.es.length A4.rc, .int .i64 GG.nx], .int .i64 15]) (results_cell2 Tryz.results34 (w.heap.size + 1) rfl rfl R5 _ Tryz.underlying41 rfl rfl) rfl ?_
    exact ⟨A4, rfl, S5.out, B5.out⟩
  have hd2 : decide (bl < n) = false := decide_eq_false hqb
  have hy : ¬ chB n ⟨id, (m : Int), mc, ip, be, la, ud, qu, un, il⟩ ⟨nm, sa, ha, ro, bl, lg⟩ = true := by unfold chB; simp [hqa, hqb]
  have e1 : chY n ⟨id, (m : Int), mc, ip, be, la, ud, qu, un, il⟩ ⟨nm, sa, ha, ro, bl, lg⟩ = 0 := by unfold chY; rw [if_neg hy]
  have e2 : (chX now n h k ⟨id, (m : Int), mc, ip, be, la, ud, qu, un, il⟩ ⟨nm, sa, ha, ro, bl, lg⟩) = chG now n h k ⟨id, (m : Int), mc, ip, be, la, ud, qu, un, il⟩ ⟨nm, sa, ha, ro, bl, lg⟩ := by unfold chX; rw [if_neg hy]
  rw [e1]
  rw [← hGG]
  have HG : Hid (GG = chG now n h k ⟨id, (m : Int), mc, ip, be, la, ud, qu, un, il⟩ ⟨nm, sa, ha, ro, bl, lg⟩) := hGG.trans e2
  have HGX : Hid (GG = (chX now n h k ⟨id, (m : Int), mc, ip, be, la, ud, qu, un, il⟩ ⟨nm, sa, ha, ro, bl, lg⟩)) := hGG
  clear hy e1 e2 hGG HE
  go_enter Tryz.func34, Tryz.ntmps34
  go_wp2_with (first | (refine wpList_load_mid rfl 84 _ rfl bs (os + k * 10) rfl [.int .i64 id, .int .i64 (m : Int), .string mc, .int .i64 ip, .int .i64 be, .int .i64 la, .int .i64 ud, .int .i64 qu, .int .i64 un, .int .i64 il] _ (fun j u hu => hcs j u hu) Tryz.underlying84 rfl rfl ?_) | (refine wpl_getT 41 rfl _ rfl (w.heap.size) rfl G3.out _ Tryz.underlying41 rfl rfl ?_) | fail)
  refine (HO.out _ BW.out).mono ?_
  rintro e w4 ⟨R, rfl, o4, bx⟩
  have G4 : Bx w4 w.heap.size [.slice (some ⟨bu, ou, none⟩) h.us.length A.uc, .slice (some ⟨bs, os, none⟩) h.ss.length A.sc, .slice A.f h.fs.length A.fc, .slice A.r h.es.length A.rc, .int .i64 h.nx] := G3.out.below bx
  have R4 : Bx w4 (w.heap.size + 1) [.slice none 0 0, .slice none 0 0, .slice none 0 0, .slice none 0 0, .int .i64 0] := R3.out.below bx
  have X4 : Bx w4 (w.heap.size + 1 + 1) [.int .i64 id, .int .i64 (m : Int), .string mc, .int .i64 ip, .int .i64 be, .int .i64 la, .int .i64 ud, .int .i64 qu, .int .i64 un, .int .i64 il] := X3.out.below bx
  have B4 : Below w.heap.size w w4 := BW.out.trans (bx.mono BW.out.size)
  have O4 : OwnHu w4 (w.heap.size + 3) R h := Own4.lower o4 (by simp)
  obtain ⟨ru, rs, rf, rr, ruc, rsc, rfc, rrc⟩ := R
  obtain ⟨gu, hgu, hgu2, -⟩ := O4.u.form (by omega)
  obtain ⟨gs, hgs, hgs2, -⟩ := O4.s.form (by omega)
  dsimp only at hgu hgs
  subst hgu hgs
  have O4 : Hid (Own4 w4 (w.heap.size + 3) (.slice (some ⟨gu, 0, none⟩) h.us.length ruc) (.slice (some ⟨gs, 0, none⟩) h.ss.length rsc) (.slice rf h.fs.length rfc) (.slice rr h.es.length rrc) h.us h.ss h.fs h.es) := O4
  clear o4 bx G3 R3 X3
  have hkl2 : (k : Int) < (h.ss.length : Int) := by omega
  have hw2 : IntKind.i64.wrap (ud + n) = ud + n := by rw [IntKind.wrap_i64]; omega
  have hw3 : IntKind.i64.wrap (bl - n) = bl - n := by rw [IntKind.wrap_i64]; omega
  have hmx := la_max now la
  clear g0 g1 x1 x6 x7 cu4
  go_wp2_with (first | (refine wpl_putT 41 rfl _ _ rfl (w.heap.size) _ rfl rfl G4 rfl rfl rfl ?_; intro W5 hw5 R5x; have G5 : Hid (Bx W5 (w.heap.size) [.slice (some ⟨gu, 0, none⟩) h.us.length ruc, .slice (some ⟨gs, 0, none⟩) h.ss.length rsc, .slice rf h.fs.length rfc, .slice rr h.es.length rrc, .int .i64 h.nx]) := R5x; clear R5x; have R5 : Hid (Bx W5 (w.heap.size + 1) [.slice none 0 0, .slice none 0 0, .slice none 0 0, .slice none 0 0, .int .i64 0]) := (by rw [hw5]; exact R4.apart _ (by omega)); have X5 : Hid (Bx W5 (w.heap.size + 1 + 1) [.int .i64 id, .int .i64 (m : Int), .string mc, .int .i64 ip, .int .i64 be, .int .i64 la, .int .i64 ud, .int .i64 qu, .int .i64 un, .int .i64 il]) := (by rw [hw5]; exact X4.apart _ (by omega)); have B5 : Hid (Below w.heap.size w W5) := (by rw [hw5]; exact below_cells (Nat.le_refl _) _ _ _ B4); have O5 : Hid (Own4 W5 (w.heap.size + 3) (.slice (some ⟨gu, 0, none⟩) h.us.length ruc) (.slice (some ⟨gs, 0, none⟩) h.ss.length rsc) (.slice rf h.fs.length rfc) (.slice rr h.es.length rrc) h.us h.ss h.fs h.es) := (by rw [hw5]; exact ⟨own_cellsB (by omega) _ _ _ O4.out.u, own_cellsB (by omega) _ _ _ O4.out.s, own_cellsB (by omega) _ _ _ O4.out.f, own_cellsB (by omega) _ _ _ O4.out.r, O4.out.us_, O4.out.uf, O4.out.ur, O4.out.sf, O4.out.sr, O4.out.fr⟩); clear hw5 O4 G4 R4 X4 B4; have c1 := G5.out.cell 1 rfl; obtain ⟨c6, z6⟩ := O5.out.s.cell svG_len (j := 6) HXX.out rfl) | (refine wpl_putC 3 rfl _ _ rfl gs (k * 10 + 6) (.int .i64 (ud + n)) rfl rfl (O5.out.s.there1 svG_len HXX.out 6 (by omega)) rfl rfl ?_; intro W6 hw6; have T6 := O5.out.s.set1 svG_len (j := 6) (y := ⟨id, (m : Int), mc, ip, be, la, ud + n, qu, un, il⟩) HXX.out (by omega) rfl; rw [← hw6] at T6; have B6 : Hid (Below w.heap.size w W6) := (B5.out.grown T6.2 B5.out.size (fun z hz => by cases hz; omega)); have O6 : Hid (Own4 W6 (w.heap.size + 3) (.slice (some ⟨gu, 0, none⟩) h.us.length ruc) (.slice (some ⟨gs, 0, none⟩) h.ss.length rsc) (.slice rf h.fs.length rfc) (.slice rr h.es.length rrc) h.us (h.ss.set k ⟨id, (m : Int), mc, ip, be, la, ud + n, qu, un, il⟩) h.fs h.es) := O5.out.setS T6.1 T6.2; have G6 : Hid (Bx W6 (w.heap.size) [.slice (some ⟨gu, 0, none⟩) h.us.length ruc, .slice (some ⟨gs, 0, none⟩) h.ss.length rsc, .slice rf h.fs.length rfc, .slice rr h.es.length rrc, .int .i64 h.nx]) := (by rw [hw6]; exact G5.out.far _ _ (by show gs ≠ _; omega)); have R6 : Hid (Bx W6 (w.heap.size + 1) [.slice none 0 0, .slice none 0 0, .slice none 0 0, .slice none 0 0, .int .i64 0]) := (by rw [hw6]; exact R5.out.far _ _ (by show gs ≠ _; omega)); have X6 : Hid (Bx W6 (w.heap.size + 1 + 1) [.int .i64 id, .int .i64 (m : Int), .string mc, .int .i64 ip, .int .i64 be, .int .i64 la, .int .i64 ud, .int .i64 qu, .int .i64 un, .int .i64 il]) := (by rw [hw6]; exact X5.out.far _ _ (by show gs ≠ _; omega)); clear hw6 T6 O5 G5 R5 X5 B5 c1 c6 z6; have HX6 : Hid ((h.ss.set k ⟨id, (m : Int), mc, ip, be, la, ud + n, qu, un, il⟩)[k]? = some ⟨id, (m : Int), mc, ip, be, la, ud + n, qu, un, il⟩) := List.getElem?_set_self hkl; have c1 := G6.out.cell 1 rfl; have x5 := X6.out.cell 5 rfl; obtain ⟨c5, z5⟩ := O6.out.s.cell svG_len (j := 5) HX6.out rfl) | (refine wpl_putC 3 rfl _ _ rfl gs (k * 10 + 5) (.int .i64 (max now la)) rfl rfl (O6.out.s.there1 svG_len HX6.out 5 (by omega)) rfl rfl ?_; intro W7 hw7; have T7 := O6.out.s.set1 svG_len (j := 5) (y := ⟨id, (m : Int), mc, ip, be, max now la, ud + n, qu, un, il⟩) HX6.out (by omega) rfl; rw [List.set_set] at T7; rw [← hw7] at T7; have B7 : Hid (Below w.heap.size w W7) := (B6.out.grown T7.2 B6.out.size (fun z hz => by cases hz; omega)); have O7 : Hid (Own4 W7 (w.heap.size + 3) (.slice (some ⟨gu, 0, none⟩) h.us.length ruc) (.slice (some ⟨gs, 0, none⟩) h.ss.length rsc) (.slice rf h.fs.length rfc) (.slice rr h.es.length rrc) h.us (h.ss.set k ⟨id, (m : Int), mc, ip, be, max now la, ud + n, qu, un, il⟩) h.fs h.es) := O6.out.setS T7.1 T7.2; have G7 : Hid (Bx W7 (w.heap.size) [.slice (some ⟨gu, 0, none⟩) h.us.length ruc, .slice (some ⟨gs, 0, none⟩) h.ss.length rsc, .slice rf h.fs.length rfc, .slice rr h.es.length rrc, .int .i64 h.nx]) := (by rw [hw7]; exact G6.out.far _ _ (by show gs ≠ _; omega)); have R7 : Hid (Bx W7 (w.heap.size + 1) [.slice none 0 0, .slice none 0 0, .slice none 0 0, .slice none 0 0, .int .i64 0]) := (by rw [hw7]; exact R6.out.far _ _ (by show gs ≠ _; omega)); have X7 : Hid (Bx W7 (w.heap.size + 1 + 1) [.int .i64 id, .int .i64 (m : Int), .string mc, .int .i64 ip, .int .i64 be, .int .i64 la, .int .i64 ud, .int .i64 qu, .int .i64 un, .int .i64 il]) := (by rw [hw7]; exact X6.out.far _ _ (by show gs ≠ _; omega)); clear hw7 T7 O6 G6 R6 X6 B6 c1 x5 c5 z5 HX6; have c0 := G7.out.cell 0 rfl; have x1 := X7.out.cell 1 rfl; obtain ⟨c4, z4⟩ := O7.out.u.cell uvG_len (j := 4) HUU.out rfl) | (refine wpl_putC 3 rfl _ _ rfl gu (m * 6 + 4) (.int .i64 (bl - n)) rfl rfl (O7.out.u.there1 uvG_len HUU.out 4 (by omega)) rfl rfl ?_; intro W8 hw8; have T8 := O7.out.u.set1 uvG_len (j := 4) (y := ⟨nm, sa, ha, ro, bl - n, lg⟩) HUU.out (by omega) rfl; rw [← hw8] at T8; have B8 : Hid (Below w.heap.size w W8) := (B7.out.grown T8.2 B7.out.size (fun z hz => by cases hz; omega)); have O8 : Hid (Own4 W8 (w.heap.size + 3) (.slice (some ⟨gu, 0, none⟩) h.us.length ruc) (.slice (some ⟨gs, 0, none⟩) h.ss.length rsc) (.slice rf h.fs.length rfc) (.slice rr h.es.length rrc) (h.us.set m ⟨nm, sa, ha, ro, bl - n, lg⟩) (h.ss.set k ⟨id, (m : Int), mc, ip, be, max now la, ud + n, qu, un, il⟩) h.fs h.es) := O7.out.setU T8.1 T8.2; have G8 : Hid (Bx W8 (w.heap.size) [.slice (some ⟨gu, 0, none⟩) h.us.length ruc, .slice (some ⟨gs, 0, none⟩) h.ss.length rsc, .slice rf h.fs.length rfc, .slice rr h.es.length rrc, .int .i64 h.nx]) := (by rw [hw8]; exact G7.out.far _ _ (by show gu ≠ _; omega)); have R8 : Hid (Bx W8 (w.heap.size + 1) [.slice none 0 0, .slice none 0 0, .slice none 0 0, .slice none 0 0, .int .i64 0]) := (by rw [hw8]; exact R7.out.far _ _ (by show gu ≠ _; omega)); have X8 : Hid (Bx W8 (w.heap.size + 1 + 1) [.int .i64 id, .int .i64 (m : Int), .string mc, .int .i64 ip, .int .i64 be, .int .i64 la, .int .i64 ud, .int .i64 qu, .int .i64 un, .int .i64 il]) := (by rw [hw8]; exact X7.out.far _ _ (by show gu ≠ _; omega)); clear hw8 T8 O7 G7 R7 X7 B7 c0 x1 c4 z4) | (refine wpl_getT 41 rfl _ rfl (w.heap.size) rfl G8.out _ Tryz.underlying41 rfl rfl ?_) | (refine wpl_putT 41 rfl _ _ rfl (w.heap.size + 1) _ rfl rfl R8.out rfl rfl rfl ?_; intro W9 hw9 R9; have B9 : Hid (Below w.heap.size w W9) := (by rw [hw9]; exact below_cells (by omega) _ _ _ B8.out); have O9 : Hid (Own4 W9 (w.heap.size + 3) (.slice (some ⟨gu, 0, none⟩) h.us.length ruc) (.slice (some ⟨gs, 0, none⟩) h.ss.length rsc) (.slice rf h.fs.length rfc) (.slice rr h.es.length rrc) (h.us.set m ⟨nm, sa, ha, ro, bl - n, lg⟩) (h.ss.set k ⟨id, (m : Int), mc, ip, be, max now la, ud + n, qu, un, il⟩) h.fs h.es) := (by rw [hw9]; exact ⟨own_cellsB (by omega) _ _ _ O8.out.u, own_cellsB (by omega) _ _ _ O8.out.s, own_cellsB (by omega) _ _ _ O8.out.f, own_cellsB (by omega) _ _ _ O8.out.r, O8.out.us_, O8.out.uf, O8.out.ur, O8.out.sf, O8.out.sr, O8.out.fr⟩); clear hw9) | fail)
  refine bodyPost_ret (v := .tuple #[.agg #[.slice (some ⟨gu, 0, none⟩) h.us.length ruc, .slice (some ⟨gs, 0, none⟩) h.ss.length rsc, .slice rf h.fs.length rfc, .slice rr h.es.length rrc, .int .i64 h.nx], .int .i64 0]) (results_cell2 Tryz.results34 (w.heap.size + 1) rfl rfl R9 _ Tryz.underlying41 rfl rfl) rfl ?_
  refine ⟨⟨some ⟨gu, 0, none⟩, some ⟨gs, 0, none⟩, rf, rr, ruc, rsc, rfc, rrc⟩, ?_, ?_, B9.out⟩
  · rw [HG.out]
    unfold chG
    dsimp only
    rw [List.length_set, List.length_set]
  · have hk9 : HuOk GG := by
      rw [HGX.out]
      exact chX_ok OK.out HXX.out HUU.out hn h0.1 b2 b3 b4 b5
    have hl9 : HuL GG := by
      rw [HG.out]
      exact ⟨by show (h.us.set _ _).length ≤ _; rw [List.length_set]; exact HL.out.us, by show (h.ss.set _ _).length ≤ _; rw [List.length_set]; exact HL.out.ss, HL.out.fs, HL.out.es⟩
    refine OwnHu.srcs (B := w.heap.size + 3) ?_ hk9 hl9
    rw [HG.out]
    unfold chG OwnHu
    dsimp only
    rw [List.length_set, List.length_set]
    exact O9.out

end Go.Proofs.YtmeejholckelgaaGreat

namespace Go.Proofs.YtmeejholckelgaaGreat
open Go.RowKit Go.PlainAid Go.Proofs.YtmeejholckelgaaGreat.Bt Go.Sort
set_option linter.unusedVariables false
set_option maxRecDepth 20000
set_option maxHeartbeats 4000000 in
theorem specCharge_any (C : CfA) (c : CfV) (A : HuA) (h : HuV) (q n now : Int) (w : World) (rc : CfR w C c) (rh : HuR w A h) (hs : HuS w A h) (sc : CfSz c) (sh : HuSz h) :
    Calls Tryz.prog 8 #[.agg #[.int .i64 c.ip, .int .i64 c.b, .int .i64 c.gt, .string c.gm, .string c.wm, .int .i64 c.rs, .slice C.x c.ps.length C.xc, .slice C.y c.ros.length C.yc], .agg #[.slice A.u h.us.length A.uc, .slice A.s h.ss.length A.sc, .slice A.f h.fs.length A.fc, .slice A.r h.es.length A.rc, .int .i64 h.nx], .int .i64 q, .int .i64 n, .int .i64 now] w fun e w' => ∃ R : HuA, e = .returned (.tuple #[.agg #[.slice R.u (chU c h q n now).us.length R.uc, .slice R.s (chU c h q n now).ss.length R.sc, .slice R.f (chU c h q n now).fs.length R.fc, .slice R.r (chU c h q n now).es.length R.rc, .int .i64 (chU c h q n now).nx], .int .i64 (chC c h q n now)]) ∧ OwnHu w' w.heap.size R (chU c h q n now) ∧ Below w.heap.size w w' := by
  have HA : Hid (∀ wx, Below w.heap.size w wx → Calls Tryz.prog 30 #[.agg #[.int .i64 c.ip, .int .i64 c.b, .int .i64 c.gt, .string c.gm, .string c.wm, .int .i64 c.rs, .slice C.x c.ps.length C.xc, .slice C.y c.ros.length C.yc], .agg #[.slice A.u h.us.length A.uc, .slice A.s h.ss.length A.sc, .slice A.f h.fs.length A.fc, .slice A.r h.es.length A.rc, .int .i64 h.nx], .int .i64 now] wx fun e w' => e = .returned (.int .i64 (fauC (okG c h) now)) ∧ Below wx.heap.size wx w') := fun wx hb => spec_ask C c A h now wx (rc.below hb) (rh.below hb) sc sh
  have HC : Hid (∀ wx, Calls Tryz.prog 31 #[.int .i64 n, .int .i64 0, .int .i64 1000000] wx fun e w' => e = .returned (.bool (dec (0 ≤ n ∧ n ≤ 1000000))) ∧ w' = wx) := fun wx => l01In_any n 0 1000000 wx
  have HP : Hid (∀ wx, Below w.heap.size w wx → Calls Tryz.prog 32 #[.agg #[.slice A.u h.us.length A.uc, .slice A.s h.ss.length A.sc, .slice A.f h.fs.length A.fc, .slice A.r h.es.length A.rc, .int .i64 h.nx], .int .i64 q] wx fun e w' => e = .returned (.int .i64 (ixI (siP q) h.ss)) ∧ Below wx.heap.size wx w') := fun wx hb => (l08Sess_any A h q wx (rh.below hb).ss sh.ss).mono fun e w' h => ⟨h.1, h.2.below⟩
  have HO : Hid (∀ wx, Below w.heap.size w wx → Calls Tryz.prog 33 #[.agg #[.slice A.u h.us.length A.uc, .slice A.s h.ss.length A.sc, .slice A.f h.fs.length A.fc, .slice A.r h.es.length A.rc, .int .i64 h.nx]] wx fun e w' => ∃ R : HuA, e = .returned (.agg #[.slice R.u h.us.length R.uc, .slice R.s h.ss.length R.sc, .slice R.f h.fs.length R.fc, .slice R.r h.es.length R.rc, .int .i64 h.nx]) ∧ OwnHu w' wx.heap.size R h ∧ Below wx.heap.size wx w') := fun wx hb => spec_own A h wx (hs.below hb)
  have HK : Hid (HuOk h) := rh.ok
  clear rc rh
  have P0 : Hid (Bx (((w.alloc (.cells #[.int .i64 c.ip, .int .i64 c.b, .int .i64 c.gt, .string c.gm, .string c.wm, .int .i64 c.rs, .slice C.x c.ps.length C.xc, .slice C.y c.ros.length C.yc] 48)).alloc (.cells #[.slice A.u h.us.length A.uc, .slice A.s h.ss.length A.sc, .slice A.f h.fs.length A.fc, .slice A.r h.es.length A.rc, .int .i64 h.nx] 41)).alloc (.cells #[.slice none 0 0, .slice none 0 0, .slice none 0 0, .slice none 0 0, .int .i64 0] 41)) w.heap.size [.int .i64 c.ip, .int .i64 c.b, .int .i64 c.gt, .string c.gm, .string c.wm, .int .i64 c.rs, .slice C.x c.ps.length C.xc, .slice C.y c.ros.length C.yc] ∧ Bx (((w.alloc (.cells #[.int .i64 c.ip, .int .i64 c.b, .int .i64 c.gt, .string c.gm, .string c.wm, .int .i64 c.rs, .slice C.x c.ps.length C.xc, .slice C.y c.ros.length C.yc] 48)).alloc (.cells #[.slice A.u h.us.length A.uc, .slice A.s h.ss.length A.sc, .slice A.f h.fs.length A.fc, .slice A.r h.es.length A.rc, .int .i64 h.nx] 41)).alloc (.cells #[.slice none 0 0, .slice none 0 0, .slice none 0 0, .slice none 0 0, .int .i64 0] 41)) (w.heap.size + 1) [.slice A.u h.us.length A.uc, .slice A.s h.ss.length A.sc, .slice A.f h.fs.length A.fc, .slice A.r h.es.length A.rc, .int .i64 h.nx] ∧ Bx (((w.alloc (.cells #[.int .i64 c.ip, .int .i64 c.b, .int .i64 c.gt, .string c.gm, .string c.wm, .int .i64 c.rs, .slice C.x c.ps.length C.xc, .slice C.y c.ros.length C.yc] 48)).alloc (.cells #[.slice A.u h.us.length A.uc, .slice A.s h.ss.length A.sc, .slice A.f h.fs.length A.fc, .slice A.r h.es.length A.rc, .int .i64 h.nx] 41)).alloc (.cells #[.slice none 0 0, .slice none 0 0, .slice none 0 0, .slice none 0 0, .int .i64 0] 41)) (w.heap.size + 1 + 1) [.slice none 0 0, .slice none 0 0, .slice none 0 0, .slice none 0 0, .int .i64 0] ∧ Below w.heap.size w (((w.alloc (.cells #[.int .i64 c.ip, .int .i64 c.b, .int .i64 c.gt, .string c.gm, .string c.wm, .int .i64 c.rs, .slice C.x c.ps.length C.xc, .slice C.y c.ros.length C.yc] 48)).alloc (.cells #[.slice A.u h.us.length A.uc, .slice A.s h.ss.length A.sc, .slice A.f h.fs.length A.fc, .slice A.r h.es.length A.rc, .int .i64 h.nx] 41)).alloc (.cells #[.slice none 0 0, .slice none 0 0, .slice none 0 0, .slice none 0 0, .int .i64 0] 41))) := by
    refine ⟨((Bx.new w #[.int .i64 c.ip, .int .i64 c.b, .int .i64 c.gt, .string c.gm, .string c.wm, .int .i64 c.rs, .slice C.x c.ps.length C.xc, .slice C.y c.ros.length C.yc] 48).below ((Below.refl _ _).alloc (Nat.le_refl _) _)).below ((Below.refl _ _).alloc (Nat.le_refl _) _), ?_, ?_, (((Below.refl _ _).alloc (Nat.le_refl _) _).alloc (by simp) _).alloc (by simp; omega) _⟩
    · have h := Bx.new (w.alloc (.cells #[.int .i64 c.ip, .int .i64 c.b, .int .i64 c.gt, .string c.gm, .string c.wm, .int .i64 c.rs, .slice C.x c.ps.length C.xc, .slice C.y c.ros.length C.yc] 48)) #[.slice A.u h.us.length A.uc, .slice A.s h.ss.length A.sc, .slice A.f h.fs.length A.fc, .slice A.r h.es.length A.rc, .int .i64 h.nx] 41
      rw [World.size_alloc] at h
      exact h.below ((Below.refl _ _).alloc (Nat.le_refl _) _)
    · have h := Bx.new ((w.alloc (.cells #[.int .i64 c.ip, .int .i64 c.b, .int .i64 c.gt, .string c.gm, .string c.wm, .int .i64 c.rs, .slice C.x c.ps.length C.xc, .slice C.y c.ros.length C.yc] 48)).alloc (.cells #[.slice A.u h.us.length A.uc, .slice A.s h.ss.length A.sc, .slice A.f h.fs.length A.fc, .slice A.r h.es.length A.rc, .int .i64 h.nx] 41)) #[.slice none 0 0, .slice none 0 0, .slice none 0 0, .slice none 0 0, .int .i64 0] 41
      rw [World.size_alloc, World.size_alloc] at h
      exact h
  unfold chC chU chF
  have hok : fauC (okG c h) now = 0 → okG c h = true ∧ 0 ≤ now ∧ now ≤ 100000 := fun h => fau_zero h
  generalize fauC (okG c h) now = f at HA hok ⊢
  by_cases hf : ¬ f = 0
  · have hfb : (f != 0) = true := by simp [hf]
    have hz1 : (if f = 0 then (if dec (0 ≤ n ∧ n ≤ 1000000) = true then (0 : Int) else 4) else f) = f := if_neg hf
    rw [hz1, if_neg hf, if_neg hf]
    go_enter Tryz.func8, Tryz.ntmps8
    go_wp2_with (first | (refine wpl_getT 48 rfl _ rfl (w.heap.size) rfl P0.out.1 _ Tryz.underlying48 rfl rfl ?_) | (refine wpl_getT 41 rfl _ rfl (w.heap.size + 1) rfl P0.out.2.1 _ Tryz.underlying41 rfl rfl ?_) | fail)
    refine (HA.out _ P0.out.2.2.2).mono ?_
    rintro e w1 ⟨rfl, bx⟩
    have P1 : Hid (Bx w1 w.heap.size [.int .i64 c.ip, .int .i64 c.b, .int .i64 c.gt, .string c.gm, .string c.wm, .int .i64 c.rs, .slice C.x c.ps.length C.xc, .slice C.y c.ros.length C.yc] ∧ Bx w1 (w.heap.size + 1) [.slice A.u h.us.length A.uc, .slice A.s h.ss.length A.sc, .slice A.f h.fs.length A.fc, .slice A.r h.es.length A.rc, .int .i64 h.nx] ∧ Bx w1 (w.heap.size + 1 + 1) [.slice none 0 0, .slice none 0 0, .slice none 0 0, .slice none 0 0, .int .i64 0] ∧ Below w.heap.size w w1) := ⟨P0.out.1.below bx, P0.out.2.1.below bx, P0.out.2.2.1.below bx, P0.out.2.2.2.trans (bx.mono P0.out.2.2.2.size)⟩
    clear bx P0 HA
    go_wp2_with (first | (refine wpl_putT 41 rfl _ _ rfl (w.heap.size + 1 + 1) _ rfl rfl P1.out.2.2.1 rfl rfl rfl ?_; intro W5 hw5 R5; have B5 : Hid (Below w.heap.size w W5) := (by rw [hw5]; exact below_cells (by omega) _ _ _ P1.out.2.2.2); clear hw5) | fail)
    refine bodyPost_ret (v := .tuple #[.agg #[.slice none 0 0, .slice none 0 0, .slice none 0 0, .slice none 0 0, .int .i64 0], .int .i64 f]) (results_cell2 Tryz.results8 (w.heap.size + 1 + 1) rfl rfl R5 _ Tryz.underlying41 rfl rfl) rfl ?_
    exact ⟨zeroHA, rfl, OwnHu.zero _ _, B5.out⟩
  replace hf : f = 0 := Classical.not_not.1 hf
  obtain ⟨hk, hn⟩ := hok hf
  clear hok
  subst hf
  rw [if_pos rfl]
  by_cases hc : ¬ (0 ≤ n ∧ n ≤ 1000000)
  · have hd : dec (0 ≤ n ∧ n ≤ 1000000) = false := dec_n hc
    rw [hd] at HC ⊢
    simp only [Bool.false_eq_true, if_false]
    rw [if_neg (show ¬ (4 : Int) = 0 by decide), if_neg (show ¬ (4 : Int) = 0 by decide)]
    clear hd
    go_enter Tryz.func8, Tryz.ntmps8
    go_wp2_with (first | (refine wpl_getT 48 rfl _ rfl (w.heap.size) rfl P0.out.1 _ Tryz.underlying48 rfl rfl ?_) | (refine wpl_getT 41 rfl _ rfl (w.heap.size + 1) rfl P0.out.2.1 _ Tryz.underlying41 rfl rfl ?_) | fail)
    refine (HA.out _ P0.out.2.2.2).mono ?_
    rintro e w1 ⟨rfl, bx⟩
    have P1 : Hid (Bx w1 w.heap.size [.int .i64 c.ip, .int .i64 c.b, .int .i64 c.gt, .string c.gm, .string c.wm, .int .i64 c.rs, .slice C.x c.ps.length C.xc, .slice C.y c.ros.length C.yc] ∧ Bx w1 (w.heap.size + 1) [.slice A.u h.us.length A.uc, .slice A.s h.ss.length A.sc, .slice A.f h.fs.length A.fc, .slice A.r h.es.length A.rc, .int .i64 h.nx] ∧ Bx w1 (w.heap.size + 1 + 1) [.slice none 0 0, .slice none 0 0, .slice none 0 0, .slice none 0 0, .int .i64 0] ∧ Below w.heap.size w w1) := ⟨P0.out.1.below bx, P0.out.2.1.below bx, P0.out.2.2.1.below bx, P0.out.2.2.2.trans (bx.mono P0.out.2.2.2.size)⟩
    clear bx P0 HA
    go_wp2_with fail
    refine (HC.out _).mono ?_
    rintro e w2 ⟨rfl, rfl⟩
    go_wp2_with (first | (refine wpl_putT 41 rfl _ _ rfl (w.heap.size + 1 + 1) _ rfl rfl P1.out.2.2.1 rfl rfl rfl ?_; intro W5 hw5 R5; have B5 : Hid (Below w.heap.size w W5) := (by rw [hw5]; exact below_cells (by omega) _ _ _ P1.out.2.2.2); clear hw5) | fail)
    refine bodyPost_ret (v := .tuple #[.agg #[.slice none 0 0, .slice none 0 0, .slice none 0 0, .slice none 0 0, .int .i64 0], .int .i64 4]) (results_cell2 Tryz.results8 (w.heap.size + 1 + 1) rfl rfl R5 _ Tryz.underlying41 rfl rfl) rfl ?_
    exact ⟨zeroHA, rfl, OwnHu.zero _ _, B5.out⟩
  replace hc : 0 ≤ n ∧ n ≤ 1000000 := Classical.not_not.1 hc
  have hd : dec (0 ≤ n ∧ n ≤ 1000000) = true := dec_y hc
  rw [hd] at HC ⊢
  rw [if_pos rfl, if_pos rfl, if_pos rfl]
  clear hd
  by_cases hk0 : ixI (siP q) h.ss < 0
  · rw [if_pos hk0, if_pos hk0]
    have hkn : decide (ixI (siP q) h.ss < 0) = true := decide_eq_true hk0
    clear hk0
    generalize ixI (siP q) h.ss = kk at HP hkn
    go_enter Tryz.func8, Tryz.ntmps8
    go_wp2_with (first | (refine wpl_getT 48 rfl _ rfl (w.heap.size) rfl P0.out.1 _ Tryz.underlying48 rfl rfl ?_) | (refine wpl_getT 41 rfl _ rfl (w.heap.size + 1) rfl P0.out.2.1 _ Tryz.underlying41 rfl rfl ?_) | fail)
    refine (HA.out _ P0.out.2.2.2).mono ?_
    rintro e w1 ⟨rfl, bx⟩
    have P1 : Hid (Bx w1 w.heap.size [.int .i64 c.ip, .int .i64 c.b, .int .i64 c.gt, .string c.gm, .string c.wm, .int .i64 c.rs, .slice C.x c.ps.length C.xc, .slice C.y c.ros.length C.yc] ∧ Bx w1 (w.heap.size + 1) [.slice A.u h.us.length A.uc, .slice A.s h.ss.length A.sc, .slice A.f h.fs.length A.fc, .slice A.r h.es.length A.rc, .int .i64 h.nx] ∧ Bx w1 (w.heap.size + 1 + 1) [.slice none 0 0, .slice none 0 0, .slice none 0 0, .slice none 0 0, .int .i64 0] ∧ Below w.heap.size w w1) := ⟨P0.out.1.below bx, P0.out.2.1.below bx, P0.out.2.2.1.below bx, P0.out.2.2.2.trans (bx.mono P0.out.2.2.2.size)⟩
    clear bx P0 HA
    go_wp2_with fail
    refine (HC.out _).mono ?_
    rintro e w2 ⟨rfl, rfl⟩
    go_wp2_with (first | (refine wpl_getT 41 rfl _ rfl (w.heap.size + 1) rfl P1.out.2.1 _ Tryz.underlying41 rfl rfl ?_) | fail)
    refine (HP.out _ P1.out.2.2.2).mono ?_
    rintro e w3 ⟨rfl, bx⟩
    have P3 : Hid (Bx w3 w.heap.size [.int .i64 c.ip, .int .i64 c.b, .int .i64 c.gt, .string c.gm, .string c.wm, .int .i64 c.rs, .slice C.x c.ps.length C.xc, .slice C.y c.ros.length C.yc] ∧ Bx w3 (w.heap.size + 1) [.slice A.u h.us.length A.uc, .slice A.s h.ss.length A.sc, .slice A.f h.fs.length A.fc, .slice A.r h.es.length A.rc, .int .i64 h.nx] ∧ Bx w3 (w.heap.size + 1 + 1) [.slice none 0 0, .slice none 0 0, .slice none 0 0, .slice none 0 0, .int .i64 0] ∧ Below w.heap.size w w3) := ⟨P1.out.1.below bx, P1.out.2.1.below bx, P1.out.2.2.1.below bx, P1.out.2.2.2.trans (bx.mono P1.out.2.2.2.size)⟩
    clear bx P1 HP
    go_wp2_with (first | (refine wpl_getT 41 rfl _ rfl (w.heap.size + 1) rfl P3.out.2.1 _ Tryz.underlying41 rfl rfl ?_) | fail)
    refine (HO.out _ P3.out.2.2.2).mono ?_
    rintro e w4 ⟨R, rfl, o4, bx⟩
    have O4 : Hid (OwnHu w4 w3.heap.size R h) := o4
    have P4 : Hid (Bx w4 (w.heap.size + 1 + 1) [.slice none 0 0, .slice none 0 0, .slice none 0 0, .slice none 0 0, .int .i64 0] ∧ Below w.heap.size w w4 ∧ w.heap.size + 1 + 1 < w3.heap.size) := ⟨P3.out.2.2.1.below bx, P3.out.2.2.2.trans (bx.mono P3.out.2.2.2.size), World.block_lt_of_cell? w3 ⟨w.heap.size + 1 + 1, 0, none⟩ (P3.out.2.2.1.cell 0 rfl)⟩
    clear o4 bx P3
    go_wp2_with (first | (refine wpl_putT 41 rfl _ _ rfl (w.heap.size + 1 + 1) _ rfl rfl P4.out.1 rfl rfl rfl ?_; intro W5 hw5 R5; have B5 : Hid (Below w.heap.size w W5) := (by rw [hw5]; exact below_cells (by omega) _ _ _ P4.out.2.1); have O5 : Hid (OwnHu W5 w.heap.size R h) := (by rw [hw5]; exact Own4.lower (OwnHu.keep O4.out (fun b hb => (heap_cellsA _ _ _).2 b (by have := (O4.out.lt b hb).1; have := P4.out.2.2; omega))) (by have := P4.out.2.2; omega)); clear hw5) | fail)
    refine bodyPost_ret (v := .tuple #[.agg #[.slice R.u h.us.length R.uc, .slice R.s h.ss.length R.sc, .slice R.f h.fs.length R.fc, .slice R.r h.es.length R.rc, .int .i64 h.nx], .int .i64 5]) (results_cell2 Tryz.results8 (w.heap.size + 1 + 1) rfl rfl R5 _ Tryz.underlying41 rfl rfl) rfl ?_
    exact ⟨R, rfl, O5.out, B5.out⟩
  obtain ⟨k, x, hkk, hx, hxi, hsp⟩ := ixI_split hk0
  rw [if_neg hk0, if_neg hk0]
  rw [hkk] at hk0 HP ⊢
  obtain ⟨u, hu, ⟨b1, b2⟩, b3, b4, b5, b6⟩ := okG_ch hk hx
  rw [show ((k : Int)).toNat = k by simp, (chA_at hx hu).1, (chA_at (now := now) hx hu).2]
  have hkl := (List.getElem?_eq_some_iff.1 hx).1
  have hkn : decide ((k : Int) < 0) = false := decide_eq_false hk0
  obtain ⟨id, us_, mc, ip, be, la, ud, qu, un, il⟩ := x
  obtain ⟨nm, sa, ha, ro, bl, lg⟩ := u
  dsimp only at hu b1 b2 b3 b4 b5 b6 hxi
  obtain ⟨m, hm⟩ : ∃ m : Nat, us_ = (m : Int) := ⟨us_.toNat, by omega⟩
  subst hm
  rw [show ((m : Int)).toNat = m by simp] at hu b2
  clear b1
  have HE : Hid (∀ wx, Below w.heap.size w wx → Calls Tryz.prog 34 #[.agg #[.slice A.u h.us.length A.uc, .slice A.s h.ss.length A.sc, .slice A.f h.fs.length A.fc, .slice A.r h.es.length A.rc, .int .i64 h.nx], .int .i64 (k : Int), .int .i64 n, .int .i64 now] wx fun e w' => ∃ A' : HuA, e = .returned (.tuple #[.agg #[.slice A'.u (chX now n h k ⟨id, (m : Int), mc, ip, be, la, ud, qu, un, il⟩ ⟨nm, sa, ha, ro, bl, lg⟩).us.length A'.uc, .slice A'.s (chX now n h k ⟨id, (m : Int), mc, ip, be, la, ud, qu, un, il⟩ ⟨nm, sa, ha, ro, bl, lg⟩).ss.length A'.sc, .slice A'.f (chX now n h k ⟨id, (m : Int), mc, ip, be, la, ud, qu, un, il⟩ ⟨nm, sa, ha, ro, bl, lg⟩).fs.length A'.fc, .slice A'.r (chX now n h k ⟨id, (m : Int), mc, ip, be, la, ud, qu, un, il⟩ ⟨nm, sa, ha, ro, bl, lg⟩).es.length A'.rc, .int .i64 (chX now n h k ⟨id, (m : Int), mc, ip, be, la, ud, qu, un, il⟩ ⟨nm, sa, ha, ro, bl, lg⟩).nx], .int .i64 (chY n ⟨id, (m : Int), mc, ip, be, la, ud, qu, un, il⟩ ⟨nm, sa, ha, ro, bl, lg⟩)]) ∧ HuS w' A' (chX now n h k ⟨id, (m : Int), mc, ip, be, la, ud, qu, un, il⟩ ⟨nm, sa, ha, ro, bl, lg⟩) ∧ Below wx.heap.size wx w') := fun wx hb => l08Charge_any A h k id m mc ip be la ud qu un il nm sa ha ro bl lg n now wx (hs.below hb) HK.out hx hsp hu b2 b3 b4 b5 b6 hn hc
  clear hsp hx hxi hkk hk hn hc hkl hk0 hu b2 b3 b4 b5 b6 HO
  generalize (chX now n h k ⟨id, (m : Int), mc, ip, be, la, ud, qu, un, il⟩ ⟨nm, sa, ha, ro, bl, lg⟩) = GG at HE ⊢
  generalize (chY n ⟨id, (m : Int), mc, ip, be, la, ud, qu, un, il⟩ ⟨nm, sa, ha, ro, bl, lg⟩) = kk at HE ⊢
  go_enter Tryz.func8, Tryz.ntmps8
  go_wp2_with (first | (refine wpl_getT 48 rfl _ rfl (w.heap.size) rfl P0.out.1 _ Tryz.underlying48 rfl rfl ?_) | (refine wpl_getT 41 rfl _ rfl (w.heap.size + 1) rfl P0.out.2.1 _ Tryz.underlying41 rfl rfl ?_) | fail)
  refine (HA.out _ P0.out.2.2.2).mono ?_
  rintro e w1 ⟨rfl, bx⟩
  have P1 : Hid (Bx w1 w.heap.size [.int .i64 c.ip, .int .i64 c.b, .int .i64 c.gt, .string c.gm, .string c.wm, .int .i64 c.rs, .slice C.x c.ps.length C.xc, .slice C.y c.ros.length C.yc] ∧ Bx w1 (w.heap.size + 1) [.slice A.u h.us.length A.uc, .slice A.s h.ss.length A.sc, .slice A.f h.fs.length A.fc, .slice A.r h.es.length A.rc, .int .i64 h.nx] ∧ Bx w1 (w.heap.size + 1 + 1) [.slice none 0 0, .slice none 0 0, .slice none 0 0, .slice none 0 0, .int .i64 0] ∧ Below w.heap.size w w1) := ⟨P0.out.1.below bx, P0.out.2.1.below bx, P0.out.2.2.1.below bx, P0.out.2.2.2.trans (bx.mono P0.out.2.2.2.size)⟩
  clear bx P0 HA
  go_wp2_with fail
  refine (HC.out _).mono ?_
  rintro e w2 ⟨rfl, rfl⟩
  go_wp2_with (first | (refine wpl_getT 41 rfl _ rfl (w.heap.size + 1) rfl P1.out.2.1 _ Tryz.underlying41 rfl rfl ?_) | fail)
  refine (HP.out _ P1.out.2.2.2).mono ?_
  rintro e w3 ⟨rfl, bx⟩
  have P3 : Hid (Bx w3 w.heap.size [.int .i64 c.ip, .int .i64 c.b, .int .i64 c.gt, .string c.gm, .string c.wm, .int .i64 c.rs, .slice C.x c.ps.length C.xc, .slice C.y c.ros.length C.yc] ∧ Bx w3 (w.heap.size + 1) [.slice A.u h.us.length A.uc, .slice A.s h.ss.length A.sc, .slice A.f h.fs.length A.fc, .slice A.r h.es.length A.rc, .int .i64 h.nx] ∧ Bx w3 (w.heap.size + 1 + 1) [.slice none 0 0, .slice none 0 0, .slice none 0 0, .slice none 0 0, .int .i64 0] ∧ Below w.heap.size w w3) := ⟨P1.out.1.below bx, P1.out.2.1.below bx, P1.out.2.2.1.below bx, P1.out.2.2.2.trans (bx.mono P1.out.2.2.2.size)⟩
  clear bx P1 HP
  go_wp2_with (first | (refine wpl_getT 41 rfl _ rfl (w.heap.size + 1) rfl P3.out.2.1 _ Tryz.underlying41 rfl rfl ?_) | fail)
  refine (HE.out _ P3.out.2.2.2).mono ?_
  rintro e w4 ⟨A4, rfl, s4, bx⟩
  have S4 : Hid (HuS w4 A4 GG) := s4
  have P4 : Hid (Bx w4 (w.heap.size + 1 + 1) [.slice none 0 0, .slice none 0 0, .slice none 0 0, .slice none 0 0, .int .i64 0] ∧ Below w.heap.size w w4 ∧ w.heap.size + 1 + 1 < w4.heap.size) := ⟨P3.out.2.2.1.below bx, P3.out.2.2.2.trans (bx.mono P3.out.2.2.2.size), World.block_lt_of_cell? w4 ⟨w.heap.size + 1 + 1, 0, none⟩ ((P3.out.2.2.1.below bx).cell 0 rfl)⟩
  clear s4 bx P3 HE
  have HW : Hid (∀ wx, HuS wx A4 GG → Calls Tryz.prog 33 #[.agg #[.slice A4.u GG.us.length A4.uc, .slice A4.s GG.ss.length A4.sc, .slice A4.f GG.fs.length A4.fc, .slice A4.r GG.es.length A4.rc, .int .i64 GG.nx]] wx fun e w' => ∃ R : HuA, e = .returned (.agg #[.slice R.u GG.us.length R.uc, .slice R.s GG.ss.length R.sc, .slice R.f GG.fs.length R.fc, .slice R.r GG.es.length R.rc, .int .i64 GG.nx]) ∧ OwnHu w' wx.heap.size R GG ∧ Below wx.heap.size wx w') := fun wx o => spec_own A4 GG wx o
  go_wp2_with fail
  refine (HW.out _ (S4.out.below ((Below.refl _ _).alloc (Nat.le_refl _) _))).mono ?_
  rintro e w5 ⟨R, rfl, o4, bx⟩
  have hsz : (w4.alloc (.cells #[.slice A4.u GG.us.length A4.uc, .slice A4.s GG.ss.length A4.sc, .slice A4.f GG.fs.length A4.fc, .slice A4.r GG.es.length A4.rc, .int .i64 GG.nx] 41)).heap.size = w4.heap.size + 1 := by simp
  rw [hsz] at o4
  have O4 : Hid (OwnHu w5 (w4.heap.size + 1) R GG) := o4
  have BA : Below w4.heap.size w4 (w4.alloc (.cells #[.slice A4.u GG.us.length A4.uc, .slice A4.s GG.ss.length A4.sc, .slice A4.f GG.fs.length A4.fc, .slice A4.r GG.es.length A4.rc, .int .i64 GG.nx] 41)) := (Below.refl _ _).alloc (Nat.le_refl _) _
  have Q4 : Hid (Bx w5 (w.heap.size + 1 + 1) [.slice none 0 0, .slice none 0 0, .slice none 0 0, .slice none 0 0, .int .i64 0] ∧ Below w.heap.size w w5 ∧ w.heap.size + 1 + 1 < w4.heap.size + 1) := ⟨(P4.out.1.below BA).below bx, (P4.out.2.1.trans (BA.mono P4.out.2.1.size)).trans (bx.mono (Nat.le_trans P4.out.2.1.size BA.size)), by have := P4.out.2.2; omega⟩
  clear o4 bx P4 HW S4 BA hsz
  go_wp2_with (first | (refine wpl_putT 41 rfl _ _ rfl (w.heap.size + 1 + 1) _ rfl rfl Q4.out.1 rfl rfl rfl ?_; intro W5 hw5 R5; have B5 : Hid (Below w.heap.size w W5) := (by rw [hw5]; exact below_cells (by omega) _ _ _ Q4.out.2.1); have O5 : Hid (OwnHu W5 w.heap.size R GG) := (by rw [hw5]; exact Own4.lower (OwnHu.keep O4.out (fun b hb => (heap_cellsA _ _ _).2 b (by have := (O4.out.lt b hb).1; have := Q4.out.2.2; omega))) (by have := Q4.out.2.2; omega)); clear hw5) | fail)
  refine bodyPost_ret (v := .tuple #[.agg #[.slice R.u GG.us.length R.uc, .slice R.s GG.ss.length R.sc, .slice R.f GG.fs.length R.fc, .slice R.r GG.es.length R.rc, .int .i64 GG.nx], .int .i64 kk]) (results_cell2 Tryz.results8 (w.heap.size + 1 + 1) rfl rfl R5 _ Tryz.underlying41 rfl rfl) rfl ?_
  exact ⟨R, rfl, O5.out, B5.out⟩
end Go.Proofs.YtmeejholckelgaaGreat

namespace Go.Proofs.YtmeejholckelgaaGreat
open Go.RowKit Go.PlainAid Go.Proofs.YtmeejholckelgaaGreat.Bt Go.Sort
set_option linter.unusedVariables false
set_option maxRecDepth 20000
set_option maxHeartbeats 2000000 in
theorem idxSess_any (y : Option Addr) (n c : Nat) (xs : List SessV) (p : SessV → Bool) (B0 : Nat) (w : World) (h : Rw SeR 10 w y xs) (hl : xs.length = n) (hn : n ≤ 9223372036854775807)
    (hp : ∀ z, z ∈ xs → ∀ W, Below w.heap.size w W → Calls Tryz.prog 85 #[.agg #[.int .i64 z.id, .int .i64 z.us, .string z.mc, .int .i64 z.ip, .int .i64 z.be, .int .i64 z.la, .int .i64 z.ud, .int .i64 z.qu, .int .i64 z.un, .int .i64 z.il], .pointer (some ⟨B0, 0, none⟩)] W fun e w' => e = .returned (.bool (p z)) ∧ Grw W w') :
    Calls Tryz.prog 84 #[.slice y n c, .func (.func 85) #[] #[.pointer (some ⟨B0, 0, none⟩)]] w fun e w' => e = .returned (.int .i64 (ixI p xs)) ∧ Grw w w' := by
  have RY : Hid (Rw SeR 10 w y xs) := h
  have HP0 : Hid (∀ z, z ∈ xs → ∀ W, Below w.heap.size w W → Calls Tryz.prog 85 #[.agg #[.int .i64 z.id, .int .i64 z.us, .string z.mc, .int .i64 z.ip, .int .i64 z.be, .int .i64 z.la, .int .i64 z.ud, .int .i64 z.qu, .int .i64 z.un, .int .i64 z.il], .pointer (some ⟨B0, 0, none⟩)] W fun e w' => e = .returned (.bool (p z)) ∧ Grw W w') := hp
  clear h hp
  have eg : ∀ args w, (callFunc 85 args).run Tryz.prog w = .ok (.enter 85 args) w := enters_of Tryz.func85 (by kernel_rfl) rfl
  go_enter Tryz.func84, Tryz.ntmps84
  go_wp2
  go_loopw [8] (fun u wr => ∃ k : Nat, k ≤ n ∧ u = .int .i64 k ∧ Hid ((xs.take k).find? p = none) ∧ Hid (Grw w wr)) (fun u _ => n - (intOf u).toNat)
  case atStart => exact ⟨0, Nat.zero_le _, rfl, rfl, Grw.refl _⟩
  case round =>
    obtain ⟨k, hk, rfl, HO, HG⟩ := hrel
    by_cases hlt : k < n
    · obtain ⟨z, hx⟩ := at_of hl hlt
      obtain ⟨bk, off, vs, rfl, hb, hvl, hR, hc⟩ := RY.out.at SeR.kp HG.out.below hx
      have HY : Hid (p z = true → ixI p xs = k) := fun h => ixI_at hx HO.out h
      have HN : Hid (p z = false → (xs.take (k + 1)).find? p = none) := fun h => ixI_no hx HO.out h
      obtain ⟨rfl, -⟩ := hR
      have q0 : wr.cell? ⟨bk, off + k * 10, none⟩ = some (.int .i64 z.id) := hc 0 _ rfl
      have q1 : wr.cell? ⟨bk, off + k * 10 + 1, none⟩ = some (.int .i64 z.us) := hc 1 _ rfl
      have q2 : wr.cell? ⟨bk, off + k * 10 + 2, none⟩ = some (.string z.mc) := hc 2 _ rfl
      have q3 : wr.cell? ⟨bk, off + k * 10 + 3, none⟩ = some (.int .i64 z.ip) := hc 3 _ rfl
      have q4 : wr.cell? ⟨bk, off + k * 10 + 4, none⟩ = some (.int .i64 z.be) := hc 4 _ rfl
      have q5 : wr.cell? ⟨bk, off + k * 10 + 5, none⟩ = some (.int .i64 z.la) := hc 5 _ rfl
      have q6 : wr.cell? ⟨bk, off + k * 10 + 6, none⟩ = some (.int .i64 z.ud) := hc 6 _ rfl
      have q7 : wr.cell? ⟨bk, off + k * 10 + 7, none⟩ = some (.int .i64 z.qu) := hc 7 _ rfl
      have q8 : wr.cell? ⟨bk, off + k * 10 + 8, none⟩ = some (.int .i64 z.un) := hc 8 _ rfl
      have q9 : wr.cell? ⟨bk, off + k * 10 + 9, none⟩ = some (.int .i64 z.il) := hc 9 _ rfl
      have hltz : (k : Int) < (n : Int) := by omega
      have HP : Hid (∀ W, Grw w W → Calls Tryz.prog 85 #[.agg #[.int .i64 z.id, .int .i64 z.us, .string z.mc, .int .i64 z.ip, .int .i64 z.be, .int .i64 z.la, .int .i64 z.ud, .int .i64 z.qu, .int .i64 z.un, .int .i64 z.il], .pointer (some ⟨B0, 0, none⟩)] W fun e w' => e = .returned (.bool (p z)) ∧ Grw W w') := fun W g => HP0.out z (List.mem_of_getElem? hx) W g.below
      generalize p z = u at HY HN HP
      clear hc hvl hx
      cases u with
      | false =>
        have HN' : Hid ((xs.take (k + 1)).find? p = none) := HN.out rfl
        clear HY HN
        go_wp2_with (go_at_fn 85; refine (HP.out _ HG.out).mono ?_; rintro e w' ⟨rfl, g1⟩)
        have HG1 : Hid (Grw w _) := HG.out.trans g1
        clear g1 HG
        go_roundw
        case rel => exact ⟨k + 1, by omega, by go_num, HN', HG1⟩
        case measure => simp [intOf]; omega
      | true =>
        have HY' : Hid (ixI p xs = k) := HY.out rfl
        clear HY HN
        go_wp2_with (go_at_fn 85; refine (HP.out _ HG.out).mono ?_; rintro e w' ⟨rfl, g1⟩)
        go_ret
        exact ⟨by rw [HY'.out]; rfl, HG.out.trans g1⟩
    · obtain rfl : k = n := by omega
      have hd : Hid (ixI p xs = -1) := ixI_end hl HO.out
      go_wp2
      go_ret
      exact ⟨by rw [hd.out]; rfl, HG.out⟩

theorem sessPlace1_any (z : SessV) (q : Int) (B : Nat) (w : World) (hc : w.cell? ⟨B, 0, none⟩ = some (.int .i64 q)) :
    Calls Tryz.prog 85 #[.agg #[.int .i64 z.id, .int .i64 z.us, .string z.mc, .int .i64 z.ip, .int .i64 z.be, .int .i64 z.la, .int .i64 z.ud, .int .i64 z.qu, .int .i64 z.un, .int .i64 z.il], .pointer (some ⟨B, 0, none⟩)] w fun e w' => e = .returned (.bool (siP q z)) ∧ Grw w w' := by
  have hc2 := acell hc (.cells #[.int .i64 z.id, .int .i64 z.us, .string z.mc, .int .i64 z.ip, .int .i64 z.be, .int .i64 z.la, .int .i64 z.ud, .int .i64 z.qu, .int .i64 z.un, .int .i64 z.il] 84)
  unfold siP
  obtain ⟨u, hu⟩ : ∃ u, (z.id == q) = u := ⟨_, rfl⟩
  rw [hu]
  go_enter Tryz.func85, Tryz.ntmps85
  go_wp2
  go_ret
  exact ⟨by first | rfl | (rw [hu]; rfl), (Grw.refl _).alloc _⟩
set_option maxHeartbeats 1000000 in
theorem sessPlace_any (a : Option Addr) (n c : Nat) (ss : List SessV) (q : Int) (w : World) (h : Rw SeR 10 w a ss) (hl : ss.length = n) (hn : n ≤ 9223372036854775807) :
    Calls Tryz.prog 44 #[.slice a n c, .int .i64 q] w fun e w' => e = .returned (.int .i64 (ixI (siP q) ss)) ∧ Grw w w' := by
  have HX : Hid (∀ W B, Grw w W → W.cell? ⟨B, 0, none⟩ = some (.int .i64 q) → Calls Tryz.prog 84 #[.slice a n c, .func (.func 85) #[] #[.pointer (some ⟨B, 0, none⟩)]] W fun e w' => e = .returned (.int .i64 (ixI (siP q) ss)) ∧ Grw W w') := fun W B g hc => idxSess_any a n c ss (siP q) B W (h.keep SeR.kp g.below) hl hn (fun z _ W2 b2 => sessPlace1_any z q B W2 (bkeep b2 hc))
  clear h
  generalize ixI (siP q) ss = r at HX ⊢
  go_enter Tryz.func44, Tryz.ntmps44
  go_wp2_with (go_at_call 84; refine (HX.out _ _ ((Grw.refl w).alloc _) (by simp [go_sem])).mono ?_; rintro e w' ⟨rfl, g1⟩)
  go_ret
  exact ⟨rfl, ((Grw.refl w).alloc _).trans g1⟩
end Go.Proofs.YtmeejholckelgaaGreat

namespace Go.Proofs.YtmeejholckelgaaGreat
open Go.RowKit Go.PlainAid Go.Proofs.YtmeejholckelgaaGreat.Bt Go.Sort
set_option linter.unusedVariables false
set_option maxRecDepth 20000

theorem endOne1_any (id us_ : Int) (mc : ByteArray) (ip be la ud qu un il q ca : Int) (B0 B1 : Nat) (w : World) (h0 : w.cell? ⟨B0, 0, none⟩ = some (.int .i64 q)) (h1 : w.cell? ⟨B1, 0, none⟩ = some (.int .i64 ca)) :
    Calls Tryz.prog 90 #[.agg #[.int .i64 id, .int .i64 us_, .string mc, .int .i64 ip, .int .i64 be, .int .i64 la, .int .i64 ud, .int .i64 qu, .int .i64 un, .int .i64 il], .pointer (some ⟨B0, 0, none⟩), .pointer (some ⟨B1, 0, none⟩)] w fun e w' => e = .returned (.int .i64 (csO q ca ⟨id, us_, mc, ip, be, la, ud, qu, un, il⟩)) ∧ Grw w w' := by
  have k0 := acell h0 (.cells #[.int .i64 id, .int .i64 us_, .string mc, .int .i64 ip, .int .i64 be, .int .i64 la, .int .i64 ud, .int .i64 qu, .int .i64 un, .int .i64 il] 84)
  have k1 := acell h1 (.cells #[.int .i64 id, .int .i64 us_, .string mc, .int .i64 ip, .int .i64 be, .int .i64 la, .int .i64 ud, .int .i64 qu, .int .i64 un, .int .i64 il] 84)
  unfold csO
  dsimp only
  cases hu : (id == q) with
  | true =>
    rw [if_pos rfl]
    go_enter Tryz.func90, Tryz.ntmps90
    go_wp2
    go_ret
    exact ⟨rfl, (Grw.refl _).alloc _⟩
  | false =>
    rw [if_neg (by simp)]
    go_enter Tryz.func90, Tryz.ntmps90
    go_wp2
    go_ret
    exact ⟨rfl, (Grw.refl _).alloc _⟩
set_option maxHeartbeats 4000000 in
theorem endOne_any (A : HuA) (h G : HuV) (q now ca : Int) (w : World) (hs : HuS w A h) (hG : G = { h with ss := esS (csO q ca) h.ss h.ss.length, es := esR (csO q ca) now h.es h.ss h.ss.length }) :
    Calls Tryz.prog 46 #[.agg #[.slice A.u h.us.length A.uc, .slice A.s h.ss.length A.sc, .slice A.f h.fs.length A.fc, .slice A.r h.es.length A.rc, .int .i64 h.nx], .int .i64 q, .int .i64 now, .int .i64 ca] w fun e w' => ∃ R : HuA, e = .returned (.agg #[.slice R.u G.us.length R.uc, .slice R.s G.ss.length R.sc, .slice R.f G.fs.length R.fc, .slice R.r G.es.length R.rc, .int .i64 G.nx]) ∧ OwnHu w' w.heap.size R G ∧ Below w.heap.size w w' := by
  have P0 : Hid (Bx ((((w.alloc (.cells #[.slice A.u h.us.length A.uc, .slice A.s h.ss.length A.sc, .slice A.f h.fs.length A.fc, .slice A.r h.es.length A.rc, .int .i64 h.nx] 41)).alloc (.cells #[.int .i64 q] 3)).alloc (.cells #[.int .i64 ca] 3)).alloc (.cells #[.slice none 0 0, .slice none 0 0, .slice none 0 0, .slice none 0 0, .int .i64 0] 41)) w.heap.size [.slice A.u h.us.length A.uc, .slice A.s h.ss.length A.sc, .slice A.f h.fs.length A.fc, .slice A.r h.es.length A.rc, .int .i64 h.nx] ∧ ((((w.alloc (.cells #[.slice A.u h.us.length A.uc, .slice A.s h.ss.length A.sc, .slice A.f h.fs.length A.fc, .slice A.r h.es.length A.rc, .int .i64 h.nx] 41)).alloc (.cells #[.int .i64 q] 3)).alloc (.cells #[.int .i64 ca] 3)).alloc (.cells #[.slice none 0 0, .slice none 0 0, .slice none 0 0, .slice none 0 0, .int .i64 0] 41)).cell? ⟨w.heap.size + 1, 0, none⟩ = some (.int .i64 q) ∧ ((((w.alloc (.cells #[.slice A.u h.us.length A.uc, .slice A.s h.ss.length A.sc, .slice A.f h.fs.length A.fc, .slice A.r h.es.length A.rc, .int .i64 h.nx] 41)).alloc (.cells #[.int .i64 q] 3)).alloc (.cells #[.int .i64 ca] 3)).alloc (.cells #[.slice none 0 0, .slice none 0 0, .slice none 0 0, .slice none 0 0, .int .i64 0] 41)).cell? ⟨w.heap.size + 1 + 1, 0, none⟩ = some (.int .i64 ca) ∧ Bx ((((w.alloc (.cells #[.slice A.u h.us.length A.uc, .slice A.s h.ss.length A.sc, .slice A.f h.fs.length A.fc, .slice A.r h.es.length A.rc, .int .i64 h.nx] 41)).alloc (.cells #[.int .i64 q] 3)).alloc (.cells #[.int .i64 ca] 3)).alloc (.cells #[.slice none 0 0, .slice none 0 0, .slice none 0 0, .slice none 0 0, .int .i64 0] 41)) (w.heap.size + 1 + 1 + 1) [.slice none 0 0, .slice none 0 0, .slice none 0 0, .slice none 0 0, .int .i64 0] ∧ Below w.heap.size w ((((w.alloc (.cells #[.slice A.u h.us.length A.uc, .slice A.s h.ss.length A.sc, .slice A.f h.fs.length A.fc, .slice A.r h.es.length A.rc, .int .i64 h.nx] 41)).alloc (.cells #[.int .i64 q] 3)).alloc (.cells #[.int .i64 ca] 3)).alloc (.cells #[.slice none 0 0, .slice none 0 0, .slice none 0 0, .slice none 0 0, .int .i64 0] 41))) := by
    refine ⟨(((Bx.new w #[.slice A.u h.us.length A.uc, .slice A.s h.ss.length A.sc, .slice A.f h.fs.length A.fc, .slice A.r h.es.length A.rc, .int .i64 h.nx] 41).below ((Below.refl _ _).alloc (Nat.le_refl _) _)).below ((Below.refl _ _).alloc (Nat.le_refl _) _)).below ((Below.refl _ _).alloc (Nat.le_refl _) _), by simp [go_sem], by simp [go_sem], ?_, (((((Below.refl _ _).alloc (Nat.le_refl _) _).alloc (by simp) _).alloc (by simp; omega) _).alloc (by simp; omega) _)⟩
    have h := Bx.new (((w.alloc (.cells #[.slice A.u h.us.length A.uc, .slice A.s h.ss.length A.sc, .slice A.f h.fs.length A.fc, .slice A.r h.es.length A.rc, .int .i64 h.nx] 41)).alloc (.cells #[.int .i64 q] 3)).alloc (.cells #[.int .i64 ca] 3)) #[.slice none 0 0, .slice none 0 0, .slice none 0 0, .slice none 0 0, .int .i64 0] 41
    rw [World.size_alloc, World.size_alloc, World.size_alloc] at h
    exact h
  have eg : ∀ args w, (callFunc 90 args).run Tryz.prog w = .ok (.enter 90 args) w := enters_of Tryz.func90 (by kernel_rfl) rfl
  have HE : Hid (∀ W, Below w.heap.size w W → W.cell? ⟨w.heap.size + 1, 0, none⟩ = some (.int .i64 q) → W.cell? ⟨w.heap.size + 1 + 1, 0, none⟩ = some (.int .i64 ca) → Calls Tryz.prog 65 #[.agg #[.slice A.u h.us.length A.uc, .slice A.s h.ss.length A.sc, .slice A.f h.fs.length A.fc, .slice A.r h.es.length A.rc, .int .i64 h.nx], .int .i64 now, .func (.func 90) #[] #[.pointer (some ⟨w.heap.size + 1, 0, none⟩), .pointer (some ⟨w.heap.size + 1 + 1, 0, none⟩)]] W fun e w' => ∃ (R : HuA) (vi : Value), e = .returned (.tuple #[.agg #[.slice R.u G.us.length R.uc, .slice R.s G.ss.length R.sc, .slice R.f G.fs.length R.fc, .slice R.r G.es.length R.rc, .int .i64 G.nx], vi]) ∧ OwnHu w' W.heap.size R G ∧ Below W.heap.size W w') := by
    intro W hb h0 h1
    have s' := hs.below hb
    refine (endSessions_2 A.u A.s A.f A.r h.us.length A.uc h.ss.length A.sc h.fs.length A.fc h.es.length A.rc h.us h.ss h.fs h.es h.nx now 90 _ _ (csO q ca) W s'.us s'.ss s'.fs s'.es eg (fun id us_ mc ip be la ud qu un il W2 b2 => endOne1_any id us_ mc ip be la ud qu un il q ca _ _ W2 (bkeep b2 h0) (bkeep b2 h1))).mono ?_
    rintro e w' ⟨vu, vs, vf, vr, vi, h1, h2, h3, h4⟩
    subst hG
    obtain ⟨R, rfl, rfl, rfl, rfl, h5⟩ := hu_of4 (h := { h with ss := esS (csO q ca) h.ss h.ss.length, es := esR (csO q ca) now h.es h.ss h.ss.length }) h2
    exact ⟨R, vi, h1, h5, h4⟩
  clear hs hG eg
  go_enter Tryz.func46, Tryz.ntmps46
  go_wp2_with (first | (refine wpl_getT 41 rfl _ rfl (w.heap.size) rfl P0.out.1 _ Tryz.underlying41 rfl rfl ?_) | fail)
  refine (HE.out _ P0.out.2.2.2.2 P0.out.2.1 P0.out.2.2.1).mono ?_
  rintro e w1 ⟨R, vi, rfl, o1, bx⟩
  have hsz : ((((w.alloc (.cells #[.slice A.u h.us.length A.uc, .slice A.s h.ss.length A.sc, .slice A.f h.fs.length A.fc, .slice A.r h.es.length A.rc, .int .i64 h.nx] 41)).alloc (.cells #[.int .i64 q] 3)).alloc (.cells #[.int .i64 ca] 3)).alloc (.cells #[.slice none 0 0, .slice none 0 0, .slice none 0 0, .slice none 0 0, .int .i64 0] 41)).heap.size = w.heap.size + 4 := by simp
  rw [hsz] at o1
  have N1 : Bx (w1.alloc (.cells #[.slice R.u G.us.length R.uc, .slice R.s G.ss.length R.sc, .slice R.f G.fs.length R.fc, .slice R.r G.es.length R.rc, .int .i64 G.nx] 41)) w1.heap.size [.slice R.u G.us.length R.uc, .slice R.s G.ss.length R.sc, .slice R.f G.fs.length R.fc, .slice R.r G.es.length R.rc, .int .i64 G.nx] := Bx.new w1 #[.slice R.u G.us.length R.uc, .slice R.s G.ss.length R.sc, .slice R.f G.fs.length R.fc, .slice R.r G.es.length R.rc, .int .i64 G.nx] 41
  have P1 : Hid (Bx (w1.alloc (.cells #[.slice R.u G.us.length R.uc, .slice R.s G.ss.length R.sc, .slice R.f G.fs.length R.fc, .slice R.r G.es.length R.rc, .int .i64 G.nx] 41)) (w.heap.size + 1 + 1 + 1) [.slice none 0 0, .slice none 0 0, .slice none 0 0, .slice none 0 0, .int .i64 0] ∧ Below w.heap.size w (w1.alloc (.cells #[.slice R.u G.us.length R.uc, .slice R.s G.ss.length R.sc, .slice R.f G.fs.length R.fc, .slice R.r G.es.length R.rc, .int .i64 G.nx] 41))) := ⟨(P0.out.2.2.2.1.below bx).below ((Below.refl _ _).alloc (Nat.le_refl _) _), (P0.out.2.2.2.2.trans (bx.mono P0.out.2.2.2.2.size)).alloc (Nat.le_trans P0.out.2.2.2.2.size bx.size) _⟩
  have O1 : Hid (OwnHu (w1.alloc (.cells #[.slice R.u G.us.length R.uc, .slice R.s G.ss.length R.sc, .slice R.f G.fs.length R.fc, .slice R.r G.es.length R.rc, .int .i64 G.nx] 41)) (w.heap.size + 4) R G) := o1.now ((Below.refl _ _).alloc (Nat.le_refl _) _)
  clear o1 bx P0 HE hsz
  go_wp2_with (first | (refine wpl_getT 41 rfl _ rfl (w1.heap.size) rfl N1 _ Tryz.underlying41 rfl rfl ?_) | (refine wpl_putT 41 rfl _ _ rfl (w.heap.size + 1 + 1 + 1) _ rfl rfl P1.out.1 rfl rfl rfl ?_; intro W5 hw5 R5; have B5 : Hid (Below w.heap.size w W5) := (by rw [hw5]; exact below_cells (by omega) _ _ _ P1.out.2); have O5 : Hid (OwnHu W5 w.heap.size R G) := (by rw [hw5]; exact Own4.lower (OwnHu.keep O1.out (fun b hb => (heap_cellsA _ _ _).2 b (by have := (O1.out.lt b hb).1; omega))) (by omega)); clear hw5) | fail)
  refine bodyPost_ret (v := .agg #[.slice R.u G.us.length R.uc, .slice R.s G.ss.length R.sc, .slice R.f G.fs.length R.fc, .slice R.r G.es.length R.rc, .int .i64 G.nx]) (results_cell Tryz.results46 (w.heap.size + 1 + 1 + 1) rfl R5 _ Tryz.underlying41 rfl rfl) rfl ?_
  exact ⟨R, rfl, O5.out, B5.out⟩
end Go.Proofs.YtmeejholckelgaaGreat

namespace Go.Proofs.YtmeejholckelgaaGreat
open Go.RowKit Go.PlainAid Go.Proofs.YtmeejholckelgaaGreat.Bt Go.Sort
set_option linter.unusedVariables false
set_option maxRecDepth 20000
set_option maxHeartbeats 4000000 in
theorem implCharge_any (C : CfA) (c : CfV) (A : HuA) (h : HuV) (q n now : Int) (w : World) (rc : CfR w C c) (rh : HuR w A h) (hs : HuS w A h) (sc : CfSz c) (sh : HuSz h) :
    Calls Tryz.prog 11 #[.agg #[.int .i64 c.ip, .int .i64 c.b, .int .i64 c.gt, .string c.gm, .string c.wm, .int .i64 c.rs, .slice C.x c.ps.length C.xc, .slice C.y c.ros.length C.yc], .agg #[.slice A.u h.us.length A.uc, .slice A.s h.ss.length A.sc, .slice A.f h.fs.length A.fc, .slice A.r h.es.length A.rc, .int .i64 h.nx], .int .i64 q, .int .i64 n, .int .i64 now] w fun e w' => ∃ R : HuA, e = .returned (.tuple #[.agg #[.slice R.u (chU c h q n now).us.length R.uc, .slice R.s (chU c h q n now).ss.length R.sc, .slice R.f (chU c h q n now).fs.length R.fc, .slice R.r (chU c h q n now).es.length R.rc, .int .i64 (chU c h q n now).nx], .int .i64 (chC c h q n now)]) ∧ OwnHu w' w.heap.size R (chU c h q n now) ∧ Below w.heap.size w w' := by
  have HA : Hid (∀ wx, Below w.heap.size w wx → Calls Tryz.prog 42 #[.agg #[.int .i64 c.ip, .int .i64 c.b, .int .i64 c.gt, .string c.gm, .string c.wm, .int .i64 c.rs, .slice C.x c.ps.length C.xc, .slice C.y c.ros.length C.yc], .agg #[.slice A.u h.us.length A.uc, .slice A.s h.ss.length A.sc, .slice A.f h.fs.length A.fc, .slice A.r h.es.length A.rc, .int .i64 h.nx], .int .i64 now] wx fun e w' => e = .returned (.int .i64 (fauC (okG c h) now)) ∧ Below wx.heap.size wx w') := fun wx hb => impl_fault C c A h now wx (rc.below hb) (rh.below hb) sc sh
  have HC : Hid (∀ wx, Calls Tryz.prog 43 #[.int .i64 n] wx fun e w' => e = .returned (.bool (dec (0 ≤ n ∧ n ≤ 1000000))) ∧ w' = wx) := fun wx => bytesOK_any n wx
  have HP : Hid (∀ wx, Below w.heap.size w wx → Calls Tryz.prog 44 #[.slice A.s h.ss.length A.sc, .int .i64 q] wx fun e w' => e = .returned (.int .i64 (ixI (siP q) h.ss)) ∧ Below wx.heap.size wx w') := fun wx hb => (sessPlace_any A.s h.ss.length A.sc h.ss q wx (rh.below hb).ss rfl (by have := sh.ss; omega)).mono fun e w' h => ⟨h.1, h.2.below⟩
  have HO : Hid (∀ wx, Below w.heap.size w wx → Calls Tryz.prog 45 #[.agg #[.slice A.u h.us.length A.uc, .slice A.s h.ss.length A.sc, .slice A.f h.fs.length A.fc, .slice A.r h.es.length A.rc, .int .i64 h.nx]] wx fun e w' => ∃ R : HuA, e = .returned (.agg #[.slice R.u h.us.length R.uc, .slice R.s h.ss.length R.sc, .slice R.f h.fs.length R.fc, .slice R.r h.es.length R.rc, .int .i64 h.nx]) ∧ OwnHu w' wx.heap.size R h ∧ Below wx.heap.size wx w') := fun wx hb => impl_copy A h wx (hs.below hb)
  have HK : Hid (HuOk h) := rh.ok
  have HL : Hid (HuL h) := sh.hl
  clear rc rh
  have P0 : Hid (Bx (((w.alloc (.cells #[.int .i64 c.ip, .int .i64 c.b, .int .i64 c.gt, .string c.gm, .string c.wm, .int .i64 c.rs, .slice C.x c.ps.length C.xc, .slice C.y c.ros.length C.yc] 48)).alloc (.cells #[.slice A.u h.us.length A.uc, .slice A.s h.ss.length A.sc, .slice A.f h.fs.length A.fc, .slice A.r h.es.length A.rc, .int .i64 h.nx] 41)).alloc (.cells #[.slice none 0 0, .slice none 0 0, .slice none 0 0, .slice none 0 0, .int .i64 0] 41)) w.heap.size [.int .i64 c.ip, .int .i64 c.b, .int .i64 c.gt, .string c.gm, .string c.wm, .int .i64 c.rs, .slice C.x c.ps.length C.xc, .slice C.y c.ros.length C.yc] ∧ Bx (((w.alloc (.cells #[.int .i64 c.ip, .int .i64 c.b, .int .i64 c.gt, .string c.gm, .string c.wm, .int .i64 c.rs, .slice C.x c.ps.length C.xc, .slice C.y c.ros.length C.yc] 48)).alloc (.cells #[.slice A.u h.us.length A.uc, .slice A.s h.ss.length A.sc, .slice A.f h.fs.length A.fc, .slice A.r h.es.length A.rc, .int .i64 h.nx] 41)).alloc (.cells #[.slice none 0 0, .slice none 0 0, .slice none 0 0, .slice none 0 0, .int .i64 0] 41)) (w.heap.size + 1) [.slice A.u h.us.length A.uc, .slice A.s h.ss.length A.sc, .slice A.f h.fs.length A.fc, .slice A.r h.es.length A.rc, .int .i64 h.nx] ∧ Bx (((w.alloc (.cells #[.int .i64 c.ip, .int .i64 c.b, .int .i64 c.gt, .string c.gm, .string c.wm, .int .i64 c.rs, .slice C.x c.ps.length C.xc, .slice C.y c.ros.length C.yc] 48)).alloc (.cells #[.slice A.u h.us.length A.uc, .slice A.s h.ss.length A.sc, .slice A.f h.fs.length A.fc, .slice A.r h.es.length A.rc, .int .i64 h.nx] 41)).alloc (.cells #[.slice none 0 0, .slice none 0 0, .slice none 0 0, .slice none 0 0, .int .i64 0] 41)) (w.heap.size + 1 + 1) [.slice none 0 0, .slice none 0 0, .slice none 0 0, .slice none 0 0, .int .i64 0] ∧ Below w.heap.size w (((w.alloc (.cells #[.int .i64 c.ip, .int .i64 c.b, .int .i64 c.gt, .string c.gm, .string c.wm, .int .i64 c.rs, .slice C.x c.ps.length C.xc, .slice C.y c.ros.length C.yc] 48)).alloc (.cells #[.slice A.u h.us.length A.uc, .slice A.s h.ss.length A.sc, .slice A.f h.fs.length A.fc, .slice A.r h.es.length A.rc, .int .i64 h.nx] 41)).alloc (.cells #[.slice none 0 0, .slice none 0 0, .slice none 0 0, .slice none 0 0, .int .i64 0] 41))) := by
    refine ⟨((Bx.new w #[.int .i64 c.ip, .int .i64 c.b, .int .i64 c.gt, .string c.gm, .string c.wm, .int .i64 c.rs, .slice C.x c.ps.length C.xc, .slice C.y c.ros.length C.yc] 48).below ((Below.refl _ _).alloc (Nat.le_refl _) _)).below ((Below.refl _ _).alloc (Nat.le_refl _) _), ?_, ?_, (((Below.refl _ _).alloc (Nat.le_refl _) _).alloc (by simp) _).alloc (by simp; omega) _⟩
    · have h := Bx.new (w.alloc (.cells #[.int .i64 c.ip, .int .i64 c.b, .int .i64 c.gt, .string c.gm, .string c.wm, .int .i64 c.rs, .slice C.x c.ps.length C.xc, .slice C.y c.ros.length C.yc] 48)) #[.slice A.u h.us.length A.uc, .slice A.s h.ss.length A.sc, .slice A.f h.fs.length A.fc, .slice A.r h.es.length A.rc, .int .i64 h.nx] 41
      rw [World.size_alloc] at h
      exact h.below ((Below.refl _ _).alloc (Nat.le_refl _) _)
    · have h := Bx.new ((w.alloc (.cells #[.int .i64 c.ip, .int .i64 c.b, .int .i64 c.gt, .string c.gm, .string c.wm, .int .i64 c.rs, .slice C.x c.ps.length C.xc, .slice C.y c.ros.length C.yc] 48)).alloc (.cells #[.slice A.u h.us.length A.uc, .slice A.s h.ss.length A.sc, .slice A.f h.fs.length A.fc, .slice A.r h.es.length A.rc, .int .i64 h.nx] 41)) #[.slice none 0 0, .slice none 0 0, .slice none 0 0, .slice none 0 0, .int .i64 0] 41
      rw [World.size_alloc, World.size_alloc] at h
      exact h
  unfold chC chU chF
  have hok : fauC (okG c h) now = 0 → okG c h = true ∧ 0 ≤ now ∧ now ≤ 100000 := fun h => fau_zero h
  generalize fauC (okG c h) now = f at HA hok ⊢
  by_cases hf : ¬ f = 0
  · have hfb : (f != 0) = true := by simp [hf]
    have hz1 : (if f = 0 then (if dec (0 ≤ n ∧ n ≤ 1000000) = true then (0 : Int) else 4) else f) = f := if_neg hf
    rw [hz1, if_neg hf, if_neg hf]
    go_enter Tryz.func11, Tryz.ntmps11
    go_wp2_with (first | (refine wpl_getT 48 rfl _ rfl (w.heap.size) rfl P0.out.1 _ Tryz.underlying48 rfl rfl ?_) | (refine wpl_getT 41 rfl _ rfl (w.heap.size + 1) rfl P0.out.2.1 _ Tryz.underlying41 rfl rfl ?_) | fail)
    refine (HA.out _ P0.out.2.2.2).mono ?_
    rintro e w1 ⟨rfl, bx⟩
    have P1 : Hid (Bx w1 w.heap.size [.int .i64 c.ip, .int .i64 c.b, .int .i64 c.gt, .string c.gm, .string c.wm, .int .i64 c.rs, .slice C.x c.ps.length C.xc, .slice C.y c.ros.length C.yc] ∧ Bx w1 (w.heap.size + 1) [.slice A.u h.us.length A.uc, .slice A.s h.ss.length A.sc, .slice A.f h.fs.length A.fc, .slice A.r h.es.length A.rc, .int .i64 h.nx] ∧ Bx w1 (w.heap.size + 1 + 1) [.slice none 0 0, .slice none 0 0, .slice none 0 0, .slice none 0 0, .int .i64 0] ∧ Below w.heap.size w w1) := ⟨P0.out.1.below bx, P0.out.2.1.below bx, P0.out.2.2.1.below bx, P0.out.2.2.2.trans (bx.mono P0.out.2.2.2.size)⟩
    clear bx P0 HA
    go_wp2_with (first | (refine wpl_putT 41 rfl _ _ rfl (w.heap.size + 1 + 1) _ rfl rfl P1.out.2.2.1 rfl rfl rfl ?_; intro W5 hw5 R5; have B5 : Hid (Below w.heap.size w W5) := (by rw [hw5]; exact below_cells (by omega) _ _ _ P1.out.2.2.2); clear hw5) | fail)
    refine bodyPost_ret (v := .tuple #[.agg #[.slice none 0 0, .slice none 0 0, .slice none 0 0, .slice none 0 0, .int .i64 0], .int .i64 f]) (results_cell2 Tryz.results11 (w.heap.size + 1 + 1) rfl rfl R5 _ Tryz.underlying41 rfl rfl) rfl ?_
    exact ⟨zeroHA, rfl, OwnHu.zero _ _, B5.out⟩
  replace hf : f = 0 := Classical.not_not.1 hf
  obtain ⟨hk, hn⟩ := hok hf
  clear hok
  subst hf
  rw [if_pos rfl]
  by_cases hc : ¬ (0 ≤ n ∧ n ≤ 1000000)
  · have hd : dec (0 ≤ n ∧ n ≤ 1000000) = false := dec_n hc
    rw [hd] at HC ⊢
    simp only [Bool.false_eq_true, if_false]
    rw [if_neg (show ¬ (4 : Int) = 0 by decide), if_neg (show ¬ (4 : Int) = 0 by decide)]
    clear hd
    go_enter Tryz.func11, Tryz.ntmps11
    go_wp2_with (first | (refine wpl_getT 48 rfl _ rfl (w.heap.size) rfl P0.out.1 _ Tryz.underlying48 rfl rfl ?_) | (refine wpl_getT 41 rfl _ rfl (w.heap.size + 1) rfl P0.out.2.1 _ Tryz.underlying41 rfl rfl ?_) | fail)
    refine (HA.out _ P0.out.2.2.2).mono ?_
    rintro e w1 ⟨rfl, bx⟩
    have P1 : Hid (Bx w1 w.heap.size [.int .i64 c.ip, .int .i64 c.b, .int .i64 c.gt, .string c.gm, .string c.wm, .int .i64 c.rs, .slice C.x c.ps.length C.xc, .slice C.y c.ros.length C.yc] ∧ Bx w1 (w.heap.size + 1) [.slice A.u h.us.length A.uc, .slice A.s h.ss.length A.sc, .slice A.f h.fs.length A.fc, .slice A.r h.es.length A.rc, .int .i64 h.nx] ∧ Bx w1 (w.heap.size + 1 + 1) [.slice none 0 0, .slice none 0 0, .slice none 0 0, .slice none 0 0, .int .i64 0] ∧ Below w.heap.size w w1) := ⟨P0.out.1.below bx, P0.out.2.1.below bx, P0.out.2.2.1.below bx, P0.out.2.2.2.trans (bx.mono P0.out.2.2.2.size)⟩
    clear bx P0 HA
    go_wp2_with fail
    refine (HC.out _).mono ?_
    rintro e w2 ⟨rfl, rfl⟩
    go_wp2_with (first | (refine wpl_putT 41 rfl _ _ rfl (w.heap.size + 1 + 1) _ rfl rfl P1.out.2.2.1 rfl rfl rfl ?_; intro W5 hw5 R5; have B5 : Hid (Below w.heap.size w W5) := (by rw [hw5]; exact below_cells (by omega) _ _ _ P1.out.2.2.2); clear hw5) | fail)
    refine bodyPost_ret (v := .tuple #[.agg #[.slice none 0 0, .slice none 0 0, .slice none 0 0, .slice none 0 0, .int .i64 0], .int .i64 4]) (results_cell2 Tryz.results11 (w.heap.size + 1 + 1) rfl rfl R5 _ Tryz.underlying41 rfl rfl) rfl ?_
    exact ⟨zeroHA, rfl, OwnHu.zero _ _, B5.out⟩
  replace hc : 0 ≤ n ∧ n ≤ 1000000 := Classical.not_not.1 hc
  have hd : dec (0 ≤ n ∧ n ≤ 1000000) = true := dec_y hc
  rw [hd] at HC ⊢
  rw [if_pos rfl, if_pos rfl, if_pos rfl]
  clear hd
  by_cases hk0 : ixI (siP q) h.ss < 0
  · rw [if_pos hk0, if_pos hk0]
    have hkn : decide (ixI (siP q) h.ss < 0) = true := decide_eq_true hk0
    clear hk0
    generalize ixI (siP q) h.ss = kk at HP hkn
    go_enter Tryz.func11, Tryz.ntmps11
    go_wp2_with (first | (refine wpl_getT 48 rfl _ rfl (w.heap.size) rfl P0.out.1 _ Tryz.underlying48 rfl rfl ?_) | (refine wpl_getT 41 rfl _ rfl (w.heap.size + 1) rfl P0.out.2.1 _ Tryz.underlying41 rfl rfl ?_) | fail)
    refine (HA.out _ P0.out.2.2.2).mono ?_
    rintro e w1 ⟨rfl, bx⟩
    have P1 : Hid (Bx w1 w.heap.size [.int .i64 c.ip, .int .i64 c.b, .int .i64 c.gt, .string c.gm, .string c.wm, .int .i64 c.rs, .slice C.x c.ps.length C.xc, .slice C.y c.ros.length C.yc] ∧ Bx w1 (w.heap.size + 1) [.slice A.u h.us.length A.uc, .slice A.s h.ss.length A.sc, .slice A.f h.fs.length A.fc, .slice A.r h.es.length A.rc, .int .i64 h.nx] ∧ Bx w1 (w.heap.size + 1 + 1) [.slice none 0 0, .slice none 0 0, .slice none 0 0, .slice none 0 0, .int .i64 0] ∧ Below w.heap.size w w1) := ⟨P0.out.1.below bx, P0.out.2.1.below bx, P0.out.2.2.1.below bx, P0.out.2.2.2.trans (bx.mono P0.out.2.2.2.size)⟩
    clear bx P0 HA
    go_wp2_with fail
    refine (HC.out _).mono ?_
    rintro e w2 ⟨rfl, rfl⟩
    (have qh := P1.out.2.1.cell 1 rfl; go_wp2_with fail)
    refine (HP.out _ P1.out.2.2.2).mono ?_
    rintro e w3 ⟨rfl, bx⟩
    have P3 : Hid (Bx w3 w.heap.size [.int .i64 c.ip, .int .i64 c.b, .int .i64 c.gt, .string c.gm, .string c.wm, .int .i64 c.rs, .slice C.x c.ps.length C.xc, .slice C.y c.ros.length C.yc] ∧ Bx w3 (w.heap.size + 1) [.slice A.u h.us.length A.uc, .slice A.s h.ss.length A.sc, .slice A.f h.fs.length A.fc, .slice A.r h.es.length A.rc, .int .i64 h.nx] ∧ Bx w3 (w.heap.size + 1 + 1) [.slice none 0 0, .slice none 0 0, .slice none 0 0, .slice none 0 0, .int .i64 0] ∧ Below w.heap.size w w3) := ⟨P1.out.1.below bx, P1.out.2.1.below bx, P1.out.2.2.1.below bx, P1.out.2.2.2.trans (bx.mono P1.out.2.2.2.size)⟩
    clear bx P1 HP
    go_wp2_with (first | (refine wpl_getT 41 rfl _ rfl (w.heap.size + 1) rfl P3.out.2.1 _ Tryz.underlying41 rfl rfl ?_) | fail)
    refine (HO.out _ P3.out.2.2.2).mono ?_
    rintro e w4 ⟨R, rfl, o4, bx⟩
    have O4 : Hid (OwnHu w4 w3.heap.size R h) := o4
    have P4 : Hid (Bx w4 (w.heap.size + 1 + 1) [.slice none 0 0, .slice none 0 0, .slice none 0 0, .slice none 0 0, .int .i64 0] ∧ Below w.heap.size w w4 ∧ w.heap.size + 1 + 1 < w3.heap.size) := ⟨P3.out.2.2.1.below bx, P3.out.2.2.2.trans (bx.mono P3.out.2.2.2.size), World.block_lt_of_cell? w3 ⟨w.heap.size + 1 + 1, 0, none⟩ (P3.out.2.2.1.cell 0 rfl)⟩
    clear o4 bx P3
    go_wp2_with (first | (refine wpl_putT 41 rfl _ _ rfl (w.heap.size + 1 + 1) _ rfl rfl P4.out.1 rfl rfl rfl ?_; intro W5 hw5 R5; have B5 : Hid (Below w.heap.size w W5) := (by rw [hw5]; exact below_cells (by omega) _ _ _ P4.out.2.1); have O5 : Hid (OwnHu W5 w.heap.size R h) := (by rw [hw5]; exact Own4.lower (OwnHu.keep O4.out (fun b hb => (heap_cellsA _ _ _).2 b (by have := (O4.out.lt b hb).1; have := P4.out.2.2; omega))) (by have := P4.out.2.2; omega)); clear hw5) | fail)
    refine bodyPost_ret (v := .tuple #[.agg #[.slice R.u h.us.length R.uc, .slice R.s h.ss.length R.sc, .slice R.f h.fs.length R.fc, .slice R.r h.es.length R.rc, .int .i64 h.nx], .int .i64 5]) (results_cell2 Tryz.results11 (w.heap.size + 1 + 1) rfl rfl R5 _ Tryz.underlying41 rfl rfl) rfl ?_
    exact ⟨R, rfl, O5.out, B5.out⟩
  obtain ⟨k, x, hkk, hx, hxi, hsp⟩ := ixI_split hk0
  rw [if_neg hk0, if_neg hk0]
  rw [hkk] at hk0 HP ⊢
  obtain ⟨u, hu, ⟨b1, b2⟩, b3, b4, b5, b6⟩ := okG_ch hk hx
  rw [show ((k : Int)).toNat = k by simp, (chA_at hx hu).1, (chA_at (now := now) hx hu).2]
  have hkl := (List.getElem?_eq_some_iff.1 hx).1
  have hkn : decide ((k : Int) < 0) = false := decide_eq_false hk0
  obtain ⟨id, us_, mc, ip, be, la, ud, qu, un, il⟩ := x
  obtain ⟨nm, sa, ha, ro, bl, lg⟩ := u
  dsimp only at hu b1 b2 b3 b4 b5 b6 hxi
  obtain ⟨m, hm⟩ : ∃ m : Nat, us_ = (m : Int) := ⟨us_.toNat, by omega⟩
  subst hm
  rw [show ((m : Int)).toNat = m by simp] at hu b2
  clear b1
  obtain ⟨bs, os, -, es, -, -, -, -⟩ := hs.ss.hrw.at SeR.kp (Below.refl _ _) hx
  obtain ⟨bu, ou, -, eu, -, -, -, -⟩ := hs.us.hrw.at UsR.kp (Below.refl _ _) hu
  have HCS : Hid (∀ wx, Below w.heap.size w wx → ∀ j v, (svG ⟨id, (m : Int), mc, ip, be, la, ud, qu, un, il⟩)[j]? = some v → wx.cell? ⟨bs, os + k * 10 + j, none⟩ = some v) := fun wx hb => by
    obtain ⟨b', o', vs, e', -, -, hR, hc⟩ := hs.ss.hrw.at SeR.kp hb hx
    rw [es] at e'
    cases e'
    obtain ⟨rfl, -⟩ := hR
    exact hc
  have HCU : Hid (∀ wx, Below w.heap.size w wx → ∀ j v, (uvG ⟨nm, sa, ha, ro, bl, lg⟩)[j]? = some v → wx.cell? ⟨bu, ou + m * 6 + j, none⟩ = some v) := fun wx hb => by
    obtain ⟨b', o', vs, e', -, -, hR, hc⟩ := hs.us.hrw.at UsR.kp hb hu
    rw [eu] at e'
    cases e'
    obtain ⟨rfl, -⟩ := hR
    exact hc
  have HE : Hid (∀ wx, Below w.heap.size w wx → Calls Tryz.prog 46 #[.agg #[.slice A.u h.us.length A.uc, .slice A.s h.ss.length A.sc, .slice A.f h.fs.length A.fc, .slice A.r h.es.length A.rc, .int .i64 h.nx], .int .i64 q, .int .i64 now, .int .i64 4] wx fun e w' => ∃ R : HuA, e = .returned (.agg #[.slice R.u (enG now 4 h (h.ss.take k) (h.ss.drop (k + 1)) ⟨id, (m : Int), mc, ip, be, la, ud, qu, un, il⟩).us.length R.uc, .slice R.s (enG now 4 h (h.ss.take k) (h.ss.drop (k + 1)) ⟨id, (m : Int), mc, ip, be, la, ud, qu, un, il⟩).ss.length R.sc, .slice R.f (enG now 4 h (h.ss.take k) (h.ss.drop (k + 1)) ⟨id, (m : Int), mc, ip, be, la, ud, qu, un, il⟩).fs.length R.fc, .slice R.r (enG now 4 h (h.ss.take k) (h.ss.drop (k + 1)) ⟨id, (m : Int), mc, ip, be, la, ud, qu, un, il⟩).es.length R.rc, .int .i64 (enG now 4 h (h.ss.take k) (h.ss.drop (k + 1)) ⟨id, (m : Int), mc, ip, be, la, ud, qu, un, il⟩).nx]) ∧ OwnHu w' wx.heap.size R (enG now 4 h (h.ss.take k) (h.ss.drop (k + 1)) ⟨id, (m : Int), mc, ip, be, la, ud, qu, un, il⟩) ∧ Below wx.heap.size wx w') := fun wx hb => endOne_any A h _ q now 4 wx (hs.below hb) (by
    obtain ⟨e1, e2, -⟩ := okG_one (now := now) hk hx hxi hsp (show (4 : Int) ≠ 0 by omega)
    rw [e1, e2]
    rfl)
  have HXX : Hid (h.ss[k]? = some ⟨id, (m : Int), mc, ip, be, la, ud, qu, un, il⟩) := hx
  have HUU : Hid (h.us[m]? = some ⟨nm, sa, ha, ro, bl, lg⟩) := hu
  obtain ⟨GG, hGG⟩ : ∃ GG, GG = (chX now n h k ⟨id, (m : Int), mc, ip, be, la, ud, qu, un, il⟩ ⟨nm, sa, ha, ro, bl, lg⟩) := ⟨_, rfl⟩
  obtain ⟨kk, hkk9⟩ : ∃ kk, kk = (chY n ⟨id, (m : Int), mc, ip, be, la, ud, qu, un, il⟩ ⟨nm, sa, ha, ro, bl, lg⟩) := ⟨_, rfl⟩
  have HGX : Hid (GG = (chX now n h k ⟨id, (m : Int), mc, ip, be, la, ud, qu, un, il⟩ ⟨nm, sa, ha, ro, bl, lg⟩)) := hGG
  have HKX : Hid (kk = (chY n ⟨id, (m : Int), mc, ip, be, la, ud, qu, un, il⟩ ⟨nm, sa, ha, ro, bl, lg⟩)) := hkk9
  rw [← hGG, ← hkk9]
  clear hGG hkk9
  rw [es, eu] at HA HO P0 HE ⊢
  rw [es] at HP
  clear hsp hx hxi hkk hk es eu hs hu
  go_enter Tryz.func11, Tryz.ntmps11
  go_wp2_with (first | (refine wpl_getT 48 rfl _ rfl (w.heap.size) rfl P0.out.1 _ Tryz.underlying48 rfl rfl ?_) | (refine wpl_getT 41 rfl _ rfl (w.heap.size + 1) rfl P0.out.2.1 _ Tryz.underlying41 rfl rfl ?_) | fail)
  refine (HA.out _ P0.out.2.2.2).mono ?_
  rintro e w1 ⟨rfl, bx⟩
  have P1 : Hid (Bx w1 w.heap.size [.int .i64 c.ip, .int .i64 c.b, .int .i64 c.gt, .string c.gm, .string c.wm, .int .i64 c.rs, .slice C.x c.ps.length C.xc, .slice C.y c.ros.length C.yc] ∧ Bx w1 (w.heap.size + 1) [.slice (some ⟨bu, ou, none⟩) h.us.length A.uc, .slice (some ⟨bs, os, none⟩) h.ss.length A.sc, .slice A.f h.fs.length A.fc, .slice A.r h.es.length A.rc, .int .i64 h.nx] ∧ Bx w1 (w.heap.size + 1 + 1) [.slice none 0 0, .slice none 0 0, .slice none 0 0, .slice none 0 0, .int .i64 0] ∧ Below w.heap.size w w1) := ⟨P0.out.1.below bx, P0.out.2.1.below bx, P0.out.2.2.1.below bx, P0.out.2.2.2.trans (bx.mono P0.out.2.2.2.size)⟩
  clear bx P0 HA
  go_wp2_with fail
  refine (HC.out _).mono ?_
  rintro e w2 ⟨rfl, rfl⟩
  (have qh := P1.out.2.1.cell 1 rfl; go_wp2_with fail)
  refine (HP.out _ P1.out.2.2.2).mono ?_
  rintro e w3 ⟨rfl, bx⟩
  have P3 : Hid (Bx w3 w.heap.size [.int .i64 c.ip, .int .i64 c.b, .int .i64 c.gt, .string c.gm, .string c.wm, .int .i64 c.rs, .slice C.x c.ps.length C.xc, .slice C.y c.ros.length C.yc] ∧ Bx w3 (w.heap.size + 1) [.slice (some ⟨bu, ou, none⟩) h.us.length A.uc, .slice (some ⟨bs, os, none⟩) h.ss.length A.sc, .slice A.f h.fs.length A.fc, .slice A.r h.es.length A.rc, .int .i64 h.nx] ∧ Bx w3 (w.heap.size + 1 + 1) [.slice none 0 0, .slice none 0 0, .slice none 0 0, .slice none 0 0, .int .i64 0] ∧ Below w.heap.size w w3) := ⟨P1.out.1.below bx, P1.out.2.1.below bx, P1.out.2.2.1.below bx, P1.out.2.2.2.trans (bx.mono P1.out.2.2.2.size)⟩
  clear bx P1 HP
  have BA : Below w3.heap.size w3 (w3.alloc (.cells #[.int .i64 id, .int .i64 (m : Int), .string mc, .int .i64 ip, .int .i64 be, .int .i64 la, .int .i64 ud, .int .i64 qu, .int .i64 un, .int .i64 il] 84)) := (Below.refl _ _).alloc (Nat.le_refl _) _
  have h3w : w.heap.size + 2 < w3.heap.size := World.block_lt_of_cell? w3 ⟨w.heap.size + 1 + 1, 0, none⟩ (P3.out.2.2.1.cell 0 rfl)
  have B4 : Hid (Below w.heap.size w (w3.alloc (.cells #[.int .i64 id, .int .i64 (m : Int), .string mc, .int .i64 ip, .int .i64 be, .int .i64 la, .int .i64 ud, .int .i64 qu, .int .i64 un, .int .i64 il] 84))) := P3.out.2.2.2.trans (BA.mono P3.out.2.2.2.size)
  have G4 : Hid (Bx (w3.alloc (.cells #[.int .i64 id, .int .i64 (m : Int), .string mc, .int .i64 ip, .int .i64 be, .int .i64 la, .int .i64 ud, .int .i64 qu, .int .i64 un, .int .i64 il] 84)) (w.heap.size + 1) [.slice (some ⟨bu, ou, none⟩) h.us.length A.uc, .slice (some ⟨bs, os, none⟩) h.ss.length A.sc, .slice A.f h.fs.length A.fc, .slice A.r h.es.length A.rc, .int .i64 h.nx]) := P3.out.2.1.below BA
  have R4 : Hid (Bx (w3.alloc (.cells #[.int .i64 id, .int .i64 (m : Int), .string mc, .int .i64 ip, .int .i64 be, .int .i64 la, .int .i64 ud, .int .i64 qu, .int .i64 un, .int .i64 il] 84)) (w.heap.size + 1 + 1) [.slice none 0 0, .slice none 0 0, .slice none 0 0, .slice none 0 0, .int .i64 0]) := P3.out.2.2.1.below BA
  have X4 : Hid (Bx (w3.alloc (.cells #[.int .i64 id, .int .i64 (m : Int), .string mc, .int .i64 ip, .int .i64 be, .int .i64 la, .int .i64 ud, .int .i64 qu, .int .i64 un, .int .i64 il] 84)) w3.heap.size [.int .i64 id, .int .i64 (m : Int), .string mc, .int .i64 ip, .int .i64 be, .int .i64 la, .int .i64 ud, .int .i64 qu, .int .i64 un, .int .i64 il]) := Bx.new w3 #[.int .i64 id, .int .i64 (m : Int), .string mc, .int .i64 ip, .int .i64 be, .int .i64 la, .int .i64 ud, .int .i64 qu, .int .i64 un, .int .i64 il] 84
  have hcs := HCS.out w3 P3.out.2.2.2
  have cu4 : (w3.alloc (.cells #[.int .i64 id, .int .i64 (m : Int), .string mc, .int .i64 ip, .int .i64 be, .int .i64 la, .int .i64 ud, .int .i64 qu, .int .i64 un, .int .i64 il] 84)).cell? ⟨bu, ou + m * 6 + 4, none⟩ = some (.int .i64 bl) := HCU.out _ B4.out 4 _ rfl
  have g1 := P3.out.2.1.cell 1 rfl
  have c0 := G4.out.cell 0 rfl
  have x1 := X4.out.cell 1 rfl
  have x6 := X4.out.cell 6 rfl
  have x7 := X4.out.cell 7 rfl
  have hw1 : IntKind.i64.wrap (qu - ud) = qu - ud := by rw [IntKind.wrap_i64]; omega
  have hi1 : (k : Int) < (h.ss.length : Int) := by omega
  have hi2 : (m : Int) < (h.us.length : Int) := by omega
  clear HCS HCU P3 BA
  have hy : (chB n ⟨id, (m : Int), mc, ip, be, la, ud, qu, un, il⟩ ⟨nm, sa, ha, ro, bl, lg⟩ = true ∧ kk = 15 ∧ GG = (enG now 4 h (h.ss.take k) (h.ss.drop (k + 1)) ⟨id, (m : Int), mc, ip, be, la, ud, qu, un, il⟩)) ∨ (¬ chB n ⟨id, (m : Int), mc, ip, be, la, ud, qu, un, il⟩ ⟨nm, sa, ha, ro, bl, lg⟩ = true ∧ kk = 0 ∧ GG = chG now n h k ⟨id, (m : Int), mc, ip, be, la, ud, qu, un, il⟩ ⟨nm, sa, ha, ro, bl, lg⟩) := by
    by_cases hb : chB n ⟨id, (m : Int), mc, ip, be, la, ud, qu, un, il⟩ ⟨nm, sa, ha, ro, bl, lg⟩ = true
    · exact .inl ⟨hb, by rw [HKX.out]; unfold chY; rw [if_pos hb], by rw [HGX.out]; unfold chX; rw [if_pos hb]⟩
    · exact .inr ⟨hb, by rw [HKX.out]; unfold chY; rw [if_neg hb], by rw [HGX.out]; unfold chX; rw [if_neg hb]⟩
  clear HKX
  rcases hy with ⟨hy, e1, e2⟩ | ⟨hy, e1, e2⟩
  · subst e1
    rw [← e2] at HE
    clear e2 HGX HO HXX HUU HK HL
    unfold chB at hy
    simp only [Bool.or_eq_true, decide_eq_true_eq] at hy
    by_cases hqa : qu - ud < n
    · have hd1 : decide (qu - ud < n) = true := decide_eq_true hqa
      clear cu4 hy
      go_wp2_with (first | (refine wpList_load_mid rfl 84 _ rfl bs (os + k * 10) rfl [.int .i64 id, .int .i64 (m : Int), .string mc, .int .i64 ip, .int .i64 be, .int .i64 la, .int .i64 ud, .int .i64 qu, .int .i64 un, .int .i64 il] _ (fun j u hu => hcs j u hu) Tryz.underlying84 rfl rfl ?_) | (refine wpl_getT 41 rfl _ rfl (w.heap.size + 1) rfl G4.out _ Tryz.underlying41 rfl rfl ?_) | fail)
      refine (HE.out _ B4.out).mono ?_
      rintro e w5 ⟨R, rfl, o5, bx⟩
      have O5 : Hid (OwnHu w5 (w3.heap.size + 1) R GG) := Own4.lower o5 (by simp)
      have P5 : Hid (Bx w5 (w.heap.size + 1 + 1) [.slice none 0 0, .slice none 0 0, .slice none 0 0, .slice none 0 0, .int .i64 0] ∧ Below w.heap.size w w5 ∧ w.heap.size + 1 + 1 < w3.heap.size + 1) := ⟨R4.out.below bx, B4.out.trans (bx.mono B4.out.size), by omega⟩
      clear o5 bx
      go_wp2_with (first | (refine wpl_putT 41 rfl _ _ rfl (w.heap.size + 1 + 1) _ rfl rfl P5.out.1 rfl rfl rfl ?_; intro W5 hw5 R5; have B5 : Hid (Below w.heap.size w W5) := (by rw [hw5]; exact below_cells (by omega) _ _ _ P5.out.2.1); have Z5 : Hid (OwnHu W5 w.heap.size R GG) := (by rw [hw5]; exact Own4.lower (OwnHu.keep O5.out (fun b hb => (heap_cellsA _ _ _).2 b (by have := (O5.out.lt b hb).1; have := P5.out.2.2; omega))) (by have := P5.out.2.2; omega)); clear hw5) | fail)
      refine bodyPost_ret (v := .tuple #[.agg #[.slice R.u GG.us.length R.uc, .slice R.s GG.ss.length R.sc, .slice R.f GG.fs.length R.fc, .slice R.r GG.es.length R.rc, .int .i64 GG.nx], .int .i64 15]) (results_cell2 Tryz.results11 (w.heap.size + 1 + 1) rfl rfl R5 _ Tryz.underlying41 rfl rfl) rfl ?_
      exact ⟨R, rfl, Z5.out, B5.out⟩
    have hd1 : decide (qu - ud < n) = false := decide_eq_false hqa
    have hd2 : decide (bl < n) = true := decide_eq_true (by omega)
    go_wp2_with (first | (refine wpList_load_mid rfl 84 _ rfl bs (os + k * 10) rfl [.int .i64 id, .int .i64 (m : Int), .string mc, .int .i64 ip, .int .i64 be, .int .i64 la, .int .i64 ud, .int .i64 qu, .int .i64 un, .int .i64 il] _ (fun j u hu => hcs j u hu) Tryz.underlying84 rfl rfl ?_) | (refine wpl_getT 41 rfl _ rfl (w.heap.size + 1) rfl G4.out _ Tryz.underlying41 rfl rfl ?_) | fail)
    refine (HE.out _ B4.out).mono ?_
    rintro e w5 ⟨R, rfl, o5, bx⟩
    have O5 : Hid (OwnHu w5 (w3.heap.size + 1) R GG) := Own4.lower o5 (by simp)
    have P5 : Hid (Bx w5 (w.heap.size + 1 + 1) [.slice none 0 0, .slice none 0 0, .slice none 0 0, .slice none 0 0, .int .i64 0] ∧ Below w.heap.size w w5 ∧ w.heap.size + 1 + 1 < w3.heap.size + 1) := ⟨R4.out.below bx, B4.out.trans (bx.mono B4.out.size), by omega⟩
    clear o5 bx
    go_wp2_with (first | (refine wpl_putT 41 rfl _ _ rfl (w.heap.size + 1 + 1) _ rfl rfl P5.out.1 rfl rfl rfl ?_; intro W5 hw5 R5; have B5 : Hid (Below w.heap.size w W5) := (by rw [hw5]; exact below_cells (by omega) _ _ _ P5.out.2.1); have Z5 : Hid (OwnHu W5 w.heap.size R GG) := (by rw [hw5]; exact Own4.lower (OwnHu.keep O5.out (fun b hb => (heap_cellsA _ _ _).2 b (by have := (O5.out.lt b hb).1; have := P5.out.2.2; omega))) (by have := P5.out.2.2; omega)); clear hw5) | fail)
    refine bodyPost_ret (v := .tuple #[.agg #[.slice R.u GG.us.length R.uc, .slice R.s GG.ss.length R.sc, .slice R.f GG.fs.length R.fc, .slice R.r GG.es.length R.rc, .int .i64 GG.nx], .int .i64 15]) (results_cell2 Tryz.results11 (w.heap.size + 1 + 1) rfl rfl R5 _ Tryz.underlying41 rfl rfl) rfl ?_
    exact ⟨R, rfl, Z5.out, B5.out⟩
  subst e1
  have HG : Hid (GG = chG now n h k ⟨id, (m : Int), mc, ip, be, la, ud, qu, un, il⟩ ⟨nm, sa, ha, ro, bl, lg⟩) := e2
  clear e2 HE
  have hqq := chB_no hy
  dsimp only at hqq
  have hd1 : decide (qu - ud < n) = false := decide_eq_false (by omega)
  have hd2 : decide (bl < n) = false := decide_eq_false (by omega)
  clear hy
  have hw2 : IntKind.i64.wrap (ud + n) = ud + n := by rw [IntKind.wrap_i64]; omega
  have hw3 : IntKind.i64.wrap (bl - n) = bl - n := by rw [IntKind.wrap_i64]; omega
  go_wp2_with (first | (refine wpList_load_mid rfl 84 _ rfl bs (os + k * 10) rfl [.int .i64 id, .int .i64 (m : Int), .string mc, .int .i64 ip, .int .i64 be, .int .i64 la, .int .i64 ud, .int .i64 qu, .int .i64 un, .int .i64 il] _ (fun j u hu => hcs j u hu) Tryz.underlying84 rfl rfl ?_) | (refine wpl_put1 3 rfl _ _ rfl (w3.heap.size) 6 _ rfl rfl X4.out rfl rfl rfl ?_; intro W5 hw5; have X5 : Hid (Bx W5 w3.heap.size [.int .i64 id, .int .i64 (m : Int), .string mc, .int .i64 ip, .int .i64 be, .int .i64 (la), .int .i64 (ud + n), .int .i64 qu, .int .i64 un, .int .i64 il]) := (by rw [hw5]; exact X4.out.sets _ _ _ _); have G5 : Hid (Bx W5 (w.heap.size + 1) [.slice (some ⟨bu, ou, none⟩) h.us.length A.uc, .slice (some ⟨bs, os, none⟩) h.ss.length A.sc, .slice A.f h.fs.length A.fc, .slice A.r h.es.length A.rc, .int .i64 h.nx]) := (by rw [hw5]; exact G4.out.apartO _ (by omega)); have R5 : Hid (Bx W5 (w.heap.size + 1 + 1) [.slice none 0 0, .slice none 0 0, .slice none 0 0, .slice none 0 0, .int .i64 0]) := (by rw [hw5]; exact R4.out.apartO _ (by omega)); have B5 : Hid (Below w.heap.size w W5) := (by rw [hw5]; exact below_cells (by omega) _ _ _ B4.out); have Z5 : Hid (W5.heap.size = w3.heap.size + 1) := (by rw [hw5]; exact (heap_cellsA _ _ _).1.trans (by simp)); have x5 := X5.out.cell 5 rfl; clear hw5 X4 G4 R4 B4) | (refine wpl_put1 3 rfl _ _ rfl (w3.heap.size) 5 _ rfl rfl X5.out rfl rfl rfl ?_; intro W6 hw6; rw [Int.max_comm la now] at hw6; have X6 : Hid (Bx W6 w3.heap.size [.int .i64 id, .int .i64 (m : Int), .string mc, .int .i64 ip, .int .i64 be, .int .i64 (max now la), .int .i64 (ud + n), .int .i64 qu, .int .i64 un, .int .i64 il]) := (by rw [hw6]; exact X5.out.sets _ _ _ _); have G6 : Hid (Bx W6 (w.heap.size + 1) [.slice (some ⟨bu, ou, none⟩) h.us.length A.uc, .slice (some ⟨bs, os, none⟩) h.ss.length A.sc, .slice A.f h.fs.length A.fc, .slice A.r h.es.length A.rc, .int .i64 h.nx]) := (by rw [hw6]; exact G5.out.apartO _ (by omega)); have R6 : Hid (Bx W6 (w.heap.size + 1 + 1) [.slice none 0 0, .slice none 0 0, .slice none 0 0, .slice none 0 0, .int .i64 0]) := (by rw [hw6]; exact R5.out.apartO _ (by omega)); have B6 : Hid (Below w.heap.size w W6) := (by rw [hw6]; exact below_cells (by omega) _ _ _ B5.out); have Z6 : Hid (W6.heap.size = w3.heap.size + 1) := (by rw [hw6]; exact (heap_cellsA _ _ _).1.trans Z5.out); clear hw6 X5 G5 R5 B5) | (refine wpl_getT 41 rfl _ rfl (w.heap.size + 1) rfl G6.out _ Tryz.underlying41 rfl rfl ?_) | fail)
  refine (HO.out _ B6.out).mono ?_
  rintro e w7 ⟨R, rfl, o7, bx⟩
  have s7 := bx.size
  rw [Z6.out] at o7 s7
  have O7 : OwnHu w7 (w3.heap.size + 1) R h := o7
  obtain ⟨ru, rs, rf, rr, ruc, rsc, rfc, rrc⟩ := R
  obtain ⟨gu, hgu, hgu2, hgu3, -⟩ := O7.u.form (by omega)
  obtain ⟨gs, hgs, hgs2, hgs3, -⟩ := O7.s.form (by omega)
  dsimp only at hgu hgs
  subst hgu hgs
  have BN : Below w7.heap.size w7 (w7.alloc (.cells #[.slice (some ⟨gu, 0, none⟩) h.us.length ruc, .slice (some ⟨gs, 0, none⟩) h.ss.length rsc, .slice rf h.fs.length rfc, .slice rr h.es.length rrc, .int .i64 h.nx] 41)) := (Below.refl _ _).alloc (Nat.le_refl _) _
  have O8 : Hid (Own4 (w7.alloc (.cells #[.slice (some ⟨gu, 0, none⟩) h.us.length ruc, .slice (some ⟨gs, 0, none⟩) h.ss.length rsc, .slice rf h.fs.length rfc, .slice rr h.es.length rrc, .int .i64 h.nx] 41)) (w3.heap.size + 1) (.slice (some ⟨gu, 0, none⟩) h.us.length ruc) (.slice (some ⟨gs, 0, none⟩) h.ss.length rsc) (.slice rf h.fs.length rfc) (.slice rr h.es.length rrc) h.us h.ss h.fs h.es) := Own4.now O7 BN
  have N8 : Hid (Bx (w7.alloc (.cells #[.slice (some ⟨gu, 0, none⟩) h.us.length ruc, .slice (some ⟨gs, 0, none⟩) h.ss.length rsc, .slice rf h.fs.length rfc, .slice rr h.es.length rrc, .int .i64 h.nx] 41)) w7.heap.size [.slice (some ⟨gu, 0, none⟩) h.us.length ruc, .slice (some ⟨gs, 0, none⟩) h.ss.length rsc, .slice rf h.fs.length rfc, .slice rr h.es.length rrc, .int .i64 h.nx]) := Bx.new w7 #[.slice (some ⟨gu, 0, none⟩) h.us.length ruc, .slice (some ⟨gs, 0, none⟩) h.ss.length rsc, .slice rf h.fs.length rfc, .slice rr h.es.length rrc, .int .i64 h.nx] 41
  have R8 : Hid (Bx (w7.alloc (.cells #[.slice (some ⟨gu, 0, none⟩) h.us.length ruc, .slice (some ⟨gs, 0, none⟩) h.ss.length rsc, .slice rf h.fs.length rfc, .slice rr h.es.length rrc, .int .i64 h.nx] 41)) (w.heap.size + 1 + 1) [.slice none 0 0, .slice none 0 0, .slice none 0 0, .slice none 0 0, .int .i64 0]) := (R6.out.below bx).below BN
  have X8 : Hid (Bx (w7.alloc (.cells #[.slice (some ⟨gu, 0, none⟩) h.us.length ruc, .slice (some ⟨gs, 0, none⟩) h.ss.length rsc, .slice rf h.fs.length rfc, .slice rr h.es.length rrc, .int .i64 h.nx] 41)) w3.heap.size [.int .i64 id, .int .i64 (m : Int), .string mc, .int .i64 ip, .int .i64 be, .int .i64 (max now la), .int .i64 (ud + n), .int .i64 qu, .int .i64 un, .int .i64 il]) := (X6.out.below bx).below BN
  have B8 : Hid (Below w.heap.size w (w7.alloc (.cells #[.slice (some ⟨gu, 0, none⟩) h.us.length ruc, .slice (some ⟨gs, 0, none⟩) h.ss.length rsc, .slice rf h.fs.length rfc, .slice rr h.es.length rrc, .int .i64 h.nx] 41))) := (B6.out.trans (bx.mono B6.out.size)).trans (BN.mono (Nat.le_trans B6.out.size bx.size))
  have n1 := N8.out.cell 1 rfl
  clear o7 bx O7 BN R6 X6 G6 B6 Z6 Z5 HO
  go_wp2_with (first | (refine wpl_getT 84 rfl _ rfl (w3.heap.size) rfl X8.out _ Tryz.underlying84 rfl rfl ?_) | (refine wpl_putE 84 rfl _ _ rfl gs (k * 10) _ rfl rfl (O8.out.s.thereE svG_len HXX.out) rfl rfl ?_; intro W9 hw9; have T9 := O8.out.s.putE svG_len (i := k) hkl ⟨id, (m : Int), mc, ip, be, max now la, ud + n, qu, un, il⟩; replace hw9 : W9 = (w7.alloc (.cells #[.slice (some ⟨gu, 0, none⟩) h.us.length ruc, .slice (some ⟨gs, 0, none⟩) h.ss.length rsc, .slice rf h.fs.length rfc, .slice rr h.es.length rrc, .int .i64 h.nx] 41)).setCells gs (k * 10) (svG ⟨id, (m : Int), mc, ip, be, max now la, ud + n, qu, un, il⟩) := hw9; rw [← hw9] at T9; have B9 : Hid (Below w.heap.size w W9) := (B8.out.grown T9.2 B8.out.size (fun z hz => by cases hz; omega)); have O9 : Hid (Own4 W9 (w3.heap.size + 1) (.slice (some ⟨gu, 0, none⟩) h.us.length ruc) (.slice (some ⟨gs, 0, none⟩) h.ss.length rsc) (.slice rf h.fs.length rfc) (.slice rr h.es.length rrc) h.us (h.ss.set k ⟨id, (m : Int), mc, ip, be, max now la, ud + n, qu, un, il⟩) h.fs h.es) := O8.out.setS T9.1 T9.2; have N9 : Hid (Bx W9 w7.heap.size [.slice (some ⟨gu, 0, none⟩) h.us.length ruc, .slice (some ⟨gs, 0, none⟩) h.ss.length rsc, .slice rf h.fs.length rfc, .slice rr h.es.length rrc, .int .i64 h.nx]) := (by rw [hw9]; exact N8.out.apartO _ (by omega)); have R9 : Hid (Bx W9 (w.heap.size + 1 + 1) [.slice none 0 0, .slice none 0 0, .slice none 0 0, .slice none 0 0, .int .i64 0]) := (by rw [hw9]; exact R8.out.apartO _ (by omega)); have X9 : Hid (Bx W9 w3.heap.size [.int .i64 id, .int .i64 (m : Int), .string mc, .int .i64 ip, .int .i64 be, .int .i64 (max now la), .int .i64 (ud + n), .int .i64 qu, .int .i64 un, .int .i64 il]) := (by rw [hw9]; exact X8.out.apartO _ (by omega)); clear hw9 T9 O8 N8 R8 X8 B8 n1; have n0 := N9.out.cell 0 rfl; have y1 := X9.out.cell 1 rfl; obtain ⟨c4, z4⟩ := O9.out.u.cell uvG_len (j := 4) HUU.out rfl) | (refine wpl_putC 3 rfl _ _ rfl gu (m * 6 + 4) (.int .i64 (bl - n)) rfl rfl (O9.out.u.there1 uvG_len HUU.out 4 (by omega)) rfl rfl ?_; intro WA hwA; have TA := O9.out.u.set1 uvG_len (j := 4) (y := ⟨nm, sa, ha, ro, bl - n, lg⟩) HUU.out (by omega) rfl; rw [← hwA] at TA; have BA : Hid (Below w.heap.size w WA) := (B9.out.grown TA.2 B9.out.size (fun z hz => by cases hz; omega)); have OA : Hid (Own4 WA (w3.heap.size + 1) (.slice (some ⟨gu, 0, none⟩) h.us.length ruc) (.slice (some ⟨gs, 0, none⟩) h.ss.length rsc) (.slice rf h.fs.length rfc) (.slice rr h.es.length rrc) (h.us.set m ⟨nm, sa, ha, ro, bl - n, lg⟩) (h.ss.set k ⟨id, (m : Int), mc, ip, be, max now la, ud + n, qu, un, il⟩) h.fs h.es) := O9.out.setU TA.1 TA.2; have NA : Hid (Bx WA w7.heap.size [.slice (some ⟨gu, 0, none⟩) h.us.length ruc, .slice (some ⟨gs, 0, none⟩) h.ss.length rsc, .slice rf h.fs.length rfc, .slice rr h.es.length rrc, .int .i64 h.nx]) := (by rw [hwA]; exact N9.out.far _ _ (by show gu ≠ _; omega)); have RA : Hid (Bx WA (w.heap.size + 1 + 1) [.slice none 0 0, .slice none 0 0, .slice none 0 0, .slice none 0 0, .int .i64 0]) := (by rw [hwA]; exact R9.out.far _ _ (by show gu ≠ _; omega)); clear hwA TA O9 N9 R9 X9 B9 n0 y1 c4 z4) | (refine wpl_getT 41 rfl _ rfl (w7.heap.size) rfl NA.out _ Tryz.underlying41 rfl rfl ?_) | (refine wpl_putT 41 rfl _ _ rfl (w.heap.size + 1 + 1) _ rfl rfl RA.out rfl rfl rfl ?_; intro WC hwC RC; have BC : Hid (Below w.heap.size w WC) := (by rw [hwC]; exact below_cells (by omega) _ _ _ BA.out); have OC : Hid (Own4 WC (w3.heap.size + 1) (.slice (some ⟨gu, 0, none⟩) h.us.length ruc) (.slice (some ⟨gs, 0, none⟩) h.ss.length rsc) (.slice rf h.fs.length rfc) (.slice rr h.es.length rrc) (h.us.set m ⟨nm, sa, ha, ro, bl - n, lg⟩) (h.ss.set k ⟨id, (m : Int), mc, ip, be, max now la, ud + n, qu, un, il⟩) h.fs h.es) := (by rw [hwC]; exact ⟨own_cellsB (by omega) _ _ _ OA.out.u, own_cellsB (by omega) _ _ _ OA.out.s, own_cellsB (by omega) _ _ _ OA.out.f, own_cellsB (by omega) _ _ _ OA.out.r, OA.out.us_, OA.out.uf, OA.out.ur, OA.out.sf, OA.out.sr, OA.out.fr⟩); clear hwC) | fail)
  refine bodyPost_ret (v := .tuple #[.agg #[.slice (some ⟨gu, 0, none⟩) h.us.length ruc, .slice (some ⟨gs, 0, none⟩) h.ss.length rsc, .slice rf h.fs.length rfc, .slice rr h.es.length rrc, .int .i64 h.nx], .int .i64 0]) (results_cell2 Tryz.results11 (w.heap.size + 1 + 1) rfl rfl RC _ Tryz.underlying41 rfl rfl) rfl ?_
  refine ⟨⟨some ⟨gu, 0, none⟩, some ⟨gs, 0, none⟩, rf, rr, ruc, rsc, rfc, rrc⟩, ?_, ?_, BC.out⟩
  · rw [HG.out]
    unfold chG
    dsimp only
    rw [List.length_set, List.length_set]
  · refine Own4.lower (B := w3.heap.size + 1) ?_ (by omega)
    rw [HG.out]
    unfold chG
    dsimp only
    rw [List.length_set, List.length_set]
    exact OC.out

end Go.Proofs.YtmeejholckelgaaGreat

namespace Go.Proofs.YtmeejholckelgaaGreat
open Go.RowKit Go.PlainAid Go.Proofs.YtmeejholckelgaaGreat.Bt Go.Sort
set_option linter.unusedVariables false
theorem lawCharge_any (C : CfA) (c : CfV) (A : HuA) (h : HuV) (id n now : Int) (w : World) (rC : CfR w C c) (bC : CfBd C c) (rA : HuR w A h) (bA : HuBd A h) :
    Calls Tryz.prog 3 #[.agg #[.int .i64 c.ip, .int .i64 c.b, .int .i64 c.gt, .string c.gm, .string c.wm, .int .i64 c.rs, .slice C.x c.ps.length C.xc, .slice C.y c.ros.length C.yc], .agg #[.slice A.u h.us.length A.uc, .slice A.s h.ss.length A.sc, .slice A.f h.fs.length A.fc, .slice A.r h.es.length A.rc, .int .i64 h.nx], .int .i64 id, .int .i64 n, .int .i64 now] w fun e w' => e = .returned (.bool true) ∧ Below w.heap.size w w' :=
  lawCharge_of C c A h id n now (chU c h id n now) (chC c h id n now) w rC bC rA bA (chU_ok rA.ok) (fun sc sh => chU_ln sh.ln)
    (fun sc sh C' L A' B0 B1 w oC oA => specCharge_any C' c A' h id n now w (oC.rw rC.ok) (oA.rw rA.ok) (oA.srcs rA.ok sh.hl) sc sh)
    (fun sc sh C' L A' B0 B1 w oC oA => implCharge_any C' c A' h id n now w (oC.rw rC.ok) (oA.rw rA.ok) (oA.srcs rA.ok sh.hl) sc sh)
end Go.Proofs.YtmeejholckelgaaGreat
