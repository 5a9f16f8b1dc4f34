/- What both sides ask of guests with a time, in packed words. Results whose first part is a struct in a box. Nothing of the program is used. EndSession of the model, packed. sessionPlace of the program. EndSession of the program, packed. The walk of laws.FnExactEndSession. -/
import Derived.Test.YtheicficoilkkaaGreatJ45
import Derived.Test.YtheicficoilkkaaGreatJ41
import Derived.Test.YtheicficoilkkaaGreatGokS
import Derived.Test.YtheicficoilkkaaGreatJ46
import Derived.Test.YtheicficoilkkaaGreatJ43
import Derived.Test.YtheicficoilkkaaGreatJ42
namespace Go.Proofs.YtheicficoilkkaaGreat
open Go.RowKit Go.PlainAid Go.Proofs.YtheicficoilkkaaGreat.Bt Go.Sort
set_option linter.unusedVariables false
set_option maxRecDepth 20000

theorem szu_of {us : List UserV} {n : Int} (h : szL wtUser us ≤ n) (hn : n ≤ 1048576) : SzU us := by
  intro u hu
  have := szL_mem wtUser_nn us u hu
  have e : wtUser u = (u.nm.size : Int) + u.sa.size + u.ha.size + u.ro.size := rfl
  rw [e] at this
  omega
theorem spec_ask (C : CfA) (c : CfV) (A : HuA) (h : HuV) (now : Int) (w : World) (rc : CfR w C c) (rh : HuR w A h) (sc : CfSz c) (sh : HuSz h) :
    Calls Tryz.prog 62 #[.agg #[.int .i64 c.ip, .int .i64 c.b, .int .i64 c.gt, .string c.gm, .string c.wm, .int .i64 c.rs, .slice C.x c.ps.length C.xc, .slice C.y c.ros.length C.yc], .agg #[.slice A.u h.us.length A.uc, .slice A.s h.ss.length A.sc, .slice A.f h.fs.length A.fc, .slice A.r h.es.length A.rc, .int .i64 h.nx], .int .i64 now] w fun e w' => e = .returned (.int .i64 (fauC (okG c h) now)) ∧ Below w.heap.size w w' := by
  refine l08Ask_any c.ip c.b c.gt c.gm c.wm c.rs C.x C.y c.ps.length C.xc c.ros.length C.yc A.u A.s A.f A.r h.us.length A.uc h.ss.length A.sc h.fs.length A.fc h.es.length A.rc h.nx now (okG c h) w (fun wx hb => ?_)
  have rc' := rc.below hb; have rh' := rh.below hb
  exact (specGuests_any _ _ _ _ _ _ _ _ _ _ _ _ c.ps c.ros _ _ _ _ _ _ _ _ _ _ _ _ h.us h.ss h.fs h.es h.nx wx rc'.ps rfl rc'.ros rfl sc.szr sc.ros rh'.us rfl rh'.ss rfl rh'.fs rfl rh'.es rfl (szu_of sh.szu (Int.le_refl _)) sh.us).mono fun e w' h => ⟨h.1, h.2.below⟩
theorem impl_fault (C : CfA) (c : CfV) (A : HuA) (h : HuV) (now : Int) (w : World) (rc : CfR w C c) (rh : HuR w A h) (sc : CfSz c) (sh : HuSz h) :
    Calls Tryz.prog 66 #[.agg #[.int .i64 c.ip, .int .i64 c.b, .int .i64 c.gt, .string c.gm, .string c.wm, .int .i64 c.rs, .slice C.x c.ps.length C.xc, .slice C.y c.ros.length C.yc], .agg #[.slice A.u h.us.length A.uc, .slice A.s h.ss.length A.sc, .slice A.f h.fs.length A.fc, .slice A.r h.es.length A.rc, .int .i64 h.nx], .int .i64 now] w fun e w' => e = .returned (.int .i64 (fauC (okG c h) now)) ∧ Below w.heap.size w w' := by
  refine guestsFault_any c.ip c.b c.gt c.gm c.wm c.rs C.x C.y c.ps.length C.xc c.ros.length C.yc A.u A.s A.f A.r h.us.length A.uc h.ss.length A.sc h.fs.length A.fc h.es.length A.rc h.nx now (okG c h) w (fun wx hb => ?_)
  have rc' := rc.below hb; have rh' := rh.below hb
  exact implGuests_any _ _ _ _ _ _ _ _ _ _ _ _ c.ps c.ros _ _ _ _ _ _ _ _ _ _ _ _ h.us h.ss h.fs h.es h.nx wx rc'.ps rfl rc'.ros rfl sc.szr sc.ros rh'.us rfl rh'.ss rfl rh'.fs rfl rh'.es rfl (szu_of sh.szu (Int.le_refl _)) sh.us
theorem hu_of4 {w : World} {B : Nat} {vu vs vf vr : Value} {h : HuV} (o : Own4 w B vu vs vf vr h.us h.ss h.fs h.es) : ∃ R : HuA, vu = .slice R.u h.us.length R.uc ∧ vs = .slice R.s h.ss.length R.sc ∧ vf = .slice R.f h.fs.length R.fc ∧ vr = .slice R.r h.es.length R.rc ∧ OwnHu w B R h := by
  obtain ⟨a1, c1, rfl, -⟩ := o.u.slice
  obtain ⟨a2, c2, rfl, -⟩ := o.s.slice
  obtain ⟨a3, c3, rfl, -⟩ := o.f.slice
  obtain ⟨a4, c4, rfl, -⟩ := o.r.slice
  exact ⟨⟨a1, a2, a3, a4, c1, c2, c3, c4⟩, rfl, rfl, rfl, rfl, o⟩
theorem spec_own (A : HuA) (h : HuV) (w : World) (o : HuS w A h) :
    Calls Tryz.prog 64 #[.agg #[.slice A.u h.us.length A.uc, .slice A.s h.ss.length A.sc, .slice A.f h.fs.length A.fc, .slice A.r h.es.length A.rc, .int .i64 h.nx]] w fun e w' => ∃ R : HuA, e = .returned (.agg #[.slice R.u h.us.length R.uc, .slice R.s h.ss.length R.sc, .slice R.f h.fs.length R.fc, .slice R.r h.es.length R.rc, .int .i64 h.nx]) ∧ OwnHu w' w.heap.size R h ∧ Below w.heap.size w w' := by
  refine (l08Own_any A.u A.s A.f A.r h.us.length A.uc h.ss.length A.sc h.fs.length A.fc h.es.length A.rc h.us h.ss h.fs h.es h.nx w o.us o.ss o.fs o.es).mono ?_
  rintro e w' ⟨vu, vs, vf, vr, h1, h2, h3⟩
  obtain ⟨R, rfl, rfl, rfl, rfl, h4⟩ := hu_of4 h2
  exact ⟨R, h1, h4, h3⟩
theorem impl_copy (A : HuA) (h : HuV) (w : World) (o : HuS w A h) :
    Calls Tryz.prog 69 #[.agg #[.slice A.u h.us.length A.uc, .slice A.s h.ss.length A.sc, .slice A.f h.fs.length A.fc, .slice A.r h.es.length A.rc, .int .i64 h.nx]] w fun e w' => ∃ R : HuA, e = .returned (.agg #[.slice R.u h.us.length R.uc, .slice R.s h.ss.length R.sc, .slice R.f h.fs.length R.fc, .slice R.r h.es.length R.rc, .int .i64 h.nx]) ∧ OwnHu w' w.heap.size R h ∧ Below w.heap.size w w' := by
  refine (copyGuests_any A.u A.s A.f A.r h.us.length A.uc h.ss.length A.sc h.fs.length A.fc h.es.length A.rc h.us h.ss h.fs h.es h.nx w o.us o.ss o.fs o.es).mono ?_
  rintro e w' ⟨vu, vs, vf, vr, h1, h2, h3⟩
  obtain ⟨R, rfl, rfl, rfl, rfl, h4⟩ := hu_of4 h2
  exact ⟨R, h1, h4, h3⟩
theorem enA_ln {now ca : Int} {h : HuV} (k : Nat) (o : HuLn h) : HuLn (enA now ca h k) := by
  unfold enA
  cases hx : h.ss[k]? with
  | none => exact o
  | some x =>
    refine ⟨o.us, ?_, o.fs, ?_⟩
    · show (h.ss.take k ++ h.ss.drop (k + 1)).length ≤ _
      have := o.ss
      simp
      omega
    · have := enR_len now ca h.es x
      have h2 := o.es
      show (enR now ca h.es x).length ≤ _
      omega
theorem HuSz.hl {h : HuV} (o : HuSz h) : HuL h := ⟨o.us, o.ss, o.fs, o.es⟩
end Go.Proofs.YtheicficoilkkaaGreat

namespace Go.Proofs.YtheicficoilkkaaGreat
open Go.RowKit Go.PlainAid Go.Sort
set_option linter.unusedVariables false
theorem results_cell2 {P : Program} {fn : Func} {tmps : Array Value} {w : World} {a b : Tmp} {t : TypeId} (hr : fn.results = #[.cell a t, .tmp b]) (q : Nat) (hp : tmps.getD a undef = .pointer (some ⟨q, 0, none⟩)) {v : Value} (hv : tmps.getD b undef = v) {cs : List Value} (hb : Bx w q cs)
    (d : TypeDesc) (hu : P.underlying t = some d) (hd : d.isRow = true) (hi : (P.info? t).map (·.size) = some cs.length) : (results fn tmps).run P w = .ok (.tuple #[.agg cs.toArray, v]) w := by
  have h := run_loadVar_mid w q 0 t cs d hb.cl hu hd hi
  unfold results
  rw [hr]
  have hp' : tmps[a]?.getD undef = .pointer (some ⟨q, 0, none⟩) := by rw [← Array.getD_eq_getD_getElem?]; exact hp
  have hv' : tmps[b]?.getD undef = v := by rw [← Array.getD_eq_getD_getElem?]; exact hv
  simp [hp', hv', asAddr, h]
end Go.Proofs.YtheicficoilkkaaGreat

namespace Go.Proofs.YtheicficoilkkaaGreat
open Go.RowKit Go.PlainAid Go.Proofs.YtheicficoilkkaaGreat.Bt Go.Sort
set_option linter.unusedVariables false
set_option maxRecDepth 20000

/-- The code of what is asked ahead. -/
noncomputable def eeF (z : Bool) (now ca : Int) : Int := if fauC z now = 0 then (if dec (1 ≤ ca ∧ ca ≤ 6) = true then 0 else 4) else fauC z now
noncomputable def eeC (c : CfV) (h : HuV) (q now ca : Int) : Int := if eeF (okG c h) now ca = 0 then (if ixI (siP q) h.ss < 0 then 5 else 0) else eeF (okG c h) now ca
noncomputable def eeG (c : CfV) (h : HuV) (q now ca : Int) : HuV := if eeF (okG c h) now ca = 0 then (if ixI (siP q) h.ss < 0 then h else enA now ca h (ixI (siP q) h.ss).toNat) else zeroHu
theorem fau_zero {z : Bool} {now : Int} (h : fauC z now = 0) : z = true ∧ 0 ≤ now ∧ now ≤ 100000 := by
  unfold fauC fau2 at h
  cases z with
  | false => simp at h
  | true =>
    by_cases hd : 0 ≤ now ∧ now ≤ 100000
    · exact ⟨rfl, hd⟩
    · rw [dec_n hd] at h; simp at h
theorem eeF_zero {z : Bool} {now ca : Int} (h : eeF z now ca = 0) : z = true ∧ (0 ≤ now ∧ now ≤ 100000) ∧ (1 ≤ ca ∧ ca ≤ 6) := by
  unfold eeF at h
  split at h
  · rename_i h1
    obtain ⟨h2, h3, h4⟩ := fau_zero h1
    split at h
    · rename_i h5
      exact ⟨h2, ⟨h3, h4⟩, of_decide_eq_true h5⟩
    · simp at h
  · rename_i h1
    exact absurd h h1
theorem eeG_ok {c : CfV} {h : HuV} {q now ca : Int} (o : HuOk h) : HuOk (eeG c h q now ca) := by
  unfold eeG
  split
  · rename_i h1
    obtain ⟨-, h2, h3⟩ := eeF_zero h1
    split
    · exact o
    · exact enA_ok _ o h2 ⟨by omega, h3.2⟩
  · exact zeroHu_ok
theorem eeG_ln {c : CfV} {h : HuV} {q now ca : Int} (o : HuLn h) : HuLn (eeG c h q now ca) := by
  unfold eeG
  split
  · split
    · exact o
    · exact enA_ln _ o
  · exact ⟨Nat.zero_le _, Nat.zero_le _, Nat.zero_le _, Nat.zero_le _⟩
set_option maxHeartbeats 4000000 in
theorem specEndSession_any (C : CfA) (c : CfV) (A : HuA) (h : HuV) (q now ca : Int) (w : World) (rc : CfR w C c) (rh : HuR w A h) (hs : HuS w A h) (sc : CfSz c) (sh : HuSz h) :
    Calls Tryz.prog 16 #[.agg #[.int .i64 c.ip, .int .i64 c.b, .int .i64 c.gt, .string c.gm, .string c.wm, .int .i64 c.rs, .slice C.x c.ps.length C.xc, .slice C.y c.ros.length C.yc], .agg #[.slice A.u h.us.length A.uc, .slice A.s h.ss.length A.sc, .slice A.f h.fs.length A.fc, .slice A.r h.es.length A.rc, .int .i64 h.nx], .int .i64 q, .int .i64 now, .int .i64 ca] w fun e w' => ∃ R : HuA, e = .returned (.tuple #[.agg #[.slice R.u (eeG c h q now ca).us.length R.uc, .slice R.s (eeG c h q now ca).ss.length R.sc, .slice R.f (eeG c h q now ca).fs.length R.fc, .slice R.r (eeG c h q now ca).es.length R.rc, .int .i64 (eeG c h q now ca).nx], .int .i64 (eeC c h q now ca)]) ∧ OwnHu w' w.heap.size R (eeG c h q now ca) ∧ Below w.heap.size w w' := by
  have HA : Hid (∀ wx, Below w.heap.size w wx → Calls Tryz.prog 62 #[.agg #[.int .i64 c.ip, .int .i64 c.b, .int .i64 c.gt, .string c.gm, .string c.wm, .int .i64 c.rs, .slice C.x c.ps.length C.xc, .slice C.y c.ros.length C.yc], .agg #[.slice A.u h.us.length A.uc, .slice A.s h.ss.length A.sc, .slice A.f h.fs.length A.fc, .slice A.r h.es.length A.rc, .int .i64 h.nx], .int .i64 now] wx fun e w' => e = .returned (.int .i64 (fauC (okG c h) now)) ∧ Below wx.heap.size wx w') := fun wx hb => spec_ask C c A h now wx (rc.below hb) (rh.below hb) sc sh
  have HC : Hid (∀ wx, Calls Tryz.prog 38 #[.int .i64 ca, .int .i64 1, .int .i64 6] wx fun e w' => e = .returned (.bool (dec (1 ≤ ca ∧ ca ≤ 6))) ∧ w' = wx) := fun wx => l01In_any ca 1 6 wx
  have HP : Hid (∀ wx, Below w.heap.size w wx → Calls Tryz.prog 63 #[.agg #[.slice A.u h.us.length A.uc, .slice A.s h.ss.length A.sc, .slice A.f h.fs.length A.fc, .slice A.r h.es.length A.rc, .int .i64 h.nx], .int .i64 q] wx fun e w' => e = .returned (.int .i64 (ixI (siP q) h.ss)) ∧ Below wx.heap.size wx w') := fun wx hb => (l08Sess_any A h q wx (rh.below hb).ss sh.ss).mono fun e w' h => ⟨h.1, h.2.below⟩
  have HO : Hid (∀ wx, Below w.heap.size w wx → Calls Tryz.prog 64 #[.agg #[.slice A.u h.us.length A.uc, .slice A.s h.ss.length A.sc, .slice A.f h.fs.length A.fc, .slice A.r h.es.length A.rc, .int .i64 h.nx]] wx fun e w' => ∃ R : HuA, e = .returned (.agg #[.slice R.u h.us.length R.uc, .slice R.s h.ss.length R.sc, .slice R.f h.fs.length R.fc, .slice R.r h.es.length R.rc, .int .i64 h.nx]) ∧ OwnHu w' wx.heap.size R h ∧ Below wx.heap.size wx w') := fun wx hb => spec_own A h wx (hs.below hb)
  have HE : Hid (∀ wx (k : Nat) (x : SessV), Below w.heap.size w wx → h.ss = h.ss.take k ++ x :: h.ss.drop (k + 1) → (h.ss.take k).length = k → (0 ≤ now ∧ now ≤ 100000) → (0 ≤ ca ∧ ca ≤ 6) → Calls Tryz.prog 65 #[.agg #[.slice A.u h.us.length A.uc, .slice A.s h.ss.length A.sc, .slice A.f h.fs.length A.fc, .slice A.r h.es.length A.rc, .int .i64 h.nx], .int .i64 (k : Int), .int .i64 now, .int .i64 ca] wx fun e w' => ∃ A' : HuA, e = .returned (.agg #[.slice A'.u (enG now ca h (h.ss.take k) (h.ss.drop (k + 1)) x).us.length A'.uc, .slice A'.s (enG now ca h (h.ss.take k) (h.ss.drop (k + 1)) x).ss.length A'.sc, .slice A'.f (enG now ca h (h.ss.take k) (h.ss.drop (k + 1)) x).fs.length A'.fc, .slice A'.r (enG now ca h (h.ss.take k) (h.ss.drop (k + 1)) x).es.length A'.rc, .int .i64 (enG now ca h (h.ss.take k) (h.ss.drop (k + 1)) x).nx]) ∧ HuS w' A' (enG now ca h (h.ss.take k) (h.ss.drop (k + 1)) x) ∧ Below wx.heap.size wx w') := fun wx k x hb he hk hn hc => l08End_any A h (h.ss.take k) (h.ss.drop (k + 1)) x k now ca wx (hs.below hb) he hk hn hc
  clear rc rh
  have P0 : Hid (Bx (((w.alloc (.cells #[.int .i64 c.ip, .int .i64 c.b, .int .i64 c.gt, .string c.gm, .string c.wm, .int .i64 c.rs, .slice C.x c.ps.length C.xc, .slice C.y c.ros.length C.yc] 41)).alloc (.cells #[.slice A.u h.us.length A.uc, .slice A.s h.ss.length A.sc, .slice A.f h.fs.length A.fc, .slice A.r h.es.length A.rc, .int .i64 h.nx] 48)).alloc (.cells #[.slice none 0 0, .slice none 0 0, .slice none 0 0, .slice none 0 0, .int .i64 0] 48)) w.heap.size [.int .i64 c.ip, .int .i64 c.b, .int .i64 c.gt, .string c.gm, .string c.wm, .int .i64 c.rs, .slice C.x c.ps.length C.xc, .slice C.y c.ros.length C.yc] ∧ Bx (((w.alloc (.cells #[.int .i64 c.ip, .int .i64 c.b, .int .i64 c.gt, .string c.gm, .string c.wm, .int .i64 c.rs, .slice C.x c.ps.length C.xc, .slice C.y c.ros.length C.yc] 41)).alloc (.cells #[.slice A.u h.us.length A.uc, .slice A.s h.ss.length A.sc, .slice A.f h.fs.length A.fc, .slice A.r h.es.length A.rc, .int .i64 h.nx] 48)).alloc (.cells #[.slice none 0 0, .slice none 0 0, .slice none 0 0, .slice none 0 0, .int .i64 0] 48)) (w.heap.size + 1) [.slice A.u h.us.length A.uc, .slice A.s h.ss.length A.sc, .slice A.f h.fs.length A.fc, .slice A.r h.es.length A.rc, .int .i64 h.nx] ∧ Bx (((w.alloc (.cells #[.int .i64 c.ip, .int .i64 c.b, .int .i64 c.gt, .string c.gm, .string c.wm, .int .i64 c.rs, .slice C.x c.ps.length C.xc, .slice C.y c.ros.length C.yc] 41)).alloc (.cells #[.slice A.u h.us.length A.uc, .slice A.s h.ss.length A.sc, .slice A.f h.fs.length A.fc, .slice A.r h.es.length A.rc, .int .i64 h.nx] 48)).alloc (.cells #[.slice none 0 0, .slice none 0 0, .slice none 0 0, .slice none 0 0, .int .i64 0] 48)) (w.heap.size + 1 + 1) [.slice none 0 0, .slice none 0 0, .slice none 0 0, .slice none 0 0, .int .i64 0] ∧ Below w.heap.size w (((w.alloc (.cells #[.int .i64 c.ip, .int .i64 c.b, .int .i64 c.gt, .string c.gm, .string c.wm, .int .i64 c.rs, .slice C.x c.ps.length C.xc, .slice C.y c.ros.length C.yc] 41)).alloc (.cells #[.slice A.u h.us.length A.uc, .slice A.s h.ss.length A.sc, .slice A.f h.fs.length A.fc, .slice A.r h.es.length A.rc, .int .i64 h.nx] 48)).alloc (.cells #[.slice none 0 0, .slice none 0 0, .slice none 0 0, .slice none 0 0, .int .i64 0] 48))) := by
    refine ⟨((Bx.new w #[.int .i64 c.ip, .int .i64 c.b, .int .i64 c.gt, .string c.gm, .string c.wm, .int .i64 c.rs, .slice C.x c.ps.length C.xc, .slice C.y c.ros.length C.yc] 41).below ((Below.refl _ _).alloc (Nat.le_refl _) _)).below ((Below.refl _ _).alloc (Nat.le_refl _) _), ?_, ?_, (((Below.refl _ _).alloc (Nat.le_refl _) _).alloc (by simp) _).alloc (by simp; omega) _⟩
    · have h := Bx.new (w.alloc (.cells #[.int .i64 c.ip, .int .i64 c.b, .int .i64 c.gt, .string c.gm, .string c.wm, .int .i64 c.rs, .slice C.x c.ps.length C.xc, .slice C.y c.ros.length C.yc] 41)) #[.slice A.u h.us.length A.uc, .slice A.s h.ss.length A.sc, .slice A.f h.fs.length A.fc, .slice A.r h.es.length A.rc, .int .i64 h.nx] 48
      rw [World.size_alloc] at h
      exact h.below ((Below.refl _ _).alloc (Nat.le_refl _) _)
    · have h := Bx.new ((w.alloc (.cells #[.int .i64 c.ip, .int .i64 c.b, .int .i64 c.gt, .string c.gm, .string c.wm, .int .i64 c.rs, .slice C.x c.ps.length C.xc, .slice C.y c.ros.length C.yc] 41)).alloc (.cells #[.slice A.u h.us.length A.uc, .slice A.s h.ss.length A.sc, .slice A.f h.fs.length A.fc, .slice A.r h.es.length A.rc, .int .i64 h.nx] 48)) #[.slice none 0 0, .slice none 0 0, .slice none 0 0, .slice none 0 0, .int .i64 0] 48
      rw [World.size_alloc, World.size_alloc] at h
      exact h
  unfold eeC eeG eeF
  have hok : fauC (okG c h) now = 0 → okG c h = true ∧ 0 ≤ now ∧ now ≤ 100000 := fun h => fau_zero h
  generalize fauC (okG c h) now = f at HA hok ⊢
  by_cases hf : ¬ f = 0
  · have hfb : (f != 0) = true := by simp [hf]
    have hz1 : (if f = 0 then (if dec (1 ≤ ca ∧ ca ≤ 6) = true then (0 : Int) else 4) else f) = f := if_neg hf
    rw [hz1, if_neg hf, if_neg hf]
    go_enter Tryz.func16, Tryz.ntmps16
    go_wp2_with (first | (refine wpl_getT 41 rfl _ rfl (w.heap.size) rfl P0.out.1 _ Tryz.underlying41 rfl rfl ?_) | (refine wpl_getT 48 rfl _ rfl (w.heap.size + 1) rfl P0.out.2.1 _ Tryz.underlying48 rfl rfl ?_) | fail)
    refine (HA.out _ P0.out.2.2.2).mono ?_
    rintro e w1 ⟨rfl, bx⟩
    have P1 : Hid (Bx w1 w.heap.size [.int .i64 c.ip, .int .i64 c.b, .int .i64 c.gt, .string c.gm, .string c.wm, .int .i64 c.rs, .slice C.x c.ps.length C.xc, .slice C.y c.ros.length C.yc] ∧ Bx w1 (w.heap.size + 1) [.slice A.u h.us.length A.uc, .slice A.s h.ss.length A.sc, .slice A.f h.fs.length A.fc, .slice A.r h.es.length A.rc, .int .i64 h.nx] ∧ Bx w1 (w.heap.size + 1 + 1) [.slice none 0 0, .slice none 0 0, .slice none 0 0, .slice none 0 0, .int .i64 0] ∧ Below w.heap.size w w1) := ⟨P0.out.1.below bx, P0.out.2.1.below bx, P0.out.2.2.1.below bx, P0.out.2.2.2.trans (bx.mono P0.out.2.2.2.size)⟩
    clear bx P0 HA
    go_wp2_with (first | (refine wpl_putT 48 rfl _ _ rfl (w.heap.size + 1 + 1) _ rfl rfl P1.out.2.2.1 rfl rfl rfl ?_; intro W5 hw5 R5; have B5 : Hid (Below w.heap.size w W5) := (by rw [hw5]; exact below_cells (by omega) _ _ _ P1.out.2.2.2); clear hw5) | fail)
    refine bodyPost_ret (v := .tuple #[.agg #[.slice none 0 0, .slice none 0 0, .slice none 0 0, .slice none 0 0, .int .i64 0], .int .i64 f]) (results_cell2 Tryz.results16 (w.heap.size + 1 + 1) rfl rfl R5 _ Tryz.underlying48 rfl rfl) rfl ?_
    exact ⟨zeroHA, rfl, OwnHu.zero _ _, B5.out⟩
  replace hf : f = 0 := Classical.not_not.1 hf
  obtain ⟨hk, hn⟩ := hok hf
  clear hok
  subst hf
  rw [if_pos rfl]
  by_cases hc : ¬ (1 ≤ ca ∧ ca ≤ 6)
  · have hd : dec (1 ≤ ca ∧ ca ≤ 6) = false := dec_n hc
    rw [hd] at HC ⊢
    simp only [Bool.false_eq_true, if_false]
    rw [if_neg (show ¬ (4 : Int) = 0 by decide), if_neg (show ¬ (4 : Int) = 0 by decide)]
    clear hd
    go_enter Tryz.func16, Tryz.ntmps16
    go_wp2_with (first | (refine wpl_getT 41 rfl _ rfl (w.heap.size) rfl P0.out.1 _ Tryz.underlying41 rfl rfl ?_) | (refine wpl_getT 48 rfl _ rfl (w.heap.size + 1) rfl P0.out.2.1 _ Tryz.underlying48 rfl rfl ?_) | fail)
    refine (HA.out _ P0.out.2.2.2).mono ?_
    rintro e w1 ⟨rfl, bx⟩
    have P1 : Hid (Bx w1 w.heap.size [.int .i64 c.ip, .int .i64 c.b, .int .i64 c.gt, .string c.gm, .string c.wm, .int .i64 c.rs, .slice C.x c.ps.length C.xc, .slice C.y c.ros.length C.yc] ∧ Bx w1 (w.heap.size + 1) [.slice A.u h.us.length A.uc, .slice A.s h.ss.length A.sc, .slice A.f h.fs.length A.fc, .slice A.r h.es.length A.rc, .int .i64 h.nx] ∧ Bx w1 (w.heap.size + 1 + 1) [.slice none 0 0, .slice none 0 0, .slice none 0 0, .slice none 0 0, .int .i64 0] ∧ Below w.heap.size w w1) := ⟨P0.out.1.below bx, P0.out.2.1.below bx, P0.out.2.2.1.below bx, P0.out.2.2.2.trans (bx.mono P0.out.2.2.2.size)⟩
    clear bx P0 HA
    go_wp2_with fail
    refine (HC.out _).mono ?_
    rintro e w2 ⟨rfl, rfl⟩
    go_wp2_with (first | (refine wpl_putT 48 rfl _ _ rfl (w.heap.size + 1 + 1) _ rfl rfl P1.out.2.2.1 rfl rfl rfl ?_; intro W5 hw5 R5; have B5 : Hid (Below w.heap.size w W5) := (by rw [hw5]; exact below_cells (by omega) _ _ _ P1.out.2.2.2); clear hw5) | fail)
    refine bodyPost_ret (v := .tuple #[.agg #[.slice none 0 0, .slice none 0 0, .slice none 0 0, .slice none 0 0, .int .i64 0], .int .i64 4]) (results_cell2 Tryz.results16 (w.heap.size + 1 + 1) rfl rfl R5 _ Tryz.underlying48 rfl rfl) rfl ?_
    exact ⟨zeroHA, rfl, OwnHu.zero _ _, B5.out⟩
  replace hc : 1 ≤ ca ∧ ca ≤ 6 := Classical.not_not.1 hc
  have hd : dec (1 ≤ ca ∧ ca ≤ 6) = true := dec_y hc
  rw [hd] at HC ⊢
  rw [if_pos rfl, if_pos rfl, if_pos rfl]
  clear hd
  by_cases hk0 : ixI (siP q) h.ss < 0
  · rw [if_pos hk0, if_pos hk0]
    have hkn : decide (ixI (siP q) h.ss < 0) = true := decide_eq_true hk0
    clear hk0
    generalize ixI (siP q) h.ss = kk at HP hkn
    go_enter Tryz.func16, Tryz.ntmps16
    go_wp2_with (first | (refine wpl_getT 41 rfl _ rfl (w.heap.size) rfl P0.out.1 _ Tryz.underlying41 rfl rfl ?_) | (refine wpl_getT 48 rfl _ rfl (w.heap.size + 1) rfl P0.out.2.1 _ Tryz.underlying48 rfl rfl ?_) | fail)
    refine (HA.out _ P0.out.2.2.2).mono ?_
    rintro e w1 ⟨rfl, bx⟩
    have P1 : Hid (Bx w1 w.heap.size [.int .i64 c.ip, .int .i64 c.b, .int .i64 c.gt, .string c.gm, .string c.wm, .int .i64 c.rs, .slice C.x c.ps.length C.xc, .slice C.y c.ros.length C.yc] ∧ Bx w1 (w.heap.size + 1) [.slice A.u h.us.length A.uc, .slice A.s h.ss.length A.sc, .slice A.f h.fs.length A.fc, .slice A.r h.es.length A.rc, .int .i64 h.nx] ∧ Bx w1 (w.heap.size + 1 + 1) [.slice none 0 0, .slice none 0 0, .slice none 0 0, .slice none 0 0, .int .i64 0] ∧ Below w.heap.size w w1) := ⟨P0.out.1.below bx, P0.out.2.1.below bx, P0.out.2.2.1.below bx, P0.out.2.2.2.trans (bx.mono P0.out.2.2.2.size)⟩
    clear bx P0 HA
    go_wp2_with fail
    refine (HC.out _).mono ?_
    rintro e w2 ⟨rfl, rfl⟩
    go_wp2_with (first | (refine wpl_getT 48 rfl _ rfl (w.heap.size + 1) rfl P1.out.2.1 _ Tryz.underlying48 rfl rfl ?_) | fail)
    refine (HP.out _ P1.out.2.2.2).mono ?_
    rintro e w3 ⟨rfl, bx⟩
    have P3 : Hid (Bx w3 w.heap.size [.int .i64 c.ip, .int .i64 c.b, .int .i64 c.gt, .string c.gm, .string c.wm, .int .i64 c.rs, .slice C.x c.ps.length C.xc, .slice C.y c.ros.length C.yc] ∧ Bx w3 (w.heap.size + 1) [.slice A.u h.us.length A.uc, .slice A.s h.ss.length A.sc, .slice A.f h.fs.length A.fc, .slice A.r h.es.length A.rc, .int .i64 h.nx] ∧ Bx w3 (w.heap.size + 1 + 1) [.slice none 0 0, .slice none 0 0, .slice none 0 0, .slice none 0 0, .int .i64 0] ∧ Below w.heap.size w w3) := ⟨P1.out.1.below bx, P1.out.2.1.below bx, P1.out.2.2.1.below bx, P1.out.2.2.2.trans (bx.mono P1.out.2.2.2.size)⟩
    clear bx P1 HP
    go_wp2_with (first | (refine wpl_getT 48 rfl _ rfl (w.heap.size + 1) rfl P3.out.2.1 _ Tryz.underlying48 rfl rfl ?_) | fail)
    refine (HO.out _ P3.out.2.2.2).mono ?_
    rintro e w4 ⟨R, rfl, o4, bx⟩
    have O4 : Hid (OwnHu w4 w3.heap.size R h) := o4
    have P4 : Hid (Bx w4 (w.heap.size + 1 + 1) [.slice none 0 0, .slice none 0 0, .slice none 0 0, .slice none 0 0, .int .i64 0] ∧ Below w.heap.size w w4 ∧ w.heap.size + 1 + 1 < w3.heap.size) := ⟨P3.out.2.2.1.below bx, P3.out.2.2.2.trans (bx.mono P3.out.2.2.2.size), World.block_lt_of_cell? w3 ⟨w.heap.size + 1 + 1, 0, none⟩ (P3.out.2.2.1.cell 0 rfl)⟩
    clear o4 bx P3
    go_wp2_with (first | (refine wpl_putT 48 rfl _ _ rfl (w.heap.size + 1 + 1) _ rfl rfl P4.out.1 rfl rfl rfl ?_; intro W5 hw5 R5; have B5 : Hid (Below w.heap.size w W5) := (by rw [hw5]; exact below_cells (by omega) _ _ _ P4.out.2.1); have O5 : Hid (OwnHu W5 w.heap.size R h) := (by rw [hw5]; exact Own4.lower (OwnHu.keep O4.out (fun b hb => (heap_cellsA _ _ _).2 b (by have := (O4.out.lt b hb).1; have := P4.out.2.2; omega))) (by have := P4.out.2.2; omega)); clear hw5) | fail)
    refine bodyPost_ret (v := .tuple #[.agg #[.slice R.u h.us.length R.uc, .slice R.s h.ss.length R.sc, .slice R.f h.fs.length R.fc, .slice R.r h.es.length R.rc, .int .i64 h.nx], .int .i64 5]) (results_cell2 Tryz.results16 (w.heap.size + 1 + 1) rfl rfl R5 _ Tryz.underlying48 rfl rfl) rfl ?_
    exact ⟨R, rfl, O5.out, B5.out⟩
  obtain ⟨k, x, hkk, hx, hxi, hsp⟩ := ixI_split hk0
  rw [if_neg hk0, if_neg hk0]
  rw [hkk] at hk0 HP ⊢
  rw [show ((k : Int)).toNat = k by simp, enA_at hx]
  have hkl : (h.ss.take k).length = k := by have := (List.getElem?_eq_some_iff.1 hx).1; rw [List.length_take]; omega
  have hc2 : 0 ≤ ca ∧ ca ≤ 6 := ⟨by omega, hc.2⟩
  have hkn : decide ((k : Int) < 0) = false := decide_eq_false hk0
  have HE2 : Hid (∀ wx, Below w.heap.size w wx → Calls Tryz.prog 65 #[.agg #[.slice A.u h.us.length A.uc, .slice A.s h.ss.length A.sc, .slice A.f h.fs.length A.fc, .slice A.r h.es.length A.rc, .int .i64 h.nx], .int .i64 (k : Int), .int .i64 now, .int .i64 ca] wx fun e w' => ∃ A' : HuA, e = .returned (.agg #[.slice A'.u (enG now ca h (h.ss.take k) (h.ss.drop (k + 1)) x).us.length A'.uc, .slice A'.s (enG now ca h (h.ss.take k) (h.ss.drop (k + 1)) x).ss.length A'.sc, .slice A'.f (enG now ca h (h.ss.take k) (h.ss.drop (k + 1)) x).fs.length A'.fc, .slice A'.r (enG now ca h (h.ss.take k) (h.ss.drop (k + 1)) x).es.length A'.rc, .int .i64 (enG now ca h (h.ss.take k) (h.ss.drop (k + 1)) x).nx]) ∧ HuS w' A' (enG now ca h (h.ss.take k) (h.ss.drop (k + 1)) x) ∧ Below wx.heap.size wx w') := fun wx hb => HE.out wx k x hb hsp hkl hn hc2
  clear HE hsp hx hxi hkk hk hn hc hc2 hkl hk0
  generalize (enG now ca h (h.ss.take k) (h.ss.drop (k + 1)) x) = GG at HE2 ⊢
  have HE : Hid _ := HE2.out
  clear HE2
  go_enter Tryz.func16, Tryz.ntmps16
  go_wp2_with (first | (refine wpl_getT 41 rfl _ rfl (w.heap.size) rfl P0.out.1 _ Tryz.underlying41 rfl rfl ?_) | (refine wpl_getT 48 rfl _ rfl (w.heap.size + 1) rfl P0.out.2.1 _ Tryz.underlying48 rfl rfl ?_) | fail)
  refine (HA.out _ P0.out.2.2.2).mono ?_
  rintro e w1 ⟨rfl, bx⟩
  have P1 : Hid (Bx w1 w.heap.size [.int .i64 c.ip, .int .i64 c.b, .int .i64 c.gt, .string c.gm, .string c.wm, .int .i64 c.rs, .slice C.x c.ps.length C.xc, .slice C.y c.ros.length C.yc] ∧ Bx w1 (w.heap.size + 1) [.slice A.u h.us.length A.uc, .slice A.s h.ss.length A.sc, .slice A.f h.fs.length A.fc, .slice A.r h.es.length A.rc, .int .i64 h.nx] ∧ Bx w1 (w.heap.size + 1 + 1) [.slice none 0 0, .slice none 0 0, .slice none 0 0, .slice none 0 0, .int .i64 0] ∧ Below w.heap.size w w1) := ⟨P0.out.1.below bx, P0.out.2.1.below bx, P0.out.2.2.1.below bx, P0.out.2.2.2.trans (bx.mono P0.out.2.2.2.size)⟩
  clear bx P0 HA
  go_wp2_with fail
  refine (HC.out _).mono ?_
  rintro e w2 ⟨rfl, rfl⟩
  go_wp2_with (first | (refine wpl_getT 48 rfl _ rfl (w.heap.size + 1) rfl P1.out.2.1 _ Tryz.underlying48 rfl rfl ?_) | fail)
  refine (HP.out _ P1.out.2.2.2).mono ?_
  rintro e w3 ⟨rfl, bx⟩
  have P3 : Hid (Bx w3 w.heap.size [.int .i64 c.ip, .int .i64 c.b, .int .i64 c.gt, .string c.gm, .string c.wm, .int .i64 c.rs, .slice C.x c.ps.length C.xc, .slice C.y c.ros.length C.yc] ∧ Bx w3 (w.heap.size + 1) [.slice A.u h.us.length A.uc, .slice A.s h.ss.length A.sc, .slice A.f h.fs.length A.fc, .slice A.r h.es.length A.rc, .int .i64 h.nx] ∧ Bx w3 (w.heap.size + 1 + 1) [.slice none 0 0, .slice none 0 0, .slice none 0 0, .slice none 0 0, .int .i64 0] ∧ Below w.heap.size w w3) := ⟨P1.out.1.below bx, P1.out.2.1.below bx, P1.out.2.2.1.below bx, P1.out.2.2.2.trans (bx.mono P1.out.2.2.2.size)⟩
  clear bx P1 HP
  go_wp2_with (first | (refine wpl_getT 48 rfl _ rfl (w.heap.size + 1) rfl P3.out.2.1 _ Tryz.underlying48 rfl rfl ?_) | fail)
  refine (HE.out _ P3.out.2.2.2).mono ?_
  rintro e w4 ⟨A4, rfl, s4, bx⟩
  have S4 : Hid (HuS w4 A4 GG) := s4
  have P4 : Hid (Bx w4 w.heap.size [.int .i64 c.ip, .int .i64 c.b, .int .i64 c.gt, .string c.gm, .string c.wm, .int .i64 c.rs, .slice C.x c.ps.length C.xc, .slice C.y c.ros.length C.yc] ∧ Bx w4 (w.heap.size + 1) [.slice A.u h.us.length A.uc, .slice A.s h.ss.length A.sc, .slice A.f h.fs.length A.fc, .slice A.r h.es.length A.rc, .int .i64 h.nx] ∧ Bx w4 (w.heap.size + 1 + 1) [.slice none 0 0, .slice none 0 0, .slice none 0 0, .slice none 0 0, .int .i64 0] ∧ Below w.heap.size w w4) := ⟨P3.out.1.below bx, P3.out.2.1.below bx, P3.out.2.2.1.below bx, P3.out.2.2.2.trans (bx.mono P3.out.2.2.2.size)⟩
  clear s4 bx P3 HE HO
  have HW : Hid (∀ wx, HuS wx A4 GG → Calls Tryz.prog 64 #[.agg #[.slice A4.u GG.us.length A4.uc, .slice A4.s GG.ss.length A4.sc, .slice A4.f GG.fs.length A4.fc, .slice A4.r GG.es.length A4.rc, .int .i64 GG.nx]] wx fun e w' => ∃ R : HuA, e = .returned (.agg #[.slice R.u GG.us.length R.uc, .slice R.s GG.ss.length R.sc, .slice R.f GG.fs.length R.fc, .slice R.r GG.es.length R.rc, .int .i64 GG.nx]) ∧ OwnHu w' wx.heap.size R GG ∧ Below wx.heap.size wx w') := fun wx o => spec_own A4 GG wx o
  go_wp2_with fail
  refine (HW.out _ S4.out).mono ?_
  rintro e w5 ⟨R, rfl, o4, bx⟩
  have O4 : Hid (OwnHu w5 w4.heap.size R GG) := o4
  have Q4 : Hid (Bx w5 (w.heap.size + 1 + 1) [.slice none 0 0, .slice none 0 0, .slice none 0 0, .slice none 0 0, .int .i64 0] ∧ Below w.heap.size w w5 ∧ w.heap.size + 1 + 1 < w4.heap.size) := ⟨P4.out.2.2.1.below bx, P4.out.2.2.2.trans (bx.mono P4.out.2.2.2.size), World.block_lt_of_cell? w4 ⟨w.heap.size + 1 + 1, 0, none⟩ (P4.out.2.2.1.cell 0 rfl)⟩
  clear o4 bx P4 HW S4
  go_wp2_with (first | (refine wpl_putT 48 rfl _ _ rfl (w.heap.size + 1 + 1) _ rfl rfl Q4.out.1 rfl rfl rfl ?_; intro W5 hw5 R5; have B5 : Hid (Below w.heap.size w W5) := (by rw [hw5]; exact below_cells (by omega) _ _ _ Q4.out.2.1); have O5 : Hid (OwnHu W5 w.heap.size R GG) := (by rw [hw5]; exact Own4.lower (OwnHu.keep O4.out (fun b hb => (heap_cellsA _ _ _).2 b (by have := (O4.out.lt b hb).1; have := Q4.out.2.2; omega))) (by have := Q4.out.2.2; omega)); clear hw5) | fail)
  refine bodyPost_ret (v := .tuple #[.agg #[.slice R.u GG.us.length R.uc, .slice R.s GG.ss.length R.sc, .slice R.f GG.fs.length R.fc, .slice R.r GG.es.length R.rc, .int .i64 GG.nx], .int .i64 0]) (results_cell2 Tryz.results16 (w.heap.size + 1 + 1) rfl rfl R5 _ Tryz.underlying48 rfl rfl) rfl ?_
  exact ⟨R, rfl, O5.out, B5.out⟩
end Go.Proofs.YtheicficoilkkaaGreat

namespace Go.Proofs.YtheicficoilkkaaGreat
open Go.RowKit Go.PlainAid Go.Proofs.YtheicficoilkkaaGreat.Bt Go.Sort
set_option linter.unusedVariables false
set_option maxRecDepth 20000
set_option maxHeartbeats 2000000 in
theorem idxSess_any (y : Option Addr) (n c : Nat) (xs : List SessV) (p : SessV → Bool) (B0 : Nat) (w : World) (h : Rw SeR 10 w y xs) (hl : xs.length = n) (hn : n ≤ 9223372036854775807)
    (hp : ∀ z, z ∈ xs → ∀ W, Below w.heap.size w W → Calls Tryz.prog 119 #[.agg #[.int .i64 z.id, .int .i64 z.us, .string z.mc, .int .i64 z.ip, .int .i64 z.be, .int .i64 z.la, .int .i64 z.ud, .int .i64 z.qu, .int .i64 z.un, .int .i64 z.il], .pointer (some ⟨B0, 0, none⟩)] W fun e w' => e = .returned (.bool (p z)) ∧ Grw W w') :
    Calls Tryz.prog 118 #[.slice y n c, .func (.func 119) #[] #[.pointer (some ⟨B0, 0, none⟩)]] w fun e w' => e = .returned (.int .i64 (ixI p xs)) ∧ Grw w w' := by
  have RY : Hid (Rw SeR 10 w y xs) := h
  have HP0 : Hid (∀ z, z ∈ xs → ∀ W, Below w.heap.size w W → Calls Tryz.prog 119 #[.agg #[.int .i64 z.id, .int .i64 z.us, .string z.mc, .int .i64 z.ip, .int .i64 z.be, .int .i64 z.la, .int .i64 z.ud, .int .i64 z.qu, .int .i64 z.un, .int .i64 z.il], .pointer (some ⟨B0, 0, none⟩)] W fun e w' => e = .returned (.bool (p z)) ∧ Grw W w') := hp
  clear h hp
  have eg : ∀ args w, (callFunc 119 args).run Tryz.prog w = .ok (.enter 119 args) w := enters_of Tryz.func119 (by kernel_rfl) rfl
  go_enter Tryz.func118, Tryz.ntmps118
  go_wp2
  go_loopw [8] (fun u wr => ∃ k : Nat, k ≤ n ∧ u = .int .i64 k ∧ Hid ((xs.take k).find? p = none) ∧ Hid (Grw w wr)) (fun u _ => n - (intOf u).toNat)
  case atStart => exact ⟨0, Nat.zero_le _, rfl, rfl, Grw.refl _⟩
  case round =>
    obtain ⟨k, hk, rfl, HO, HG⟩ := hrel
    by_cases hlt : k < n
    · obtain ⟨z, hx⟩ := at_of hl hlt
      obtain ⟨bk, off, vs, rfl, hb, hvl, hR, hc⟩ := RY.out.at SeR.kp HG.out.below hx
      have HY : Hid (p z = true → ixI p xs = k) := fun h => ixI_at hx HO.out h
      have HN : Hid (p z = false → (xs.take (k + 1)).find? p = none) := fun h => ixI_no hx HO.out h
      obtain ⟨rfl, -⟩ := hR
      have q0 : wr.cell? ⟨bk, off + k * 10, none⟩ = some (.int .i64 z.id) := hc 0 _ rfl
      have q1 : wr.cell? ⟨bk, off + k * 10 + 1, none⟩ = some (.int .i64 z.us) := hc 1 _ rfl
      have q2 : wr.cell? ⟨bk, off + k * 10 + 2, none⟩ = some (.string z.mc) := hc 2 _ rfl
      have q3 : wr.cell? ⟨bk, off + k * 10 + 3, none⟩ = some (.int .i64 z.ip) := hc 3 _ rfl
      have q4 : wr.cell? ⟨bk, off + k * 10 + 4, none⟩ = some (.int .i64 z.be) := hc 4 _ rfl
      have q5 : wr.cell? ⟨bk, off + k * 10 + 5, none⟩ = some (.int .i64 z.la) := hc 5 _ rfl
      have q6 : wr.cell? ⟨bk, off + k * 10 + 6, none⟩ = some (.int .i64 z.ud) := hc 6 _ rfl
      have q7 : wr.cell? ⟨bk, off + k * 10 + 7, none⟩ = some (.int .i64 z.qu) := hc 7 _ rfl
      have q8 : wr.cell? ⟨bk, off + k * 10 + 8, none⟩ = some (.int .i64 z.un) := hc 8 _ rfl
      have q9 : wr.cell? ⟨bk, off + k * 10 + 9, none⟩ = some (.int .i64 z.il) := hc 9 _ rfl
      have hltz : (k : Int) < (n : Int) := by omega
      have HP : Hid (∀ W, Grw w W → Calls Tryz.prog 119 #[.agg #[.int .i64 z.id, .int .i64 z.us, .string z.mc, .int .i64 z.ip, .int .i64 z.be, .int .i64 z.la, .int .i64 z.ud, .int .i64 z.qu, .int .i64 z.un, .int .i64 z.il], .pointer (some ⟨B0, 0, none⟩)] W fun e w' => e = .returned (.bool (p z)) ∧ Grw W w') := fun W g => HP0.out z (List.mem_of_getElem? hx) W g.below
      generalize p z = u at HY HN HP
      clear hc hvl hx
      cases u with
      | false =>
        have HN' : Hid ((xs.take (k + 1)).find? p = none) := HN.out rfl
        clear HY HN
        go_wp2_with (go_at_fn 119; refine (HP.out _ HG.out).mono ?_; rintro e w' ⟨rfl, g1⟩)
        have HG1 : Hid (Grw w _) := HG.out.trans g1
        clear g1 HG
        go_roundw
        case rel => exact ⟨k + 1, by omega, by go_num, HN', HG1⟩
        case measure => simp [intOf]; omega
      | true =>
        have HY' : Hid (ixI p xs = k) := HY.out rfl
        clear HY HN
        go_wp2_with (go_at_fn 119; refine (HP.out _ HG.out).mono ?_; rintro e w' ⟨rfl, g1⟩)
        go_ret
        exact ⟨by rw [HY'.out]; rfl, HG.out.trans g1⟩
    · obtain rfl : k = n := by omega
      have hd : Hid (ixI p xs = -1) := ixI_end hl HO.out
      go_wp2
      go_ret
      exact ⟨by rw [hd.out]; rfl, HG.out⟩

theorem sessPlace1_any (z : SessV) (q : Int) (B : Nat) (w : World) (hc : w.cell? ⟨B, 0, none⟩ = some (.int .i64 q)) :
    Calls Tryz.prog 119 #[.agg #[.int .i64 z.id, .int .i64 z.us, .string z.mc, .int .i64 z.ip, .int .i64 z.be, .int .i64 z.la, .int .i64 z.ud, .int .i64 z.qu, .int .i64 z.un, .int .i64 z.il], .pointer (some ⟨B, 0, none⟩)] w fun e w' => e = .returned (.bool (siP q z)) ∧ Grw w w' := by
  have hc2 := acell hc (.cells #[.int .i64 z.id, .int .i64 z.us, .string z.mc, .int .i64 z.ip, .int .i64 z.be, .int .i64 z.la, .int .i64 z.ud, .int .i64 z.qu, .int .i64 z.un, .int .i64 z.il] 76)
  unfold siP
  obtain ⟨u, hu⟩ : ∃ u, (z.id == q) = u := ⟨_, rfl⟩
  rw [hu]
  go_enter Tryz.func119, Tryz.ntmps119
  go_wp2
  go_ret
  exact ⟨by first | rfl | (rw [hu]; rfl), (Grw.refl _).alloc _⟩
set_option maxHeartbeats 1000000 in
theorem sessPlace_any (a : Option Addr) (n c : Nat) (ss : List SessV) (q : Int) (w : World) (h : Rw SeR 10 w a ss) (hl : ss.length = n) (hn : n ≤ 9223372036854775807) :
    Calls Tryz.prog 68 #[.slice a n c, .int .i64 q] w fun e w' => e = .returned (.int .i64 (ixI (siP q) ss)) ∧ Grw w w' := by
  have HX : Hid (∀ W B, Grw w W → W.cell? ⟨B, 0, none⟩ = some (.int .i64 q) → Calls Tryz.prog 118 #[.slice a n c, .func (.func 119) #[] #[.pointer (some ⟨B, 0, none⟩)]] W fun e w' => e = .returned (.int .i64 (ixI (siP q) ss)) ∧ Grw W w') := fun W B g hc => idxSess_any a n c ss (siP q) B W (h.keep SeR.kp g.below) hl hn (fun z _ W2 b2 => sessPlace1_any z q B W2 (bkeep b2 hc))
  clear h
  generalize ixI (siP q) ss = r at HX ⊢
  go_enter Tryz.func68, Tryz.ntmps68
  go_wp2_with (go_at_call 118; refine (HX.out _ _ ((Grw.refl w).alloc _) (by simp [go_sem])).mono ?_; rintro e w' ⟨rfl, g1⟩)
  go_ret
  exact ⟨rfl, ((Grw.refl w).alloc _).trans g1⟩
end Go.Proofs.YtheicficoilkkaaGreat

namespace Go.Proofs.YtheicficoilkkaaGreat
open Go.RowKit Go.PlainAid Go.Proofs.YtheicficoilkkaaGreat.Bt Go.Sort
set_option linter.unusedVariables false
set_option maxRecDepth 20000

theorem endOne1_any (id us_ : Int) (mc : ByteArray) (ip be la ud qu un il q ca : Int) (B0 B1 : Nat) (w : World) (h0 : w.cell? ⟨B0, 0, none⟩ = some (.int .i64 q)) (h1 : w.cell? ⟨B1, 0, none⟩ = some (.int .i64 ca)) :
    Calls Tryz.prog 124 #[.agg #[.int .i64 id, .int .i64 us_, .string mc, .int .i64 ip, .int .i64 be, .int .i64 la, .int .i64 ud, .int .i64 qu, .int .i64 un, .int .i64 il], .pointer (some ⟨B0, 0, none⟩), .pointer (some ⟨B1, 0, none⟩)] w fun e w' => e = .returned (.int .i64 (csO q ca ⟨id, us_, mc, ip, be, la, ud, qu, un, il⟩)) ∧ Grw w w' := by
  have k0 := acell h0 (.cells #[.int .i64 id, .int .i64 us_, .string mc, .int .i64 ip, .int .i64 be, .int .i64 la, .int .i64 ud, .int .i64 qu, .int .i64 un, .int .i64 il] 76)
  have k1 := acell h1 (.cells #[.int .i64 id, .int .i64 us_, .string mc, .int .i64 ip, .int .i64 be, .int .i64 la, .int .i64 ud, .int .i64 qu, .int .i64 un, .int .i64 il] 76)
  unfold csO
  dsimp only
  cases hu : (id == q) with
  | true =>
    rw [if_pos rfl]
    go_enter Tryz.func124, Tryz.ntmps124
    go_wp2
    go_ret
    exact ⟨rfl, (Grw.refl _).alloc _⟩
  | false =>
    rw [if_neg (by simp)]
    go_enter Tryz.func124, Tryz.ntmps124
    go_wp2
    go_ret
    exact ⟨rfl, (Grw.refl _).alloc _⟩
set_option maxHeartbeats 4000000 in
theorem endOne_any (A : HuA) (h G : HuV) (q now ca : Int) (w : World) (hs : HuS w A h) (hG : G = { h with ss := esS (csO q ca) h.ss h.ss.length, es := esR (csO q ca) now h.es h.ss h.ss.length }) :
    Calls Tryz.prog 70 #[.agg #[.slice A.u h.us.length A.uc, .slice A.s h.ss.length A.sc, .slice A.f h.fs.length A.fc, .slice A.r h.es.length A.rc, .int .i64 h.nx], .int .i64 q, .int .i64 now, .int .i64 ca] w fun e w' => ∃ R : HuA, e = .returned (.agg #[.slice R.u G.us.length R.uc, .slice R.s G.ss.length R.sc, .slice R.f G.fs.length R.fc, .slice R.r G.es.length R.rc, .int .i64 G.nx]) ∧ OwnHu w' w.heap.size R G ∧ Below w.heap.size w w' := by
  have P0 : Hid (Bx ((((w.alloc (.cells #[.slice A.u h.us.length A.uc, .slice A.s h.ss.length A.sc, .slice A.f h.fs.length A.fc, .slice A.r h.es.length A.rc, .int .i64 h.nx] 48)).alloc (.cells #[.int .i64 q] 3)).alloc (.cells #[.int .i64 ca] 3)).alloc (.cells #[.slice none 0 0, .slice none 0 0, .slice none 0 0, .slice none 0 0, .int .i64 0] 48)) w.heap.size [.slice A.u h.us.length A.uc, .slice A.s h.ss.length A.sc, .slice A.f h.fs.length A.fc, .slice A.r h.es.length A.rc, .int .i64 h.nx] ∧ ((((w.alloc (.cells #[.slice A.u h.us.length A.uc, .slice A.s h.ss.length A.sc, .slice A.f h.fs.length A.fc, .slice A.r h.es.length A.rc, .int .i64 h.nx] 48)).alloc (.cells #[.int .i64 q] 3)).alloc (.cells #[.int .i64 ca] 3)).alloc (.cells #[.slice none 0 0, .slice none 0 0, .slice none 0 0, .slice none 0 0, .int .i64 0] 48)).cell? ⟨w.heap.size + 1, 0, none⟩ = some (.int .i64 q) ∧ ((((w.alloc (.cells #[.slice A.u h.us.length A.uc, .slice A.s h.ss.length A.sc, .slice A.f h.fs.length A.fc, .slice A.r h.es.length A.rc, .int .i64 h.nx] 48)).alloc (.cells #[.int .i64 q] 3)).alloc (.cells #[.int .i64 ca] 3)).alloc (.cells #[.slice none 0 0, .slice none 0 0, .slice none 0 0, .slice none 0 0, .int .i64 0] 48)).cell? ⟨w.heap.size + 1 + 1, 0, none⟩ = some (.int .i64 ca) ∧ Bx ((((w.alloc (.cells #[.slice A.u h.us.length A.uc, .slice A.s h.ss.length A.sc, .slice A.f h.fs.length A.fc, .slice A.r h.es.length A.rc, .int .i64 h.nx] 48)).alloc (.cells #[.int .i64 q] 3)).alloc (.cells #[.int .i64 ca] 3)).alloc (.cells #[.slice none 0 0, .slice none 0 0, .slice none 0 0, .slice none 0 0, .int .i64 0] 48)) (w.heap.size + 1 + 1 + 1) [.slice none 0 0, .slice none 0 0, .slice none 0 0, .slice none 0 0, .int .i64 0] ∧ Below w.heap.size w ((((w.alloc (.cells #[.slice A.u h.us.length A.uc, .slice A.s h.ss.length A.sc, .slice A.f h.fs.length A.fc, .slice A.r h.es.length A.rc, .int .i64 h.nx] 48)).alloc (.cells #[.int .i64 q] 3)).alloc (.cells #[.int .i64 ca] 3)).alloc (.cells #[.slice none 0 0, .slice none 0 0, .slice none 0 0, .slice none 0 0, .int .i64 0] 48))) := by
    refine ⟨(((Bx.new w #[.slice A.u h.us.length A.uc, .slice A.s h.ss.length A.sc, .slice A.f h.fs.length A.fc, .slice A.r h.es.length A.rc, .int .i64 h.nx] 48).below ((Below.refl _ _).alloc (Nat.le_refl _) _)).below ((Below.refl _ _).alloc (Nat.le_refl _) _)).below ((Below.refl _ _).alloc (Nat.le_refl _) _), by simp [go_sem], by simp [go_sem], ?_, (((((Below.refl _ _).alloc (Nat.le_refl _) _).alloc (by simp) _).alloc (by simp; omega) _).alloc (by simp; omega) _)⟩
    have h := Bx.new (((w.alloc (.cells #[.slice A.u h.us.length A.uc, .slice A.s h.ss.length A.sc, .slice A.f h.fs.length A.fc, .slice A.r h.es.length A.rc, .int .i64 h.nx] 48)).alloc (.cells #[.int .i64 q] 3)).alloc (.cells #[.int .i64 ca] 3)) #[.slice none 0 0, .slice none 0 0, .slice none 0 0, .slice none 0 0, .int .i64 0] 48
    rw [World.size_alloc, World.size_alloc, World.size_alloc] at h
    exact h
  have eg : ∀ args w, (callFunc 124 args).run Tryz.prog w = .ok (.enter 124 args) w := enters_of Tryz.func124 (by kernel_rfl) rfl
  have HE : Hid (∀ W, Below w.heap.size w W → W.cell? ⟨w.heap.size + 1, 0, none⟩ = some (.int .i64 q) → W.cell? ⟨w.heap.size + 1 + 1, 0, none⟩ = some (.int .i64 ca) → Calls Tryz.prog 84 #[.agg #[.slice A.u h.us.length A.uc, .slice A.s h.ss.length A.sc, .slice A.f h.fs.length A.fc, .slice A.r h.es.length A.rc, .int .i64 h.nx], .int .i64 now, .func (.func 124) #[] #[.pointer (some ⟨w.heap.size + 1, 0, none⟩), .pointer (some ⟨w.heap.size + 1 + 1, 0, none⟩)]] W fun e w' => ∃ (R : HuA) (vi : Value), e = .returned (.tuple #[.agg #[.slice R.u G.us.length R.uc, .slice R.s G.ss.length R.sc, .slice R.f G.fs.length R.fc, .slice R.r G.es.length R.rc, .int .i64 G.nx], vi]) ∧ OwnHu w' W.heap.size R G ∧ Below W.heap.size W w') := by
    intro W hb h0 h1
    have s' := hs.below hb
    refine (endSessions_2 A.u A.s A.f A.r h.us.length A.uc h.ss.length A.sc h.fs.length A.fc h.es.length A.rc h.us h.ss h.fs h.es h.nx now 124 _ _ (csO q ca) W s'.us s'.ss s'.fs s'.es eg (fun id us_ mc ip be la ud qu un il W2 b2 => endOne1_any id us_ mc ip be la ud qu un il q ca _ _ W2 (bkeep b2 h0) (bkeep b2 h1))).mono ?_
    rintro e w' ⟨vu, vs, vf, vr, vi, h1, h2, h3, h4⟩
    subst hG
    obtain ⟨R, rfl, rfl, rfl, rfl, h5⟩ := hu_of4 (h := { h with ss := esS (csO q ca) h.ss h.ss.length, es := esR (csO q ca) now h.es h.ss h.ss.length }) h2
    exact ⟨R, vi, h1, h5, h4⟩
  clear hs hG eg
  go_enter Tryz.func70, Tryz.ntmps70
  go_wp2_with (first | (refine wpl_getT 48 rfl _ rfl (w.heap.size) rfl P0.out.1 _ Tryz.underlying48 rfl rfl ?_) | fail)
  refine (HE.out _ P0.out.2.2.2.2 P0.out.2.1 P0.out.2.2.1).mono ?_
  rintro e w1 ⟨R, vi, rfl, o1, bx⟩
  have hsz : ((((w.alloc (.cells #[.slice A.u h.us.length A.uc, .slice A.s h.ss.length A.sc, .slice A.f h.fs.length A.fc, .slice A.r h.es.length A.rc, .int .i64 h.nx] 48)).alloc (.cells #[.int .i64 q] 3)).alloc (.cells #[.int .i64 ca] 3)).alloc (.cells #[.slice none 0 0, .slice none 0 0, .slice none 0 0, .slice none 0 0, .int .i64 0] 48)).heap.size = w.heap.size + 4 := by simp
  rw [hsz] at o1
  have N1 : Bx (w1.alloc (.cells #[.slice R.u G.us.length R.uc, .slice R.s G.ss.length R.sc, .slice R.f G.fs.length R.fc, .slice R.r G.es.length R.rc, .int .i64 G.nx] 48)) w1.heap.size [.slice R.u G.us.length R.uc, .slice R.s G.ss.length R.sc, .slice R.f G.fs.length R.fc, .slice R.r G.es.length R.rc, .int .i64 G.nx] := Bx.new w1 #[.slice R.u G.us.length R.uc, .slice R.s G.ss.length R.sc, .slice R.f G.fs.length R.fc, .slice R.r G.es.length R.rc, .int .i64 G.nx] 48
  have P1 : Hid (Bx (w1.alloc (.cells #[.slice R.u G.us.length R.uc, .slice R.s G.ss.length R.sc, .slice R.f G.fs.length R.fc, .slice R.r G.es.length R.rc, .int .i64 G.nx] 48)) (w.heap.size + 1 + 1 + 1) [.slice none 0 0, .slice none 0 0, .slice none 0 0, .slice none 0 0, .int .i64 0] ∧ Below w.heap.size w (w1.alloc (.cells #[.slice R.u G.us.length R.uc, .slice R.s G.ss.length R.sc, .slice R.f G.fs.length R.fc, .slice R.r G.es.length R.rc, .int .i64 G.nx] 48))) := ⟨(P0.out.2.2.2.1.below bx).below ((Below.refl _ _).alloc (Nat.le_refl _) _), (P0.out.2.2.2.2.trans (bx.mono P0.out.2.2.2.2.size)).alloc (Nat.le_trans P0.out.2.2.2.2.size bx.size) _⟩
  have O1 : Hid (OwnHu (w1.alloc (.cells #[.slice R.u G.us.length R.uc, .slice R.s G.ss.length R.sc, .slice R.f G.fs.length R.fc, .slice R.r G.es.length R.rc, .int .i64 G.nx] 48)) (w.heap.size + 4) R G) := o1.now ((Below.refl _ _).alloc (Nat.le_refl _) _)
  clear o1 bx P0 HE hsz
  go_wp2_with (first | (refine wpl_getT 48 rfl _ rfl (w1.heap.size) rfl N1 _ Tryz.underlying48 rfl rfl ?_) | (refine wpl_putT 48 rfl _ _ rfl (w.heap.size + 1 + 1 + 1) _ rfl rfl P1.out.1 rfl rfl rfl ?_; intro W5 hw5 R5; have B5 : Hid (Below w.heap.size w W5) := (by rw [hw5]; exact below_cells (by omega) _ _ _ P1.out.2); have O5 : Hid (OwnHu W5 w.heap.size R G) := (by rw [hw5]; exact Own4.lower (OwnHu.keep O1.out (fun b hb => (heap_cellsA _ _ _).2 b (by have := (O1.out.lt b hb).1; omega))) (by omega)); clear hw5) | fail)
  refine bodyPost_ret (v := .agg #[.slice R.u G.us.length R.uc, .slice R.s G.ss.length R.sc, .slice R.f G.fs.length R.fc, .slice R.r G.es.length R.rc, .int .i64 G.nx]) (results_cell Tryz.results70 (w.heap.size + 1 + 1 + 1) rfl R5 _ Tryz.underlying48 rfl rfl) rfl ?_
  exact ⟨R, rfl, O5.out, B5.out⟩
set_option maxHeartbeats 4000000 in
theorem implEndSession_any (C : CfA) (c : CfV) (A : HuA) (h : HuV) (q now ca : Int) (w : World) (rc : CfR w C c) (rh : HuR w A h) (hs : HuS w A h) (sc : CfSz c) (sh : HuSz h) :
    Calls Tryz.prog 17 #[.agg #[.int .i64 c.ip, .int .i64 c.b, .int .i64 c.gt, .string c.gm, .string c.wm, .int .i64 c.rs, .slice C.x c.ps.length C.xc, .slice C.y c.ros.length C.yc], .agg #[.slice A.u h.us.length A.uc, .slice A.s h.ss.length A.sc, .slice A.f h.fs.length A.fc, .slice A.r h.es.length A.rc, .int .i64 h.nx], .int .i64 q, .int .i64 now, .int .i64 ca] w fun e w' => ∃ R : HuA, e = .returned (.tuple #[.agg #[.slice R.u (eeG c h q now ca).us.length R.uc, .slice R.s (eeG c h q now ca).ss.length R.sc, .slice R.f (eeG c h q now ca).fs.length R.fc, .slice R.r (eeG c h q now ca).es.length R.rc, .int .i64 (eeG c h q now ca).nx], .int .i64 (eeC c h q now ca)]) ∧ OwnHu w' w.heap.size R (eeG c h q now ca) ∧ Below w.heap.size w w' := by
  have HA : Hid (∀ wx, Below w.heap.size w wx → Calls Tryz.prog 66 #[.agg #[.int .i64 c.ip, .int .i64 c.b, .int .i64 c.gt, .string c.gm, .string c.wm, .int .i64 c.rs, .slice C.x c.ps.length C.xc, .slice C.y c.ros.length C.yc], .agg #[.slice A.u h.us.length A.uc, .slice A.s h.ss.length A.sc, .slice A.f h.fs.length A.fc, .slice A.r h.es.length A.rc, .int .i64 h.nx], .int .i64 now] wx fun e w' => e = .returned (.int .i64 (fauC (okG c h) now)) ∧ Below wx.heap.size wx w') := fun wx hb => impl_fault C c A h now wx (rc.below hb) (rh.below hb) sc sh
  have HC : Hid (∀ wx, Calls Tryz.prog 67 #[.int .i64 ca] wx fun e w' => e = .returned (.bool (dec (1 ≤ ca ∧ ca ≤ 6))) ∧ w' = wx) := fun wx => causeOK_any ca wx
  have HP : Hid (∀ wx, Below w.heap.size w wx → Calls Tryz.prog 68 #[.slice A.s h.ss.length A.sc, .int .i64 q] wx fun e w' => e = .returned (.int .i64 (ixI (siP q) h.ss)) ∧ Below wx.heap.size wx w') := fun wx hb => (sessPlace_any A.s h.ss.length A.sc h.ss q wx (rh.below hb).ss rfl (by have := sh.ss; omega)).mono fun e w' h => ⟨h.1, h.2.below⟩
  have HO : Hid (∀ wx, Below w.heap.size w wx → Calls Tryz.prog 69 #[.agg #[.slice A.u h.us.length A.uc, .slice A.s h.ss.length A.sc, .slice A.f h.fs.length A.fc, .slice A.r h.es.length A.rc, .int .i64 h.nx]] wx fun e w' => ∃ R : HuA, e = .returned (.agg #[.slice R.u h.us.length R.uc, .slice R.s h.ss.length R.sc, .slice R.f h.fs.length R.fc, .slice R.r h.es.length R.rc, .int .i64 h.nx]) ∧ OwnHu w' wx.heap.size R h ∧ Below wx.heap.size wx w') := fun wx hb => impl_copy A h wx (hs.below hb)

  clear rc rh
  have P0 : Hid (Bx (((w.alloc (.cells #[.int .i64 c.ip, .int .i64 c.b, .int .i64 c.gt, .string c.gm, .string c.wm, .int .i64 c.rs, .slice C.x c.ps.length C.xc, .slice C.y c.ros.length C.yc] 41)).alloc (.cells #[.slice A.u h.us.length A.uc, .slice A.s h.ss.length A.sc, .slice A.f h.fs.length A.fc, .slice A.r h.es.length A.rc, .int .i64 h.nx] 48)).alloc (.cells #[.slice none 0 0, .slice none 0 0, .slice none 0 0, .slice none 0 0, .int .i64 0] 48)) w.heap.size [.int .i64 c.ip, .int .i64 c.b, .int .i64 c.gt, .string c.gm, .string c.wm, .int .i64 c.rs, .slice C.x c.ps.length C.xc, .slice C.y c.ros.length C.yc] ∧ Bx (((w.alloc (.cells #[.int .i64 c.ip, .int .i64 c.b, .int .i64 c.gt, .string c.gm, .string c.wm, .int .i64 c.rs, .slice C.x c.ps.length C.xc, .slice C.y c.ros.length C.yc] 41)).alloc (.cells #[.slice A.u h.us.length A.uc, .slice A.s h.ss.length A.sc, .slice A.f h.fs.length A.fc, .slice A.r h.es.length A.rc, .int .i64 h.nx] 48)).alloc (.cells #[.slice none 0 0, .slice none 0 0, .slice none 0 0, .slice none 0 0, .int .i64 0] 48)) (w.heap.size + 1) [.slice A.u h.us.length A.uc, .slice A.s h.ss.length A.sc, .slice A.f h.fs.length A.fc, .slice A.r h.es.length A.rc, .int .i64 h.nx] ∧ Bx (((w.alloc (.cells #[.int .i64 c.ip, .int .i64 c.b, .int .i64 c.gt, .string c.gm, .string c.wm, .int .i64 c.rs, .slice C.x c.ps.length C.xc, .slice C.y c.ros.length C.yc] 41)).alloc (.cells #[.slice A.u h.us.length A.uc, .slice A.s h.ss.length A.sc, .slice A.f h.fs.length A.fc, .slice A.r h.es.length A.rc, .int .i64 h.nx] 48)).alloc (.cells #[.slice none 0 0, .slice none 0 0, .slice none 0 0, .slice none 0 0, .int .i64 0] 48)) (w.heap.size + 1 + 1) [.slice none 0 0, .slice none 0 0, .slice none 0 0, .slice none 0 0, .int .i64 0] ∧ Below w.heap.size w (((w.alloc (.cells #[.int .i64 c.ip, .int .i64 c.b, .int .i64 c.gt, .string c.gm, .string c.wm, .int .i64 c.rs, .slice C.x c.ps.length C.xc, .slice C.y c.ros.length C.yc] 41)).alloc (.cells #[.slice A.u h.us.length A.uc, .slice A.s h.ss.length A.sc, .slice A.f h.fs.length A.fc, .slice A.r h.es.length A.rc, .int .i64 h.nx] 48)).alloc (.cells #[.slice none 0 0, .slice none 0 0, .slice none 0 0, .slice none 0 0, .int .i64 0] 48))) := by
    refine ⟨((Bx.new w #[.int .i64 c.ip, .int .i64 c.b, .int .i64 c.gt, .string c.gm, .string c.wm, .int .i64 c.rs, .slice C.x c.ps.length C.xc, .slice C.y c.ros.length C.yc] 41).below ((Below.refl _ _).alloc (Nat.le_refl _) _)).below ((Below.refl _ _).alloc (Nat.le_refl _) _), ?_, ?_, (((Below.refl _ _).alloc (Nat.le_refl _) _).alloc (by simp) _).alloc (by simp; omega) _⟩
    · have h := Bx.new (w.alloc (.cells #[.int .i64 c.ip, .int .i64 c.b, .int .i64 c.gt, .string c.gm, .string c.wm, .int .i64 c.rs, .slice C.x c.ps.length C.xc, .slice C.y c.ros.length C.yc] 41)) #[.slice A.u h.us.length A.uc, .slice A.s h.ss.length A.sc, .slice A.f h.fs.length A.fc, .slice A.r h.es.length A.rc, .int .i64 h.nx] 48
      rw [World.size_alloc] at h
      exact h.below ((Below.refl _ _).alloc (Nat.le_refl _) _)
    · have h := Bx.new ((w.alloc (.cells #[.int .i64 c.ip, .int .i64 c.b, .int .i64 c.gt, .string c.gm, .string c.wm, .int .i64 c.rs, .slice C.x c.ps.length C.xc, .slice C.y c.ros.length C.yc] 41)).alloc (.cells #[.slice A.u h.us.length A.uc, .slice A.s h.ss.length A.sc, .slice A.f h.fs.length A.fc, .slice A.r h.es.length A.rc, .int .i64 h.nx] 48)) #[.slice none 0 0, .slice none 0 0, .slice none 0 0, .slice none 0 0, .int .i64 0] 48
      rw [World.size_alloc, World.size_alloc] at h
      exact h
  unfold eeC eeG eeF
  have hok : fauC (okG c h) now = 0 → okG c h = true ∧ 0 ≤ now ∧ now ≤ 100000 := fun h => fau_zero h
  generalize fauC (okG c h) now = f at HA hok ⊢
  by_cases hf : ¬ f = 0
  · have hfb : (f != 0) = true := by simp [hf]
    have hz1 : (if f = 0 then (if dec (1 ≤ ca ∧ ca ≤ 6) = true then (0 : Int) else 4) else f) = f := if_neg hf
    rw [hz1, if_neg hf, if_neg hf]
    go_enter Tryz.func17, Tryz.ntmps17
    go_wp2_with (first | (refine wpl_getT 41 rfl _ rfl (w.heap.size) rfl P0.out.1 _ Tryz.underlying41 rfl rfl ?_) | (refine wpl_getT 48 rfl _ rfl (w.heap.size + 1) rfl P0.out.2.1 _ Tryz.underlying48 rfl rfl ?_) | fail)
    refine (HA.out _ P0.out.2.2.2).mono ?_
    rintro e w1 ⟨rfl, bx⟩
    have P1 : Hid (Bx w1 w.heap.size [.int .i64 c.ip, .int .i64 c.b, .int .i64 c.gt, .string c.gm, .string c.wm, .int .i64 c.rs, .slice C.x c.ps.length C.xc, .slice C.y c.ros.length C.yc] ∧ Bx w1 (w.heap.size + 1) [.slice A.u h.us.length A.uc, .slice A.s h.ss.length A.sc, .slice A.f h.fs.length A.fc, .slice A.r h.es.length A.rc, .int .i64 h.nx] ∧ Bx w1 (w.heap.size + 1 + 1) [.slice none 0 0, .slice none 0 0, .slice none 0 0, .slice none 0 0, .int .i64 0] ∧ Below w.heap.size w w1) := ⟨P0.out.1.below bx, P0.out.2.1.below bx, P0.out.2.2.1.below bx, P0.out.2.2.2.trans (bx.mono P0.out.2.2.2.size)⟩
    clear bx P0 HA
    go_wp2_with (first | (refine wpl_putT 48 rfl _ _ rfl (w.heap.size + 1 + 1) _ rfl rfl P1.out.2.2.1 rfl rfl rfl ?_; intro W5 hw5 R5; have B5 : Hid (Below w.heap.size w W5) := (by rw [hw5]; exact below_cells (by omega) _ _ _ P1.out.2.2.2); clear hw5) | fail)
    refine bodyPost_ret (v := .tuple #[.agg #[.slice none 0 0, .slice none 0 0, .slice none 0 0, .slice none 0 0, .int .i64 0], .int .i64 f]) (results_cell2 Tryz.results17 (w.heap.size + 1 + 1) rfl rfl R5 _ Tryz.underlying48 rfl rfl) rfl ?_
    exact ⟨zeroHA, rfl, OwnHu.zero _ _, B5.out⟩
  replace hf : f = 0 := Classical.not_not.1 hf
  obtain ⟨hk, hn⟩ := hok hf
  clear hok
  subst hf
  rw [if_pos rfl]
  by_cases hc : ¬ (1 ≤ ca ∧ ca ≤ 6)
  · have hd : dec (1 ≤ ca ∧ ca ≤ 6) = false := dec_n hc
    rw [hd] at HC ⊢
    simp only [Bool.false_eq_true, if_false]
    rw [if_neg (show ¬ (4 : Int) = 0 by decide), if_neg (show ¬ (4 : Int) = 0 by decide)]
    clear hd
    go_enter Tryz.func17, Tryz.ntmps17
    go_wp2_with (first | (refine wpl_getT 41 rfl _ rfl (w.heap.size) rfl P0.out.1 _ Tryz.underlying41 rfl rfl ?_) | (refine wpl_getT 48 rfl _ rfl (w.heap.size + 1) rfl P0.out.2.1 _ Tryz.underlying48 rfl rfl ?_) | fail)
    refine (HA.out _ P0.out.2.2.2).mono ?_
    rintro e w1 ⟨rfl, bx⟩
    have P1 : Hid (Bx w1 w.heap.size [.int .i64 c.ip, .int .i64 c.b, .int .i64 c.gt, .string c.gm, .string c.wm, .int .i64 c.rs, .slice C.x c.ps.length C.xc, .slice C.y c.ros.length C.yc] ∧ Bx w1 (w.heap.size + 1) [.slice A.u h.us.length A.uc, .slice A.s h.ss.length A.sc, .slice A.f h.fs.length A.fc, .slice A.r h.es.length A.rc, .int .i64 h.nx] ∧ Bx w1 (w.heap.size + 1 + 1) [.slice none 0 0, .slice none 0 0, .slice none 0 0, .slice none 0 0, .int .i64 0] ∧ Below w.heap.size w w1) := ⟨P0.out.1.below bx, P0.out.2.1.below bx, P0.out.2.2.1.below bx, P0.out.2.2.2.trans (bx.mono P0.out.2.2.2.size)⟩
    clear bx P0 HA
    go_wp2_with fail
    refine (HC.out _).mono ?_
    rintro e w2 ⟨rfl, rfl⟩
    go_wp2_with (first | (refine wpl_putT 48 rfl _ _ rfl (w.heap.size + 1 + 1) _ rfl rfl P1.out.2.2.1 rfl rfl rfl ?_; intro W5 hw5 R5; have B5 : Hid (Below w.heap.size w W5) := (by rw [hw5]; exact below_cells (by omega) _ _ _ P1.out.2.2.2); clear hw5) | fail)
    refine bodyPost_ret (v := .tuple #[.agg #[.slice none 0 0, .slice none 0 0, .slice none 0 0, .slice none 0 0, .int .i64 0], .int .i64 4]) (results_cell2 Tryz.results17 (w.heap.size + 1 + 1) rfl rfl R5 _ Tryz.underlying48 rfl rfl) rfl ?_
    exact ⟨zeroHA, rfl, OwnHu.zero _ _, B5.out⟩
  replace hc : 1 ≤ ca ∧ ca ≤ 6 := Classical.not_not.1 hc
  have hd : dec (1 ≤ ca ∧ ca ≤ 6) = true := dec_y hc
  rw [hd] at HC ⊢
  rw [if_pos rfl, if_pos rfl, if_pos rfl]
  clear hd
  by_cases hk0 : ixI (siP q) h.ss < 0
  · rw [if_pos hk0, if_pos hk0]
    have hkn : decide (ixI (siP q) h.ss < 0) = true := decide_eq_true hk0
    clear hk0
    generalize ixI (siP q) h.ss = kk at HP hkn
    go_enter Tryz.func17, Tryz.ntmps17
    go_wp2_with (first | (refine wpl_getT 41 rfl _ rfl (w.heap.size) rfl P0.out.1 _ Tryz.underlying41 rfl rfl ?_) | (refine wpl_getT 48 rfl _ rfl (w.heap.size + 1) rfl P0.out.2.1 _ Tryz.underlying48 rfl rfl ?_) | fail)
    refine (HA.out _ P0.out.2.2.2).mono ?_
    rintro e w1 ⟨rfl, bx⟩
    have P1 : Hid (Bx w1 w.heap.size [.int .i64 c.ip, .int .i64 c.b, .int .i64 c.gt, .string c.gm, .string c.wm, .int .i64 c.rs, .slice C.x c.ps.length C.xc, .slice C.y c.ros.length C.yc] ∧ Bx w1 (w.heap.size + 1) [.slice A.u h.us.length A.uc, .slice A.s h.ss.length A.sc, .slice A.f h.fs.length A.fc, .slice A.r h.es.length A.rc, .int .i64 h.nx] ∧ Bx w1 (w.heap.size + 1 + 1) [.slice none 0 0, .slice none 0 0, .slice none 0 0, .slice none 0 0, .int .i64 0] ∧ Below w.heap.size w w1) := ⟨P0.out.1.below bx, P0.out.2.1.below bx, P0.out.2.2.1.below bx, P0.out.2.2.2.trans (bx.mono P0.out.2.2.2.size)⟩
    clear bx P0 HA
    go_wp2_with fail
    refine (HC.out _).mono ?_
    rintro e w2 ⟨rfl, rfl⟩
    (have qh := P1.out.2.1.cell 1 rfl; go_wp2_with fail)
    refine (HP.out _ P1.out.2.2.2).mono ?_
    rintro e w3 ⟨rfl, bx⟩
    have P3 : Hid (Bx w3 w.heap.size [.int .i64 c.ip, .int .i64 c.b, .int .i64 c.gt, .string c.gm, .string c.wm, .int .i64 c.rs, .slice C.x c.ps.length C.xc, .slice C.y c.ros.length C.yc] ∧ Bx w3 (w.heap.size + 1) [.slice A.u h.us.length A.uc, .slice A.s h.ss.length A.sc, .slice A.f h.fs.length A.fc, .slice A.r h.es.length A.rc, .int .i64 h.nx] ∧ Bx w3 (w.heap.size + 1 + 1) [.slice none 0 0, .slice none 0 0, .slice none 0 0, .slice none 0 0, .int .i64 0] ∧ Below w.heap.size w w3) := ⟨P1.out.1.below bx, P1.out.2.1.below bx, P1.out.2.2.1.below bx, P1.out.2.2.2.trans (bx.mono P1.out.2.2.2.size)⟩
    clear bx P1 HP
    go_wp2_with (first | (refine wpl_getT 48 rfl _ rfl (w.heap.size + 1) rfl P3.out.2.1 _ Tryz.underlying48 rfl rfl ?_) | fail)
    refine (HO.out _ P3.out.2.2.2).mono ?_
    rintro e w4 ⟨R, rfl, o4, bx⟩
    have O4 : Hid (OwnHu w4 w3.heap.size R h) := o4
    have P4 : Hid (Bx w4 (w.heap.size + 1 + 1) [.slice none 0 0, .slice none 0 0, .slice none 0 0, .slice none 0 0, .int .i64 0] ∧ Below w.heap.size w w4 ∧ w.heap.size + 1 + 1 < w3.heap.size) := ⟨P3.out.2.2.1.below bx, P3.out.2.2.2.trans (bx.mono P3.out.2.2.2.size), World.block_lt_of_cell? w3 ⟨w.heap.size + 1 + 1, 0, none⟩ (P3.out.2.2.1.cell 0 rfl)⟩
    clear o4 bx P3
    go_wp2_with (first | (refine wpl_putT 48 rfl _ _ rfl (w.heap.size + 1 + 1) _ rfl rfl P4.out.1 rfl rfl rfl ?_; intro W5 hw5 R5; have B5 : Hid (Below w.heap.size w W5) := (by rw [hw5]; exact below_cells (by omega) _ _ _ P4.out.2.1); have O5 : Hid (OwnHu W5 w.heap.size R h) := (by rw [hw5]; exact Own4.lower (OwnHu.keep O4.out (fun b hb => (heap_cellsA _ _ _).2 b (by have := (O4.out.lt b hb).1; have := P4.out.2.2; omega))) (by have := P4.out.2.2; omega)); clear hw5) | fail)
    refine bodyPost_ret (v := .tuple #[.agg #[.slice R.u h.us.length R.uc, .slice R.s h.ss.length R.sc, .slice R.f h.fs.length R.fc, .slice R.r h.es.length R.rc, .int .i64 h.nx], .int .i64 5]) (results_cell2 Tryz.results17 (w.heap.size + 1 + 1) rfl rfl R5 _ Tryz.underlying48 rfl rfl) rfl ?_
    exact ⟨R, rfl, O5.out, B5.out⟩
  obtain ⟨k, x, hkk, hx, hxi, hsp⟩ := ixI_split hk0
  rw [if_neg hk0, if_neg hk0]
  rw [hkk] at hk0 HP ⊢
  rw [show ((k : Int)).toNat = k by simp, enA_at hx]
  have hkl : (h.ss.take k).length = k := by have := (List.getElem?_eq_some_iff.1 hx).1; rw [List.length_take]; omega
  have hc2 : 0 ≤ ca ∧ ca ≤ 6 := ⟨by omega, hc.2⟩
  have hkn : decide ((k : Int) < 0) = false := decide_eq_false hk0
  have HE2 : Hid (∀ wx, Below w.heap.size w wx → Calls Tryz.prog 70 #[.agg #[.slice A.u h.us.length A.uc, .slice A.s h.ss.length A.sc, .slice A.f h.fs.length A.fc, .slice A.r h.es.length A.rc, .int .i64 h.nx], .int .i64 q, .int .i64 now, .int .i64 ca] wx fun e w' => ∃ R : HuA, e = .returned (.agg #[.slice R.u (enG now ca h (h.ss.take k) (h.ss.drop (k + 1)) x).us.length R.uc, .slice R.s (enG now ca h (h.ss.take k) (h.ss.drop (k + 1)) x).ss.length R.sc, .slice R.f (enG now ca h (h.ss.take k) (h.ss.drop (k + 1)) x).fs.length R.fc, .slice R.r (enG now ca h (h.ss.take k) (h.ss.drop (k + 1)) x).es.length R.rc, .int .i64 (enG now ca h (h.ss.take k) (h.ss.drop (k + 1)) x).nx]) ∧ OwnHu w' wx.heap.size R (enG now ca h (h.ss.take k) (h.ss.drop (k + 1)) x) ∧ Below wx.heap.size wx w') := fun wx hb => endOne_any A h _ q now ca wx (hs.below hb) (by
    obtain ⟨e1, e2, -⟩ := okG_one (now := now) hk hx hxi hsp (show ca ≠ 0 by omega)
    rw [e1, e2]
    rfl)
  clear hsp hx hxi hkk hk hn hc hc2 hkl hk0 HO
  generalize (enG now ca h (h.ss.take k) (h.ss.drop (k + 1)) x) = GG at HE2 ⊢
  go_enter Tryz.func17, Tryz.ntmps17
  go_wp2_with (first | (refine wpl_getT 41 rfl _ rfl (w.heap.size) rfl P0.out.1 _ Tryz.underlying41 rfl rfl ?_) | (refine wpl_getT 48 rfl _ rfl (w.heap.size + 1) rfl P0.out.2.1 _ Tryz.underlying48 rfl rfl ?_) | fail)
  refine (HA.out _ P0.out.2.2.2).mono ?_
  rintro e w1 ⟨rfl, bx⟩
  have P1 : Hid (Bx w1 w.heap.size [.int .i64 c.ip, .int .i64 c.b, .int .i64 c.gt, .string c.gm, .string c.wm, .int .i64 c.rs, .slice C.x c.ps.length C.xc, .slice C.y c.ros.length C.yc] ∧ Bx w1 (w.heap.size + 1) [.slice A.u h.us.length A.uc, .slice A.s h.ss.length A.sc, .slice A.f h.fs.length A.fc, .slice A.r h.es.length A.rc, .int .i64 h.nx] ∧ Bx w1 (w.heap.size + 1 + 1) [.slice none 0 0, .slice none 0 0, .slice none 0 0, .slice none 0 0, .int .i64 0] ∧ Below w.heap.size w w1) := ⟨P0.out.1.below bx, P0.out.2.1.below bx, P0.out.2.2.1.below bx, P0.out.2.2.2.trans (bx.mono P0.out.2.2.2.size)⟩
  clear bx P0 HA
  go_wp2_with fail
  refine (HC.out _).mono ?_
  rintro e w2 ⟨rfl, rfl⟩
  (have qh := P1.out.2.1.cell 1 rfl; go_wp2_with fail)
  refine (HP.out _ P1.out.2.2.2).mono ?_
  rintro e w3 ⟨rfl, bx⟩
  have P3 : Hid (Bx w3 w.heap.size [.int .i64 c.ip, .int .i64 c.b, .int .i64 c.gt, .string c.gm, .string c.wm, .int .i64 c.rs, .slice C.x c.ps.length C.xc, .slice C.y c.ros.length C.yc] ∧ Bx w3 (w.heap.size + 1) [.slice A.u h.us.length A.uc, .slice A.s h.ss.length A.sc, .slice A.f h.fs.length A.fc, .slice A.r h.es.length A.rc, .int .i64 h.nx] ∧ Bx w3 (w.heap.size + 1 + 1) [.slice none 0 0, .slice none 0 0, .slice none 0 0, .slice none 0 0, .int .i64 0] ∧ Below w.heap.size w w3) := ⟨P1.out.1.below bx, P1.out.2.1.below bx, P1.out.2.2.1.below bx, P1.out.2.2.2.trans (bx.mono P1.out.2.2.2.size)⟩
  clear bx P1 HP
  go_wp2_with (first | (refine wpl_getT 48 rfl _ rfl (w.heap.size + 1) rfl P3.out.2.1 _ Tryz.underlying48 rfl rfl ?_) | fail)
  refine (HE2.out _ P3.out.2.2.2).mono ?_
  rintro e w4 ⟨R, rfl, o4, bx⟩
  have O4 : Hid (OwnHu w4 w3.heap.size R GG) := o4
  have P4 : Hid (Bx w4 (w.heap.size + 1 + 1) [.slice none 0 0, .slice none 0 0, .slice none 0 0, .slice none 0 0, .int .i64 0] ∧ Below w.heap.size w w4 ∧ w.heap.size + 1 + 1 < w3.heap.size) := ⟨P3.out.2.2.1.below bx, P3.out.2.2.2.trans (bx.mono P3.out.2.2.2.size), World.block_lt_of_cell? w3 ⟨w.heap.size + 1 + 1, 0, none⟩ (P3.out.2.2.1.cell 0 rfl)⟩
  clear o4 bx P3 HE2
  go_wp2_with (first | (refine wpl_putT 48 rfl _ _ rfl (w.heap.size + 1 + 1) _ rfl rfl P4.out.1 rfl rfl rfl ?_; intro W5 hw5 R5; have B5 : Hid (Below w.heap.size w W5) := (by rw [hw5]; exact below_cells (by omega) _ _ _ P4.out.2.1); have O5 : Hid (OwnHu W5 w.heap.size R GG) := (by rw [hw5]; exact Own4.lower (OwnHu.keep O4.out (fun b hb => (heap_cellsA _ _ _).2 b (by have := (O4.out.lt b hb).1; have := P4.out.2.2; omega))) (by have := P4.out.2.2; omega)); clear hw5) | fail)
  refine bodyPost_ret (v := .tuple #[.agg #[.slice R.u GG.us.length R.uc, .slice R.s GG.ss.length R.sc, .slice R.f GG.fs.length R.fc, .slice R.r GG.es.length R.rc, .int .i64 GG.nx], .int .i64 0]) (results_cell2 Tryz.results17 (w.heap.size + 1 + 1) rfl rfl R5 _ Tryz.underlying48 rfl rfl) rfl ?_
  exact ⟨R, rfl, O5.out, B5.out⟩
end Go.Proofs.YtheicficoilkkaaGreat

namespace Go.Proofs.YtheicficoilkkaaGreat
open Go.RowKit Go.PlainAid Go.Proofs.YtheicficoilkkaaGreat.Bt Go.Sort
set_option linter.unusedVariables false
theorem lawEndSession_any (C : CfA) (c : CfV) (A : HuA) (h : HuV) (id now ca : Int) (w : World) (rC : CfR w C c) (bC : CfBd C c) (rA : HuR w A h) (bA : HuBd A h) :
    Calls Tryz.prog 4 #[.agg #[.int .i64 c.ip, .int .i64 c.b, .int .i64 c.gt, .string c.gm, .string c.wm, .int .i64 c.rs, .slice C.x c.ps.length C.xc, .slice C.y c.ros.length C.yc], .agg #[.slice A.u h.us.length A.uc, .slice A.s h.ss.length A.sc, .slice A.f h.fs.length A.fc, .slice A.r h.es.length A.rc, .int .i64 h.nx], .int .i64 id, .int .i64 now, .int .i64 ca] w fun e w' => e = .returned (.bool true) ∧ Below w.heap.size w w' :=
  lawEndSession_of C c A h id now ca (eeG c h id now ca) (eeC c h id now ca) w rC bC rA bA (eeG_ok rA.ok) (fun sc sh => eeG_ln sh.ln)
    (fun sc sh C' L A' B0 B1 w oC oA => specEndSession_any C' c A' h id now ca w (oC.rw rC.ok) (oA.rw rA.ok) (oA.srcs rA.ok sh.hl) sc sh)
    (fun sc sh C' L A' B0 B1 w oC oA => implEndSession_any C' c A' h id now ca w (oC.rw rC.ok) (oA.rw rA.ok) (oA.srcs rA.ok sh.hl) sc sh)
end Go.Proofs.YtheicficoilkkaaGreat
