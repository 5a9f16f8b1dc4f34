/- What both sides ask of guests with a time, in packed words. EndSession of the model, packed. ExpireSessions, EndMoved of the model, packed. sessionPlace of the program. ExpireSessions, EndMoved of the program, packed. The walk of laws.FnExactEndMoved. -/
import Derived.Test.YtmeejholckelgaaGreatM45
import Derived.Test.YtmeejholckelgaaGreatM41
import Derived.Test.YtmeejholckelgaaGreatGokS
import Derived.Test.YtmeejholckelgaaGreatM46
import Derived.Test.YtmeejholckelgaaGreatM43
import Derived.Test.YtmeejholckelgaaGreatM42
namespace Go.Proofs.YtmeejholckelgaaGreat
open Go.RowKit Go.PlainAid Go.Proofs.YtmeejholckelgaaGreat.Bt Go.Sort
set_option linter.unusedVariables false
set_option maxRecDepth 20000

theorem szu_of {us : List UserV} {n : Int} (h : szL wtUser us ≤ n) (hn : n ≤ 1048576) : SzU us := by
  intro u hu
  have := szL_mem wtUser_nn us u hu
  have e : wtUser u = (u.nm.size : Int) + u.sa.size + u.ha.size + u.ro.size := rfl
  rw [e] at this
  omega
theorem spec_ask (C : CfA) (c : CfV) (A : HuA) (h : HuV) (now : Int) (w : World) (rc : CfR w C c) (rh : HuR w A h) (sc : CfSz c) (sh : HuSz h) :
    Calls Tryz.prog 30 #[.agg #[.int .i64 c.ip, .int .i64 c.b, .int .i64 c.gt, .string c.gm, .string c.wm, .int .i64 c.rs, .slice C.x c.ps.length C.xc, .slice C.y c.ros.length C.yc], .agg #[.slice A.u h.us.length A.uc, .slice A.s h.ss.length A.sc, .slice A.f h.fs.length A.fc, .slice A.r h.es.length A.rc, .int .i64 h.nx], .int .i64 now] w fun e w' => e = .returned (.int .i64 (fauC (okG c h) now)) ∧ Below w.heap.size w w' := by
  refine l08Ask_any c.ip c.b c.gt c.gm c.wm c.rs C.x C.y c.ps.length C.xc c.ros.length C.yc A.u A.s A.f A.r h.us.length A.uc h.ss.length A.sc h.fs.length A.fc h.es.length A.rc h.nx now (okG c h) w (fun wx hb => ?_)
  have rc' := rc.below hb; have rh' := rh.below hb
  exact (specGuests_any _ _ _ _ _ _ _ _ _ _ _ _ c.ps c.ros _ _ _ _ _ _ _ _ _ _ _ _ h.us h.ss h.fs h.es h.nx wx rc'.ps rfl rc'.ros rfl sc.szr sc.ros rh'.us rfl rh'.ss rfl rh'.fs rfl rh'.es rfl (szu_of sh.szu (Int.le_refl _)) sh.us).mono fun e w' h => ⟨h.1, h.2.below⟩
theorem impl_fault (C : CfA) (c : CfV) (A : HuA) (h : HuV) (now : Int) (w : World) (rc : CfR w C c) (rh : HuR w A h) (sc : CfSz c) (sh : HuSz h) :
    Calls Tryz.prog 42 #[.agg #[.int .i64 c.ip, .int .i64 c.b, .int .i64 c.gt, .string c.gm, .string c.wm, .int .i64 c.rs, .slice C.x c.ps.length C.xc, .slice C.y c.ros.length C.yc], .agg #[.slice A.u h.us.length A.uc, .slice A.s h.ss.length A.sc, .slice A.f h.fs.length A.fc, .slice A.r h.es.length A.rc, .int .i64 h.nx], .int .i64 now] w fun e w' => e = .returned (.int .i64 (fauC (okG c h) now)) ∧ Below w.heap.size w w' := by
  refine guestsFault_any c.ip c.b c.gt c.gm c.wm c.rs C.x C.y c.ps.length C.xc c.ros.length C.yc A.u A.s A.f A.r h.us.length A.uc h.ss.length A.sc h.fs.length A.fc h.es.length A.rc h.nx now (okG c h) w (fun wx hb => ?_)
  have rc' := rc.below hb; have rh' := rh.below hb
  exact implGuests_any _ _ _ _ _ _ _ _ _ _ _ _ c.ps c.ros _ _ _ _ _ _ _ _ _ _ _ _ h.us h.ss h.fs h.es h.nx wx rc'.ps rfl rc'.ros rfl sc.szr sc.ros rh'.us rfl rh'.ss rfl rh'.fs rfl rh'.es rfl (szu_of sh.szu (Int.le_refl _)) sh.us
theorem hu_of4 {w : World} {B : Nat} {vu vs vf vr : Value} {h : HuV} (o : Own4 w B vu vs vf vr h.us h.ss h.fs h.es) : ∃ R : HuA, vu = .slice R.u h.us.length R.uc ∧ vs = .slice R.s h.ss.length R.sc ∧ vf = .slice R.f h.fs.length R.fc ∧ vr = .slice R.r h.es.length R.rc ∧ OwnHu w B R h := by
  obtain ⟨a1, c1, rfl, -⟩ := o.u.slice
  obtain ⟨a2, c2, rfl, -⟩ := o.s.slice
  obtain ⟨a3, c3, rfl, -⟩ := o.f.slice
  obtain ⟨a4, c4, rfl, -⟩ := o.r.slice
  exact ⟨⟨a1, a2, a3, a4, c1, c2, c3, c4⟩, rfl, rfl, rfl, rfl, o⟩
theorem spec_own (A : HuA) (h : HuV) (w : World) (o : HuS w A h) :
    Calls Tryz.prog 33 #[.agg #[.slice A.u h.us.length A.uc, .slice A.s h.ss.length A.sc, .slice A.f h.fs.length A.fc, .slice A.r h.es.length A.rc, .int .i64 h.nx]] w fun e w' => ∃ R : HuA, e = .returned (.agg #[.slice R.u h.us.length R.uc, .slice R.s h.ss.length R.sc, .slice R.f h.fs.length R.fc, .slice R.r h.es.length R.rc, .int .i64 h.nx]) ∧ OwnHu w' w.heap.size R h ∧ Below w.heap.size w w' := by
  refine (l08Own_any A.u A.s A.f A.r h.us.length A.uc h.ss.length A.sc h.fs.length A.fc h.es.length A.rc h.us h.ss h.fs h.es h.nx w o.us o.ss o.fs o.es).mono ?_
  rintro e w' ⟨vu, vs, vf, vr, h1, h2, h3⟩
  obtain ⟨R, rfl, rfl, rfl, rfl, h4⟩ := hu_of4 h2
  exact ⟨R, h1, h4, h3⟩
theorem HuSz.hl {h : HuV} (o : HuSz h) : HuL h := ⟨o.us, o.ss, o.fs, o.es⟩
end Go.Proofs.YtmeejholckelgaaGreat

namespace Go.Proofs.YtmeejholckelgaaGreat
open Go.RowKit Go.PlainAid Go.Proofs.YtmeejholckelgaaGreat.Bt Go.Sort
set_option linter.unusedVariables false
set_option maxRecDepth 20000

theorem fau_zero {z : Bool} {now : Int} (h : fauC z now = 0) : z = true ∧ 0 ≤ now ∧ now ≤ 100000 := by
  unfold fauC fau2 at h
  cases z with
  | false => simp at h
  | true =>
    by_cases hd : 0 ≤ now ∧ now ≤ 100000
    · exact ⟨rfl, hd⟩
    · rw [dec_n hd] at h; simp at h
end Go.Proofs.YtmeejholckelgaaGreat

namespace Go.Proofs.YtmeejholckelgaaGreat
open Go.RowKit Go.PlainAid Go.Proofs.YtmeejholckelgaaGreat.Bt Go.Sort
set_option linter.unusedVariables false
set_option maxRecDepth 20000

noncomputable def exU (F : Int) (cs : SessV → Int) (now : Int) (h : HuV) : HuV := if F = 0 then exG cs now h else zeroHu
noncomputable def exL (F : Int) (cs : SessV → Int) (h : HuV) : List Int := if F = 0 then esI cs h.ss h.ss.length else []
noncomputable def mvF (c : CfV) (h : HuV) (ma : ByteArray) (now : Int) : Int := if 65536 < ma.size then 2 else fauC (okG c h) now
theorem exU_ok {F : Int} {cs : SessV → Int} {now : Int} {h : HuV} (o : HuOk h) (hn : F = 0 → 0 ≤ now ∧ now ≤ 100000) (hc : ∀ s, 0 ≤ cs s ∧ cs s ≤ 6) : HuOk (exU F cs now h) := by
  unfold exU
  split
  · rename_i h1
    exact exG_ok o (hn h1) hc
  · exact zeroHu_ok
theorem exU_ln {F : Int} {cs : SessV → Int} {now : Int} {h : HuV} (o : HuLn h) : HuLn (exU F cs now h) := by
  unfold exU
  split
  · exact exG_ln o
  · exact ⟨Nat.zero_le _, Nat.zero_le _, Nat.zero_le _, Nat.zero_le _⟩
theorem exL_ok {F : Int} {cs : SessV → Int} {h : HuV} (o : HuOk h) : ∀ x, x ∈ exL F cs h → InRok x := by
  unfold exL
  split
  · exact esI_ok o _
  · intro x hx
    cases hx
theorem exL_ln {F : Int} {cs : SessV → Int} {h : HuV} : (exL F cs h).length ≤ h.ss.length := by
  unfold exL
  split
  · exact esI_len _ _ _
  · exact Nat.zero_le _
theorem OwnR.nil (w : World) (B : Nat) : OwnR w B none 0 0 [] := OwnS.nil w B
theorem OwnR.lit (w : World) (B : Nat) (hB : B ≤ w.heap.size) : OwnR (w.alloc (.cells #[] 3)) B (some ⟨w.heap.size, 0, none⟩) 0 0 [] := OwnS.lit w B hB
set_option maxHeartbeats 4000000 in
theorem specEndMoved_any (C : CfA) (c : CfV) (A : HuA) (h : HuV) (ma : ByteArray) (pi : Int) (now : Int) (w : World) (rc : CfR w C c) (rh : HuR w A h) (hs : HuS w A h) (sc : CfSz c) (sh : HuSz h) (hm : ma.size ≤ maxLen) :
    Calls Tryz.prog 22 #[.agg #[.int .i64 c.ip, .int .i64 c.b, .int .i64 c.gt, .string c.gm, .string c.wm, .int .i64 c.rs, .slice C.x c.ps.length C.xc, .slice C.y c.ros.length C.yc], .agg #[.slice A.u h.us.length A.uc, .slice A.s h.ss.length A.sc, .slice A.f h.fs.length A.fc, .slice A.r h.es.length A.rc, .int .i64 h.nx], .string ma, .int .i64 pi, .int .i64 now] w fun e w' => ∃ (R : HuA) (ia : Option Addr) (ic : Nat), e = .returned (.tuple #[.agg #[.slice R.u (exU (mvF c h ma now) (csM ma pi) now h).us.length R.uc, .slice R.s (exU (mvF c h ma now) (csM ma pi) now h).ss.length R.sc, .slice R.f (exU (mvF c h ma now) (csM ma pi) now h).fs.length R.fc, .slice R.r (exU (mvF c h ma now) (csM ma pi) now h).es.length R.rc, .int .i64 (exU (mvF c h ma now) (csM ma pi) now h).nx], .slice ia (exL (mvF c h ma now) (csM ma pi) h).length ic, .int .i64 (mvF c h ma now)]) ∧ OwnHu w' w.heap.size R (exU (mvF c h ma now) (csM ma pi) now h) ∧ OwnR w' w.heap.size ia (exL (mvF c h ma now) (csM ma pi) h).length ic (exL (mvF c h ma now) (csM ma pi) h) ∧ Below w.heap.size w w' := by
  have HA : Hid (∀ wx, Below w.heap.size w wx → Calls Tryz.prog 30 #[.agg #[.int .i64 c.ip, .int .i64 c.b, .int .i64 c.gt, .string c.gm, .string c.wm, .int .i64 c.rs, .slice C.x c.ps.length C.xc, .slice C.y c.ros.length C.yc], .agg #[.slice A.u h.us.length A.uc, .slice A.s h.ss.length A.sc, .slice A.f h.fs.length A.fc, .slice A.r h.es.length A.rc, .int .i64 h.nx], .int .i64 now] wx fun e w' => e = .returned (.int .i64 (fauC (okG c h) now)) ∧ Below wx.heap.size wx w') := fun wx hb => spec_ask C c A h now wx (rc.below hb) (rh.below hb) sc sh
  have HS : Hid (HuS w A h) := hs
  have HK : Hid (HuOk h) := rh.ok
  clear rc rh hs
  have P0 : Hid (Bx (((w.alloc (.cells #[.int .i64 c.ip, .int .i64 c.b, .int .i64 c.gt, .string c.gm, .string c.wm, .int .i64 c.rs, .slice C.x c.ps.length C.xc, .slice C.y c.ros.length C.yc] 48)).alloc (.cells #[.slice A.u h.us.length A.uc, .slice A.s h.ss.length A.sc, .slice A.f h.fs.length A.fc, .slice A.r h.es.length A.rc, .int .i64 h.nx] 41)).alloc (.cells #[.slice none 0 0, .slice none 0 0, .slice none 0 0, .slice none 0 0, .int .i64 0] 41)) (w.heap.size) [.int .i64 c.ip, .int .i64 c.b, .int .i64 c.gt, .string c.gm, .string c.wm, .int .i64 c.rs, .slice C.x c.ps.length C.xc, .slice C.y c.ros.length C.yc] ∧ Bx (((w.alloc (.cells #[.int .i64 c.ip, .int .i64 c.b, .int .i64 c.gt, .string c.gm, .string c.wm, .int .i64 c.rs, .slice C.x c.ps.length C.xc, .slice C.y c.ros.length C.yc] 48)).alloc (.cells #[.slice A.u h.us.length A.uc, .slice A.s h.ss.length A.sc, .slice A.f h.fs.length A.fc, .slice A.r h.es.length A.rc, .int .i64 h.nx] 41)).alloc (.cells #[.slice none 0 0, .slice none 0 0, .slice none 0 0, .slice none 0 0, .int .i64 0] 41)) (w.heap.size + 1) [.slice A.u h.us.length A.uc, .slice A.s h.ss.length A.sc, .slice A.f h.fs.length A.fc, .slice A.r h.es.length A.rc, .int .i64 h.nx] ∧ Bx (((w.alloc (.cells #[.int .i64 c.ip, .int .i64 c.b, .int .i64 c.gt, .string c.gm, .string c.wm, .int .i64 c.rs, .slice C.x c.ps.length C.xc, .slice C.y c.ros.length C.yc] 48)).alloc (.cells #[.slice A.u h.us.length A.uc, .slice A.s h.ss.length A.sc, .slice A.f h.fs.length A.fc, .slice A.r h.es.length A.rc, .int .i64 h.nx] 41)).alloc (.cells #[.slice none 0 0, .slice none 0 0, .slice none 0 0, .slice none 0 0, .int .i64 0] 41)) (w.heap.size + 1 + 1) [.slice none 0 0, .slice none 0 0, .slice none 0 0, .slice none 0 0, .int .i64 0] ∧ Below w.heap.size w (((w.alloc (.cells #[.int .i64 c.ip, .int .i64 c.b, .int .i64 c.gt, .string c.gm, .string c.wm, .int .i64 c.rs, .slice C.x c.ps.length C.xc, .slice C.y c.ros.length C.yc] 48)).alloc (.cells #[.slice A.u h.us.length A.uc, .slice A.s h.ss.length A.sc, .slice A.f h.fs.length A.fc, .slice A.r h.es.length A.rc, .int .i64 h.nx] 41)).alloc (.cells #[.slice none 0 0, .slice none 0 0, .slice none 0 0, .slice none 0 0, .int .i64 0] 41))) := ⟨(((Bx.new w #[.int .i64 c.ip, .int .i64 c.b, .int .i64 c.gt, .string c.gm, .string c.wm, .int .i64 c.rs, .slice C.x c.ps.length C.xc, .slice C.y c.ros.length C.yc] 48).below ((Below.refl _ _).alloc (Nat.le_refl _) _)).below ((Below.refl _ _).alloc (Nat.le_refl _) _)), (by have h := Bx.new (w.alloc (.cells #[.int .i64 c.ip, .int .i64 c.b, .int .i64 c.gt, .string c.gm, .string c.wm, .int .i64 c.rs, .slice C.x c.ps.length C.xc, .slice C.y c.ros.length C.yc] 48)) #[.slice A.u h.us.length A.uc, .slice A.s h.ss.length A.sc, .slice A.f h.fs.length A.fc, .slice A.r h.es.length A.rc, .int .i64 h.nx] 41; rw [World.size_alloc] at h; exact (h.below ((Below.refl _ _).alloc (Nat.le_refl _) _))), (by have h := Bx.new ((w.alloc (.cells #[.int .i64 c.ip, .int .i64 c.b, .int .i64 c.gt, .string c.gm, .string c.wm, .int .i64 c.rs, .slice C.x c.ps.length C.xc, .slice C.y c.ros.length C.yc] 48)).alloc (.cells #[.slice A.u h.us.length A.uc, .slice A.s h.ss.length A.sc, .slice A.f h.fs.length A.fc, .slice A.r h.es.length A.rc, .int .i64 h.nx] 41)) #[.slice none 0 0, .slice none 0 0, .slice none 0 0, .slice none 0 0, .int .i64 0] 41; rw [World.size_alloc, World.size_alloc] at h; exact h), ((((Below.refl _ _).alloc (Nat.le_refl _) _).alloc (by simp) _).alloc (by simp <;> omega) _)⟩
  unfold mvF
  by_cases hl : 65536 < ma.size
  · rw [if_pos hl]
    have hlz : decide ((65536 : Int) < (ma.size : Int)) = true := decide_eq_true (by omega)
    have e1 : exU 2 (csM ma pi) now h = zeroHu := by unfold exU; rw [if_neg (by decide)]
    have e2 : exL 2 (csM ma pi) h = [] := by unfold exL; rw [if_neg (by decide)]
    rw [e1, e2]
    clear e1 e2 HS HK HA
    have BQ : Below (((w.alloc (.cells #[.int .i64 c.ip, .int .i64 c.b, .int .i64 c.gt, .string c.gm, .string c.wm, .int .i64 c.rs, .slice C.x c.ps.length C.xc, .slice C.y c.ros.length C.yc] 48)).alloc (.cells #[.slice A.u h.us.length A.uc, .slice A.s h.ss.length A.sc, .slice A.f h.fs.length A.fc, .slice A.r h.es.length A.rc, .int .i64 h.nx] 41)).alloc (.cells #[.slice none 0 0, .slice none 0 0, .slice none 0 0, .slice none 0 0, .int .i64 0] 41)).heap.size (((w.alloc (.cells #[.int .i64 c.ip, .int .i64 c.b, .int .i64 c.gt, .string c.gm, .string c.wm, .int .i64 c.rs, .slice C.x c.ps.length C.xc, .slice C.y c.ros.length C.yc] 48)).alloc (.cells #[.slice A.u h.us.length A.uc, .slice A.s h.ss.length A.sc, .slice A.f h.fs.length A.fc, .slice A.r h.es.length A.rc, .int .i64 h.nx] 41)).alloc (.cells #[.slice none 0 0, .slice none 0 0, .slice none 0 0, .slice none 0 0, .int .i64 0] 41)) ((((w.alloc (.cells #[.int .i64 c.ip, .int .i64 c.b, .int .i64 c.gt, .string c.gm, .string c.wm, .int .i64 c.rs, .slice C.x c.ps.length C.xc, .slice C.y c.ros.length C.yc] 48)).alloc (.cells #[.slice A.u h.us.length A.uc, .slice A.s h.ss.length A.sc, .slice A.f h.fs.length A.fc, .slice A.r h.es.length A.rc, .int .i64 h.nx] 41)).alloc (.cells #[.slice none 0 0, .slice none 0 0, .slice none 0 0, .slice none 0 0, .int .i64 0] 41)).alloc (.cells #[] 3)) := (Below.refl _ _).alloc (Nat.le_refl _) _
    have hsz : (((w.alloc (.cells #[.int .i64 c.ip, .int .i64 c.b, .int .i64 c.gt, .string c.gm, .string c.wm, .int .i64 c.rs, .slice C.x c.ps.length C.xc, .slice C.y c.ros.length C.yc] 48)).alloc (.cells #[.slice A.u h.us.length A.uc, .slice A.s h.ss.length A.sc, .slice A.f h.fs.length A.fc, .slice A.r h.es.length A.rc, .int .i64 h.nx] 41)).alloc (.cells #[.slice none 0 0, .slice none 0 0, .slice none 0 0, .slice none 0 0, .int .i64 0] 41)).heap.size = w.heap.size + 3 := by simp
    have Q : Hid (Bx ((((w.alloc (.cells #[.int .i64 c.ip, .int .i64 c.b, .int .i64 c.gt, .string c.gm, .string c.wm, .int .i64 c.rs, .slice C.x c.ps.length C.xc, .slice C.y c.ros.length C.yc] 48)).alloc (.cells #[.slice A.u h.us.length A.uc, .slice A.s h.ss.length A.sc, .slice A.f h.fs.length A.fc, .slice A.r h.es.length A.rc, .int .i64 h.nx] 41)).alloc (.cells #[.slice none 0 0, .slice none 0 0, .slice none 0 0, .slice none 0 0, .int .i64 0] 41)).alloc (.cells #[] 3)) (w.heap.size) [.int .i64 c.ip, .int .i64 c.b, .int .i64 c.gt, .string c.gm, .string c.wm, .int .i64 c.rs, .slice C.x c.ps.length C.xc, .slice C.y c.ros.length C.yc] ∧ Bx ((((w.alloc (.cells #[.int .i64 c.ip, .int .i64 c.b, .int .i64 c.gt, .string c.gm, .string c.wm, .int .i64 c.rs, .slice C.x c.ps.length C.xc, .slice C.y c.ros.length C.yc] 48)).alloc (.cells #[.slice A.u h.us.length A.uc, .slice A.s h.ss.length A.sc, .slice A.f h.fs.length A.fc, .slice A.r h.es.length A.rc, .int .i64 h.nx] 41)).alloc (.cells #[.slice none 0 0, .slice none 0 0, .slice none 0 0, .slice none 0 0, .int .i64 0] 41)).alloc (.cells #[] 3)) (w.heap.size + 1) [.slice A.u h.us.length A.uc, .slice A.s h.ss.length A.sc, .slice A.f h.fs.length A.fc, .slice A.r h.es.length A.rc, .int .i64 h.nx] ∧ Bx ((((w.alloc (.cells #[.int .i64 c.ip, .int .i64 c.b, .int .i64 c.gt, .string c.gm, .string c.wm, .int .i64 c.rs, .slice C.x c.ps.length C.xc, .slice C.y c.ros.length C.yc] 48)).alloc (.cells #[.slice A.u h.us.length A.uc, .slice A.s h.ss.length A.sc, .slice A.f h.fs.length A.fc, .slice A.r h.es.length A.rc, .int .i64 h.nx] 41)).alloc (.cells #[.slice none 0 0, .slice none 0 0, .slice none 0 0, .slice none 0 0, .int .i64 0] 41)).alloc (.cells #[] 3)) (w.heap.size + 1 + 1) [.slice none 0 0, .slice none 0 0, .slice none 0 0, .slice none 0 0, .int .i64 0] ∧ Below w.heap.size w ((((w.alloc (.cells #[.int .i64 c.ip, .int .i64 c.b, .int .i64 c.gt, .string c.gm, .string c.wm, .int .i64 c.rs, .slice C.x c.ps.length C.xc, .slice C.y c.ros.length C.yc] 48)).alloc (.cells #[.slice A.u h.us.length A.uc, .slice A.s h.ss.length A.sc, .slice A.f h.fs.length A.fc, .slice A.r h.es.length A.rc, .int .i64 h.nx] 41)).alloc (.cells #[.slice none 0 0, .slice none 0 0, .slice none 0 0, .slice none 0 0, .int .i64 0] 41)).alloc (.cells #[] 3))) := ⟨P0.out.1.below BQ, P0.out.2.1.below BQ, P0.out.2.2.1.below BQ, P0.out.2.2.2.trans (BQ.mono P0.out.2.2.2.size)⟩
    have IQ : Hid (OwnR ((((w.alloc (.cells #[.int .i64 c.ip, .int .i64 c.b, .int .i64 c.gt, .string c.gm, .string c.wm, .int .i64 c.rs, .slice C.x c.ps.length C.xc, .slice C.y c.ros.length C.yc] 48)).alloc (.cells #[.slice A.u h.us.length A.uc, .slice A.s h.ss.length A.sc, .slice A.f h.fs.length A.fc, .slice A.r h.es.length A.rc, .int .i64 h.nx] 41)).alloc (.cells #[.slice none 0 0, .slice none 0 0, .slice none 0 0, .slice none 0 0, .int .i64 0] 41)).alloc (.cells #[] 3)) w.heap.size (some ⟨w.heap.size + 3, 0, none⟩) 0 0 []) := by have h := OwnR.lit (((w.alloc (.cells #[.int .i64 c.ip, .int .i64 c.b, .int .i64 c.gt, .string c.gm, .string c.wm, .int .i64 c.rs, .slice C.x c.ps.length C.xc, .slice C.y c.ros.length C.yc] 48)).alloc (.cells #[.slice A.u h.us.length A.uc, .slice A.s h.ss.length A.sc, .slice A.f h.fs.length A.fc, .slice A.r h.es.length A.rc, .int .i64 h.nx] 41)).alloc (.cells #[.slice none 0 0, .slice none 0 0, .slice none 0 0, .slice none 0 0, .int .i64 0] 41)) (w.heap.size + 3) (by rw [hsz]; omega); rw [hsz] at h; exact h.lower (by omega)
    have IQl : Hid (∀ b, rwB (some ⟨w.heap.size + 3, 0, none⟩) 0 0 b → b = w.heap.size + 3) := fun b hb => by cases hb; rfl
    clear hsz BQ
    go_enter Tryz.func22, Tryz.ntmps22
    go_wp2_with (first | (refine wpl_putT 41 rfl _ _ rfl (w.heap.size + 1 + 1) _ rfl rfl Q.out.2.2.1 rfl rfl rfl ?_; intro W5 hw5 R5; have B5 : Hid (Below w.heap.size w W5) := (by rw [hw5]; exact below_cells (by omega) _ _ _ Q.out.2.2.2); have O5 : Hid (OwnR W5 w.heap.size (some ⟨w.heap.size + 3, 0, none⟩) 0 0 []) := (by rw [hw5]; exact IQ.out.keep (fun b hb => (heap_cellsA _ _ _).2 b (by have := IQl.out b hb; omega))); clear hw5) | fail)
    refine bodyPost_ret (v := .tuple #[.agg #[.slice none 0 0, .slice none 0 0, .slice none 0 0, .slice none 0 0, .int .i64 0], .slice (some ⟨w.heap.size + 3, 0, none⟩) 0 0, .int .i64 2]) (results_cell3 Tryz.results22 (w.heap.size + 1 + 1) rfl rfl rfl R5 _ Tryz.underlying41 rfl rfl) rfl ?_
    exact ⟨zeroHA, some ⟨w.heap.size + 3, 0, none⟩, 0, rfl, OwnHu.zero _ _, O5.out, B5.out⟩
  rw [if_neg hl]
  have hlz : decide ((65536 : Int) < (ma.size : Int)) = false := decide_eq_false (by omega)
  have hok : fauC (okG c h) now = 0 → okG c h = true ∧ 0 ≤ now ∧ now ≤ 100000 := fun h => fau_zero h
  generalize fauC (okG c h) now = f at HA hok ⊢
  by_cases hf : ¬ f = 0
  · have hfb : (f != 0) = true := by simp [hf]
    have e1 : exU f (csM ma pi) now h = zeroHu := by unfold exU; rw [if_neg hf]
    have e2 : exL f (csM ma pi) h = [] := by unfold exL; rw [if_neg hf]
    rw [e1, e2]
    clear e1 e2 HS HK hok
    go_enter Tryz.func22, Tryz.ntmps22
    go_wp2_with (first | (refine wpl_getT 48 rfl _ rfl (w.heap.size) rfl P0.out.1 _ Tryz.underlying48 rfl rfl ?_) | (refine wpl_getT 41 rfl _ rfl (w.heap.size + 1) rfl P0.out.2.1 _ Tryz.underlying41 rfl rfl ?_) | fail)
    refine (HA.out _ P0.out.2.2.2).mono ?_
    rintro e w1 ⟨rfl, bx⟩
    have P1 : Hid (Bx w1 (w.heap.size) [.int .i64 c.ip, .int .i64 c.b, .int .i64 c.gt, .string c.gm, .string c.wm, .int .i64 c.rs, .slice C.x c.ps.length C.xc, .slice C.y c.ros.length C.yc] ∧ Bx w1 (w.heap.size + 1) [.slice A.u h.us.length A.uc, .slice A.s h.ss.length A.sc, .slice A.f h.fs.length A.fc, .slice A.r h.es.length A.rc, .int .i64 h.nx] ∧ Bx w1 (w.heap.size + 1 + 1) [.slice none 0 0, .slice none 0 0, .slice none 0 0, .slice none 0 0, .int .i64 0] ∧ Below w.heap.size w w1) := ⟨P0.out.1.below bx, P0.out.2.1.below bx, P0.out.2.2.1.below bx, P0.out.2.2.2.trans (bx.mono P0.out.2.2.2.size)⟩
    clear bx P0
    have BQ : Below w1.heap.size w1 (w1.alloc (.cells #[] 3)) := (Below.refl _ _).alloc (Nat.le_refl _) _
    have h3 : w.heap.size + 1 + 1 < w1.heap.size := World.block_lt_of_cell? w1 ⟨w.heap.size + 1 + 1, 0, none⟩ (P1.out.2.2.1.cell 0 rfl)
    have Q : Hid (Bx (w1.alloc (.cells #[] 3)) (w.heap.size) [.int .i64 c.ip, .int .i64 c.b, .int .i64 c.gt, .string c.gm, .string c.wm, .int .i64 c.rs, .slice C.x c.ps.length C.xc, .slice C.y c.ros.length C.yc] ∧ Bx (w1.alloc (.cells #[] 3)) (w.heap.size + 1) [.slice A.u h.us.length A.uc, .slice A.s h.ss.length A.sc, .slice A.f h.fs.length A.fc, .slice A.r h.es.length A.rc, .int .i64 h.nx] ∧ Bx (w1.alloc (.cells #[] 3)) (w.heap.size + 1 + 1) [.slice none 0 0, .slice none 0 0, .slice none 0 0, .slice none 0 0, .int .i64 0] ∧ Below w.heap.size w (w1.alloc (.cells #[] 3))) := ⟨P1.out.1.below BQ, P1.out.2.1.below BQ, P1.out.2.2.1.below BQ, P1.out.2.2.2.trans (BQ.mono P1.out.2.2.2.size)⟩
    have IQ : Hid (OwnR (w1.alloc (.cells #[] 3)) w.heap.size (some ⟨w1.heap.size, 0, none⟩) 0 0 []) := (OwnR.lit w1 w1.heap.size (Nat.le_refl _)).lower (by omega)
    have IQl : Hid (∀ b, rwB (some ⟨w1.heap.size, 0, none⟩) 0 0 b → b = w1.heap.size) := fun b hb => by cases hb; rfl
    clear P1 BQ HA
    go_wp2_with (first | (refine wpl_putT 41 rfl _ _ rfl (w.heap.size + 1 + 1) _ rfl rfl Q.out.2.2.1 rfl rfl rfl ?_; intro W5 hw5 R5; have B5 : Hid (Below w.heap.size w W5) := (by rw [hw5]; exact below_cells (by omega) _ _ _ Q.out.2.2.2); have O5 : Hid (OwnR W5 w.heap.size (some ⟨w1.heap.size, 0, none⟩) 0 0 []) := (by rw [hw5]; exact IQ.out.keep (fun b hb => (heap_cellsA _ _ _).2 b (by have := IQl.out b hb; omega))); clear hw5) | fail)
    refine bodyPost_ret (v := .tuple #[.agg #[.slice none 0 0, .slice none 0 0, .slice none 0 0, .slice none 0 0, .int .i64 0], .slice (some ⟨w1.heap.size, 0, none⟩) 0 0, .int .i64 f]) (results_cell3 Tryz.results22 (w.heap.size + 1 + 1) rfl rfl rfl R5 _ Tryz.underlying41 rfl rfl) rfl ?_
    exact ⟨zeroHA, some ⟨w1.heap.size, 0, none⟩, 0, rfl, OwnHu.zero _ _, O5.out, B5.out⟩
  replace hf : f = 0 := Classical.not_not.1 hf
  obtain ⟨hk, hn⟩ := hok hf
  clear hok
  subst hf
  have e1 : exU 0 (csM ma pi) now h = exG (csM ma pi) now h := by unfold exU; rw [if_pos rfl]
  have e2 : exL 0 (csM ma pi) h = esI (csM ma pi) h.ss h.ss.length := by unfold exL; rw [if_pos rfl]
  rw [e1, e2]
  clear e1 e2
  have HN : Hid (0 ≤ now ∧ now ≤ 100000) := hn
  have HE : Hid (∀ wx, Below w.heap.size w wx → Calls Tryz.prog 67 #[.agg #[.slice A.u h.us.length A.uc, .slice A.s h.ss.length A.sc, .slice A.f h.fs.length A.fc, .slice A.r h.es.length A.rc, .int .i64 h.nx], .string ma, .int .i64 pi, .int .i64 now] wx fun e w' => ∃ (A' : HuA) (ia : Option Addr) (ic : Nat), e = .returned (.tuple #[.agg #[.slice A'.u (exG (csM ma pi) now h).us.length A'.uc, .slice A'.s (exG (csM ma pi) now h).ss.length A'.sc, .slice A'.f (exG (csM ma pi) now h).fs.length A'.fc, .slice A'.r (exG (csM ma pi) now h).es.length A'.rc, .int .i64 (exG (csM ma pi) now h).nx], .slice ia (esI (csM ma pi) h.ss h.ss.length).length ic]) ∧ HuS w' A' (exG (csM ma pi) now h) ∧ OwnR w' wx.heap.size ia (esI (csM ma pi) h.ss h.ss.length).length ic (esI (csM ma pi) h.ss h.ss.length) ∧ Below wx.heap.size wx w') := fun wx hb => l08Moved_any A h ma pi now wx (HS.out.below hb) HN.out
  have HW : Hid (∀ A4 wx, HuS wx A4 (exG (csM ma pi) now h) → Calls Tryz.prog 33 #[.agg #[.slice A4.u (exG (csM ma pi) now h).us.length A4.uc, .slice A4.s (exG (csM ma pi) now h).ss.length A4.sc, .slice A4.f (exG (csM ma pi) now h).fs.length A4.fc, .slice A4.r (exG (csM ma pi) now h).es.length A4.rc, .int .i64 (exG (csM ma pi) now h).nx]] wx fun e w' => ∃ R : HuA, e = .returned (.agg #[.slice R.u (exG (csM ma pi) now h).us.length R.uc, .slice R.s (exG (csM ma pi) now h).ss.length R.sc, .slice R.f (exG (csM ma pi) now h).fs.length R.fc, .slice R.r (exG (csM ma pi) now h).es.length R.rc, .int .i64 (exG (csM ma pi) now h).nx]) ∧ OwnHu w' wx.heap.size R (exG (csM ma pi) now h) ∧ Below wx.heap.size wx w') := fun A4 wx o => spec_own A4 (exG (csM ma pi) now h) wx o
  clear HS HK HN hn hk
  generalize (exG (csM ma pi) now h) = GG at HE HW ⊢
  generalize (esI (csM ma pi) h.ss h.ss.length) = IL at HE ⊢
  go_enter Tryz.func22, Tryz.ntmps22
  go_wp2_with (first | (refine wpl_getT 48 rfl _ rfl (w.heap.size) rfl P0.out.1 _ Tryz.underlying48 rfl rfl ?_) | (refine wpl_getT 41 rfl _ rfl (w.heap.size + 1) rfl P0.out.2.1 _ Tryz.underlying41 rfl rfl ?_) | fail)
  refine (HA.out _ P0.out.2.2.2).mono ?_
  rintro e w1 ⟨rfl, bx⟩
  have P1 : Hid (Bx w1 (w.heap.size) [.int .i64 c.ip, .int .i64 c.b, .int .i64 c.gt, .string c.gm, .string c.wm, .int .i64 c.rs, .slice C.x c.ps.length C.xc, .slice C.y c.ros.length C.yc] ∧ Bx w1 (w.heap.size + 1) [.slice A.u h.us.length A.uc, .slice A.s h.ss.length A.sc, .slice A.f h.fs.length A.fc, .slice A.r h.es.length A.rc, .int .i64 h.nx] ∧ Bx w1 (w.heap.size + 1 + 1) [.slice none 0 0, .slice none 0 0, .slice none 0 0, .slice none 0 0, .int .i64 0] ∧ Below w.heap.size w w1) := ⟨P0.out.1.below bx, P0.out.2.1.below bx, P0.out.2.2.1.below bx, P0.out.2.2.2.trans (bx.mono P0.out.2.2.2.size)⟩
  clear bx P0
  have h3 : w.heap.size + 1 + 1 < w1.heap.size := World.block_lt_of_cell? w1 ⟨w.heap.size + 1 + 1, 0, none⟩ (P1.out.2.2.1.cell 0 rfl)
  go_wp2_with (first | (refine wpl_getT 41 rfl _ rfl (w.heap.size + 1) rfl P1.out.2.1 _ Tryz.underlying41 rfl rfl ?_) | fail)
  refine (HE.out _ P1.out.2.2.2).mono ?_
  rintro e w2 ⟨A4, ia, ic, rfl, s4, i4, bx⟩
  have BA : Below w2.heap.size w2 (w2.alloc (.cells #[.slice A4.u GG.us.length A4.uc, .slice A4.s GG.ss.length A4.sc, .slice A4.f GG.fs.length A4.fc, .slice A4.r GG.es.length A4.rc, .int .i64 GG.nx] 41)) := (Below.refl _ _).alloc (Nat.le_refl _) _
  have S4 : Hid (HuS (w2.alloc (.cells #[.slice A4.u GG.us.length A4.uc, .slice A4.s GG.ss.length A4.sc, .slice A4.f GG.fs.length A4.fc, .slice A4.r GG.es.length A4.rc, .int .i64 GG.nx] 41)) A4 GG) := s4.below BA
  have P4 : Hid (Bx (w2.alloc (.cells #[.slice A4.u GG.us.length A4.uc, .slice A4.s GG.ss.length A4.sc, .slice A4.f GG.fs.length A4.fc, .slice A4.r GG.es.length A4.rc, .int .i64 GG.nx] 41)) (w.heap.size + 1 + 1) [.slice none 0 0, .slice none 0 0, .slice none 0 0, .slice none 0 0, .int .i64 0] ∧ Below w.heap.size w (w2.alloc (.cells #[.slice A4.u GG.us.length A4.uc, .slice A4.s GG.ss.length A4.sc, .slice A4.f GG.fs.length A4.fc, .slice A4.r GG.es.length A4.rc, .int .i64 GG.nx] 41)) ∧ OwnR (w2.alloc (.cells #[.slice A4.u GG.us.length A4.uc, .slice A4.s GG.ss.length A4.sc, .slice A4.f GG.fs.length A4.fc, .slice A4.r GG.es.length A4.rc, .int .i64 GG.nx] 41)) w1.heap.size ia IL.length ic IL) := ⟨(P1.out.2.2.1.below bx).below BA, (P1.out.2.2.2.trans (bx.mono P1.out.2.2.2.size)).trans (BA.mono (Nat.le_trans P1.out.2.2.2.size bx.size)), i4.now BA⟩
  have Z4 : Hid (w1.heap.size + 1 ≤ (w2.alloc (.cells #[.slice A4.u GG.us.length A4.uc, .slice A4.s GG.ss.length A4.sc, .slice A4.f GG.fs.length A4.fc, .slice A4.r GG.es.length A4.rc, .int .i64 GG.nx] 41)).heap.size) := by rw [World.size_alloc]; have := bx.size; show _ ≤ _; omega
  clear s4 i4 bx P1 HE HA BA
  go_wp2_with fail
  refine (HW.out A4 _ S4.out).mono ?_
  rintro e w3 ⟨R, rfl, o4, bx⟩
  have z4 := Z4.out
  have P5 : Hid (Bx w3 (w.heap.size + 1 + 1) [.slice none 0 0, .slice none 0 0, .slice none 0 0, .slice none 0 0, .int .i64 0] ∧ Below w.heap.size w w3 ∧ OwnR w3 w1.heap.size ia IL.length ic IL ∧ OwnHu w3 (w1.heap.size + 1) R GG) := ⟨P4.out.1.below bx, P4.out.2.1.trans (bx.mono P4.out.2.1.size), P4.out.2.2.now bx, Own4.lower o4 z4⟩
  clear o4 bx P4 HW S4 Z4
  go_wp2_with (first | (refine wpl_putT 41 rfl _ _ rfl (w.heap.size + 1 + 1) _ rfl rfl P5.out.1 rfl rfl rfl ?_; intro W5 hw5 R5; have B5 : Hid (Below w.heap.size w W5) := (by rw [hw5]; exact below_cells (by omega) _ _ _ P5.out.2.1); have O5 : Hid (OwnHu W5 w.heap.size R GG ∧ OwnR W5 w.heap.size ia IL.length ic IL) := (by rw [hw5]; exact ⟨Own4.lower (OwnHu.keep P5.out.2.2.2 (fun b hb => (heap_cellsA _ _ _).2 b (by have := (P5.out.2.2.2.lt b hb).1; omega))) (by omega), (P5.out.2.2.1.keep (fun b hb => (heap_cellsA _ _ _).2 b (by have := (P5.out.2.2.1.lt b hb).1; omega))).lower (by omega)⟩); clear hw5) | fail)
  refine bodyPost_ret (v := .tuple #[.agg #[.slice R.u GG.us.length R.uc, .slice R.s GG.ss.length R.sc, .slice R.f GG.fs.length R.fc, .slice R.r GG.es.length R.rc, .int .i64 GG.nx], .slice ia IL.length ic, .int .i64 0]) (results_cell3 Tryz.results22 (w.heap.size + 1 + 1) rfl rfl rfl R5 _ Tryz.underlying41 rfl rfl) rfl ?_
  exact ⟨R, ia, ic, rfl, O5.out.1, O5.out.2, B5.out⟩
end Go.Proofs.YtmeejholckelgaaGreat

namespace Go.Proofs.YtmeejholckelgaaGreat
open Go.RowKit Go.PlainAid Go.Proofs.YtmeejholckelgaaGreat.Bt Go.Sort
set_option linter.unusedVariables false
set_option maxRecDepth 20000
end Go.Proofs.YtmeejholckelgaaGreat

namespace Go.Proofs.YtmeejholckelgaaGreat
open Go.RowKit Go.PlainAid Go.Proofs.YtmeejholckelgaaGreat.Bt Go.Sort
set_option linter.unusedVariables false
set_option maxRecDepth 20000
theorem moved1_any (id us_ : Int) (mc : ByteArray) (ip be la ud qu un il : Int) (ma : ByteArray) (pi : Int) (B0 B1 : Nat) (w : World) (h0 : w.cell? ⟨B0, 0, none⟩ = some (.string ma)) (h1 : w.cell? ⟨B1, 0, none⟩ = some (.int .i64 pi)) :
    Calls Tryz.prog 68 #[.agg #[.int .i64 id, .int .i64 us_, .string mc, .int .i64 ip, .int .i64 be, .int .i64 la, .int .i64 ud, .int .i64 qu, .int .i64 un, .int .i64 il], .pointer (some ⟨B0, 0, none⟩), .pointer (some ⟨B1, 0, none⟩)] w fun e w' => e = .returned (.int .i64 (csM ma pi ⟨id, us_, mc, ip, be, la, ud, qu, un, il⟩)) ∧ Grw w w' := by
  have k0 := acell h0 (.cells #[.int .i64 id, .int .i64 us_, .string mc, .int .i64 ip, .int .i64 be, .int .i64 la, .int .i64 ud, .int .i64 qu, .int .i64 un, .int .i64 il] 84)
  have k1 := acell h1 (.cells #[.int .i64 id, .int .i64 us_, .string mc, .int .i64 ip, .int .i64 be, .int .i64 la, .int .i64 ud, .int .i64 qu, .int .i64 un, .int .i64 il] 84)
  unfold csM
  dsimp only
  obtain ⟨z, hz⟩ : ∃ z, (mc.toList == ma.toList) = z := ⟨_, rfl⟩
  obtain ⟨y, hy⟩ : ∃ y, (ip == pi) = y := ⟨_, rfl⟩
  rw [hz, hy]
  cases z <;> cases y
  all_goals
    first | rw [if_pos (by decide)] | rw [if_neg (by decide)]
    go_enter Tryz.func68, Tryz.ntmps68
    go_wp2
    go_ret
    exact ⟨rfl, (Grw.refl _).alloc _⟩
set_option maxHeartbeats 4000000 in
theorem implEndMoved_any (C : CfA) (c : CfV) (A : HuA) (h : HuV) (ma : ByteArray) (pi : Int) (now : Int) (w : World) (rc : CfR w C c) (rh : HuR w A h) (hs : HuS w A h) (sc : CfSz c) (sh : HuSz h) (hm : ma.size ≤ maxLen) :
    Calls Tryz.prog 23 #[.agg #[.int .i64 c.ip, .int .i64 c.b, .int .i64 c.gt, .string c.gm, .string c.wm, .int .i64 c.rs, .slice C.x c.ps.length C.xc, .slice C.y c.ros.length C.yc], .agg #[.slice A.u h.us.length A.uc, .slice A.s h.ss.length A.sc, .slice A.f h.fs.length A.fc, .slice A.r h.es.length A.rc, .int .i64 h.nx], .string ma, .int .i64 pi, .int .i64 now] w fun e w' => ∃ (R : HuA) (ia : Option Addr) (ic : Nat), e = .returned (.tuple #[.agg #[.slice R.u (exU (mvF c h ma now) (csM ma pi) now h).us.length R.uc, .slice R.s (exU (mvF c h ma now) (csM ma pi) now h).ss.length R.sc, .slice R.f (exU (mvF c h ma now) (csM ma pi) now h).fs.length R.fc, .slice R.r (exU (mvF c h ma now) (csM ma pi) now h).es.length R.rc, .int .i64 (exU (mvF c h ma now) (csM ma pi) now h).nx], .slice ia (exL (mvF c h ma now) (csM ma pi) h).length ic, .int .i64 (mvF c h ma now)]) ∧ OwnHu w' w.heap.size R (exU (mvF c h ma now) (csM ma pi) now h) ∧ OwnR w' w.heap.size ia (exL (mvF c h ma now) (csM ma pi) h).length ic (exL (mvF c h ma now) (csM ma pi) h) ∧ Below w.heap.size w w' := by
  have HA : Hid (∀ wx, Below w.heap.size w wx → Calls Tryz.prog 42 #[.agg #[.int .i64 c.ip, .int .i64 c.b, .int .i64 c.gt, .string c.gm, .string c.wm, .int .i64 c.rs, .slice C.x c.ps.length C.xc, .slice C.y c.ros.length C.yc], .agg #[.slice A.u h.us.length A.uc, .slice A.s h.ss.length A.sc, .slice A.f h.fs.length A.fc, .slice A.r h.es.length A.rc, .int .i64 h.nx], .int .i64 now] wx fun e w' => e = .returned (.int .i64 (fauC (okG c h) now)) ∧ Below wx.heap.size wx w') := fun wx hb => impl_fault C c A h now wx (rc.below hb) (rh.below hb) sc sh
  have HS : Hid (HuS w A h) := hs
  have HK : Hid (HuOk h) := rh.ok
  clear rc rh hs
  have P0 : Hid (Bx (((((w.alloc (.cells #[.int .i64 c.ip, .int .i64 c.b, .int .i64 c.gt, .string c.gm, .string c.wm, .int .i64 c.rs, .slice C.x c.ps.length C.xc, .slice C.y c.ros.length C.yc] 48)).alloc (.cells #[.slice A.u h.us.length A.uc, .slice A.s h.ss.length A.sc, .slice A.f h.fs.length A.fc, .slice A.r h.es.length A.rc, .int .i64 h.nx] 41)).alloc (.cells #[.string ma] 9)).alloc (.cells #[.int .i64 pi] 3)).alloc (.cells #[.slice none 0 0, .slice none 0 0, .slice none 0 0, .slice none 0 0, .int .i64 0] 41)) (w.heap.size) [.int .i64 c.ip, .int .i64 c.b, .int .i64 c.gt, .string c.gm, .string c.wm, .int .i64 c.rs, .slice C.x c.ps.length C.xc, .slice C.y c.ros.length C.yc] ∧ Bx (((((w.alloc (.cells #[.int .i64 c.ip, .int .i64 c.b, .int .i64 c.gt, .string c.gm, .string c.wm, .int .i64 c.rs, .slice C.x c.ps.length C.xc, .slice C.y c.ros.length C.yc] 48)).alloc (.cells #[.slice A.u h.us.length A.uc, .slice A.s h.ss.length A.sc, .slice A.f h.fs.length A.fc, .slice A.r h.es.length A.rc, .int .i64 h.nx] 41)).alloc (.cells #[.string ma] 9)).alloc (.cells #[.int .i64 pi] 3)).alloc (.cells #[.slice none 0 0, .slice none 0 0, .slice none 0 0, .slice none 0 0, .int .i64 0] 41)) (w.heap.size + 1) [.slice A.u h.us.length A.uc, .slice A.s h.ss.length A.sc, .slice A.f h.fs.length A.fc, .slice A.r h.es.length A.rc, .int .i64 h.nx] ∧ Bx (((((w.alloc (.cells #[.int .i64 c.ip, .int .i64 c.b, .int .i64 c.gt, .string c.gm, .string c.wm, .int .i64 c.rs, .slice C.x c.ps.length C.xc, .slice C.y c.ros.length C.yc] 48)).alloc (.cells #[.slice A.u h.us.length A.uc, .slice A.s h.ss.length A.sc, .slice A.f h.fs.length A.fc, .slice A.r h.es.length A.rc, .int .i64 h.nx] 41)).alloc (.cells #[.string ma] 9)).alloc (.cells #[.int .i64 pi] 3)).alloc (.cells #[.slice none 0 0, .slice none 0 0, .slice none 0 0, .slice none 0 0, .int .i64 0] 41)) (w.heap.size + 1 + 1) [.string ma] ∧ Bx (((((w.alloc (.cells #[.int .i64 c.ip, .int .i64 c.b, .int .i64 c.gt, .string c.gm, .string c.wm, .int .i64 c.rs, .slice C.x c.ps.length C.xc, .slice C.y c.ros.length C.yc] 48)).alloc (.cells #[.slice A.u h.us.length A.uc, .slice A.s h.ss.length A.sc, .slice A.f h.fs.length A.fc, .slice A.r h.es.length A.rc, .int .i64 h.nx] 41)).alloc (.cells #[.string ma] 9)).alloc (.cells #[.int .i64 pi] 3)).alloc (.cells #[.slice none 0 0, .slice none 0 0, .slice none 0 0, .slice none 0 0, .int .i64 0] 41)) (w.heap.size + 1 + 1 + 1) [.int .i64 pi] ∧ Bx (((((w.alloc (.cells #[.int .i64 c.ip, .int .i64 c.b, .int .i64 c.gt, .string c.gm, .string c.wm, .int .i64 c.rs, .slice C.x c.ps.length C.xc, .slice C.y c.ros.length C.yc] 48)).alloc (.cells #[.slice A.u h.us.length A.uc, .slice A.s h.ss.length A.sc, .slice A.f h.fs.length A.fc, .slice A.r h.es.length A.rc, .int .i64 h.nx] 41)).alloc (.cells #[.string ma] 9)).alloc (.cells #[.int .i64 pi] 3)).alloc (.cells #[.slice none 0 0, .slice none 0 0, .slice none 0 0, .slice none 0 0, .int .i64 0] 41)) (w.heap.size + 1 + 1 + 1 + 1) [.slice none 0 0, .slice none 0 0, .slice none 0 0, .slice none 0 0, .int .i64 0] ∧ Below w.heap.size w (((((w.alloc (.cells #[.int .i64 c.ip, .int .i64 c.b, .int .i64 c.gt, .string c.gm, .string c.wm, .int .i64 c.rs, .slice C.x c.ps.length C.xc, .slice C.y c.ros.length C.yc] 48)).alloc (.cells #[.slice A.u h.us.length A.uc, .slice A.s h.ss.length A.sc, .slice A.f h.fs.length A.fc, .slice A.r h.es.length A.rc, .int .i64 h.nx] 41)).alloc (.cells #[.string ma] 9)).alloc (.cells #[.int .i64 pi] 3)).alloc (.cells #[.slice none 0 0, .slice none 0 0, .slice none 0 0, .slice none 0 0, .int .i64 0] 41))) := ⟨(((((Bx.new w #[.int .i64 c.ip, .int .i64 c.b, .int .i64 c.gt, .string c.gm, .string c.wm, .int .i64 c.rs, .slice C.x c.ps.length C.xc, .slice C.y c.ros.length C.yc] 48).below ((Below.refl _ _).alloc (Nat.le_refl _) _)).below ((Below.refl _ _).alloc (Nat.le_refl _) _)).below ((Below.refl _ _).alloc (Nat.le_refl _) _)).below ((Below.refl _ _).alloc (Nat.le_refl _) _)), (by have h := Bx.new (w.alloc (.cells #[.int .i64 c.ip, .int .i64 c.b, .int .i64 c.gt, .string c.gm, .string c.wm, .int .i64 c.rs, .slice C.x c.ps.length C.xc, .slice C.y c.ros.length C.yc] 48)) #[.slice A.u h.us.length A.uc, .slice A.s h.ss.length A.sc, .slice A.f h.fs.length A.fc, .slice A.r h.es.length A.rc, .int .i64 h.nx] 41; rw [World.size_alloc] at h; exact (((h.below ((Below.refl _ _).alloc (Nat.le_refl _) _)).below ((Below.refl _ _).alloc (Nat.le_refl _) _)).below ((Below.refl _ _).alloc (Nat.le_refl _) _))), (by have h := Bx.new ((w.alloc (.cells #[.int .i64 c.ip, .int .i64 c.b, .int .i64 c.gt, .string c.gm, .string c.wm, .int .i64 c.rs, .slice C.x c.ps.length C.xc, .slice C.y c.ros.length C.yc] 48)).alloc (.cells #[.slice A.u h.us.length A.uc, .slice A.s h.ss.length A.sc, .slice A.f h.fs.length A.fc, .slice A.r h.es.length A.rc, .int .i64 h.nx] 41)) #[.string ma] 9; rw [World.size_alloc, World.size_alloc] at h; exact ((h.below ((Below.refl _ _).alloc (Nat.le_refl _) _)).below ((Below.refl _ _).alloc (Nat.le_refl _) _))), (by have h := Bx.new (((w.alloc (.cells #[.int .i64 c.ip, .int .i64 c.b, .int .i64 c.gt, .string c.gm, .string c.wm, .int .i64 c.rs, .slice C.x c.ps.length C.xc, .slice C.y c.ros.length C.yc] 48)).alloc (.cells #[.slice A.u h.us.length A.uc, .slice A.s h.ss.length A.sc, .slice A.f h.fs.length A.fc, .slice A.r h.es.length A.rc, .int .i64 h.nx] 41)).alloc (.cells #[.string ma] 9)) #[.int .i64 pi] 3; rw [World.size_alloc, World.size_alloc, World.size_alloc] at h; exact (h.below ((Below.refl _ _).alloc (Nat.le_refl _) _))), (by have h := Bx.new ((((w.alloc (.cells #[.int .i64 c.ip, .int .i64 c.b, .int .i64 c.gt, .string c.gm, .string c.wm, .int .i64 c.rs, .slice C.x c.ps.length C.xc, .slice C.y c.ros.length C.yc] 48)).alloc (.cells #[.slice A.u h.us.length A.uc, .slice A.s h.ss.length A.sc, .slice A.f h.fs.length A.fc, .slice A.r h.es.length A.rc, .int .i64 h.nx] 41)).alloc (.cells #[.string ma] 9)).alloc (.cells #[.int .i64 pi] 3)) #[.slice none 0 0, .slice none 0 0, .slice none 0 0, .slice none 0 0, .int .i64 0] 41; rw [World.size_alloc, World.size_alloc, World.size_alloc, World.size_alloc] at h; exact h), ((((((Below.refl _ _).alloc (Nat.le_refl _) _).alloc (by simp) _).alloc (by simp <;> omega) _).alloc (by simp <;> omega) _).alloc (by simp <;> omega) _)⟩
  unfold mvF
  by_cases hl : 65536 < ma.size
  · rw [if_pos hl]
    have hlz : decide ((65536 : Int) < (ma.size : Int)) = true := decide_eq_true (by omega)
    have e1 : exU 2 (csM ma pi) now h = zeroHu := by unfold exU; rw [if_neg (by decide)]
    have e2 : exL 2 (csM ma pi) h = [] := by unfold exL; rw [if_neg (by decide)]
    rw [e1, e2]
    clear e1 e2 HS HK HA
    have mb := P0.out.2.2.1.cell 0 rfl
    go_enter Tryz.func23, Tryz.ntmps23
    go_wp2_with (first | (refine wpl_putT 41 rfl _ _ rfl (w.heap.size + 1 + 1 + 1 + 1) _ rfl rfl P0.out.2.2.2.2.1 rfl rfl rfl ?_; intro W5 hw5 R5; have B5 : Hid (Below w.heap.size w W5) := (by rw [hw5]; exact below_cells (by omega) _ _ _ P0.out.2.2.2.2.2); clear hw5) | fail)
    refine bodyPost_ret (v := .tuple #[.agg #[.slice none 0 0, .slice none 0 0, .slice none 0 0, .slice none 0 0, .int .i64 0], .slice none 0 0, .int .i64 2]) (results_cell3 Tryz.results23 (w.heap.size + 1 + 1 + 1 + 1) rfl rfl rfl R5 _ Tryz.underlying41 rfl rfl) rfl ?_
    exact ⟨zeroHA, none, 0, rfl, OwnHu.zero _ _, OwnR.nil _ _, B5.out⟩
  rw [if_neg hl]
  have hlz : decide ((65536 : Int) < (ma.size : Int)) = false := decide_eq_false (by omega)
  have hok : fauC (okG c h) now = 0 → okG c h = true ∧ 0 ≤ now ∧ now ≤ 100000 := fun h => fau_zero h
  generalize fauC (okG c h) now = f at HA hok ⊢
  by_cases hf : ¬ f = 0
  · have hfb : (f != 0) = true := by simp [hf]
    have e1 : exU f (csM ma pi) now h = zeroHu := by unfold exU; rw [if_neg hf]
    have e2 : exL f (csM ma pi) h = [] := by unfold exL; rw [if_neg hf]
    rw [e1, e2]
    clear e1 e2 HS HK hok
    have mb := P0.out.2.2.1.cell 0 rfl
    go_enter Tryz.func23, Tryz.ntmps23
    go_wp2_with (first | (refine wpl_getT 48 rfl _ rfl (w.heap.size) rfl P0.out.1 _ Tryz.underlying48 rfl rfl ?_) | (refine wpl_getT 41 rfl _ rfl (w.heap.size + 1) rfl P0.out.2.1 _ Tryz.underlying41 rfl rfl ?_) | fail)
    refine (HA.out _ P0.out.2.2.2.2.2).mono ?_
    rintro e w1 ⟨rfl, bx⟩
    have P1 : Hid (Bx w1 (w.heap.size) [.int .i64 c.ip, .int .i64 c.b, .int .i64 c.gt, .string c.gm, .string c.wm, .int .i64 c.rs, .slice C.x c.ps.length C.xc, .slice C.y c.ros.length C.yc] ∧ Bx w1 (w.heap.size + 1) [.slice A.u h.us.length A.uc, .slice A.s h.ss.length A.sc, .slice A.f h.fs.length A.fc, .slice A.r h.es.length A.rc, .int .i64 h.nx] ∧ Bx w1 (w.heap.size + 1 + 1) [.string ma] ∧ Bx w1 (w.heap.size + 1 + 1 + 1) [.int .i64 pi] ∧ Bx w1 (w.heap.size + 1 + 1 + 1 + 1) [.slice none 0 0, .slice none 0 0, .slice none 0 0, .slice none 0 0, .int .i64 0] ∧ Below w.heap.size w w1) := ⟨P0.out.1.below bx, P0.out.2.1.below bx, P0.out.2.2.1.below bx, P0.out.2.2.2.1.below bx, P0.out.2.2.2.2.1.below bx, P0.out.2.2.2.2.2.trans (bx.mono P0.out.2.2.2.2.2.size)⟩
    clear bx P0
    clear HA
    go_wp2_with (first | (refine wpl_putT 41 rfl _ _ rfl (w.heap.size + 1 + 1 + 1 + 1) _ rfl rfl P1.out.2.2.2.2.1 rfl rfl rfl ?_; intro W5 hw5 R5; have B5 : Hid (Below w.heap.size w W5) := (by rw [hw5]; exact below_cells (by omega) _ _ _ P1.out.2.2.2.2.2); clear hw5) | fail)
    refine bodyPost_ret (v := .tuple #[.agg #[.slice none 0 0, .slice none 0 0, .slice none 0 0, .slice none 0 0, .int .i64 0], .slice none 0 0, .int .i64 f]) (results_cell3 Tryz.results23 (w.heap.size + 1 + 1 + 1 + 1) rfl rfl rfl R5 _ Tryz.underlying41 rfl rfl) rfl ?_
    exact ⟨zeroHA, none, 0, rfl, OwnHu.zero _ _, OwnR.nil _ _, B5.out⟩
  replace hf : f = 0 := Classical.not_not.1 hf
  obtain ⟨hk, hn⟩ := hok hf
  clear hok
  subst hf
  have e1 : exU 0 (csM ma pi) now h = exG (csM ma pi) now h := by unfold exU; rw [if_pos rfl]
  have e2 : exL 0 (csM ma pi) h = esI (csM ma pi) h.ss h.ss.length := by unfold exL; rw [if_pos rfl]
  rw [e1, e2]
  clear e1 e2
  have HN : Hid (0 ≤ now ∧ now ≤ 100000) := hn
  have eg : ∀ args w, (callFunc 68 args).run Tryz.prog w = .ok (.enter 68 args) w := enters_of Tryz.func68 (by kernel_rfl) rfl
  have HE : Hid (∀ W, Below w.heap.size w W → W.cell? ⟨w.heap.size + 1 + 1, 0, none⟩ = some (.string ma) → W.cell? ⟨w.heap.size + 1 + 1 + 1, 0, none⟩ = some (.int .i64 pi) → Calls Tryz.prog 65 #[.agg #[.slice A.u h.us.length A.uc, .slice A.s h.ss.length A.sc, .slice A.f h.fs.length A.fc, .slice A.r h.es.length A.rc, .int .i64 h.nx], .int .i64 now, .func (.func 68) #[] #[.pointer (some ⟨w.heap.size + 1 + 1, 0, none⟩), .pointer (some ⟨w.heap.size + 1 + 1 + 1, 0, none⟩)]] W fun e w' => ∃ (R : HuA) (ia : Option Addr) (ic : Nat), e = .returned (.tuple #[.agg #[.slice R.u (exG (csM ma pi) now h).us.length R.uc, .slice R.s (exG (csM ma pi) now h).ss.length R.sc, .slice R.f (exG (csM ma pi) now h).fs.length R.fc, .slice R.r (exG (csM ma pi) now h).es.length R.rc, .int .i64 (exG (csM ma pi) now h).nx], .slice ia (esI (csM ma pi) h.ss h.ss.length).length ic]) ∧ OwnHu w' W.heap.size R (exG (csM ma pi) now h) ∧ OwnR w' W.heap.size ia (esI (csM ma pi) h.ss h.ss.length).length ic (esI (csM ma pi) h.ss h.ss.length) ∧ Below W.heap.size W w') := by
    intro W hb h7 h8
    have s' := HS.out.below hb
    refine (endSessions_2 A.u A.s A.f A.r h.us.length A.uc h.ss.length A.sc h.fs.length A.fc h.es.length A.rc h.us h.ss h.fs h.es h.nx now 68 _ _ (csM ma pi) W s'.us s'.ss s'.fs s'.es eg (fun id us_ mc ip be la ud qu un il W2 b2 => moved1_any id us_ mc ip be la ud qu un il ma pi _ _ W2 (bkeep b2 h7) (bkeep b2 h8))).mono ?_
    rintro e w' ⟨vu, vs, vf, vr, vi, h1, h2, h3, h4⟩
    obtain ⟨R, rfl, rfl, rfl, rfl, h5⟩ := hu_of4 (h := (exG (csM ma pi) now h)) h2
    obtain ⟨ia, ic, rfl, -⟩ := h3.slice
    exact ⟨R, ia, ic, h1, h5, h3, h4⟩
  clear HS HK HN hn hk eg
  generalize (exG (csM ma pi) now h) = GG at HE ⊢
  generalize (esI (csM ma pi) h.ss h.ss.length) = IL at HE ⊢
  have mb := P0.out.2.2.1.cell 0 rfl
  go_enter Tryz.func23, Tryz.ntmps23
  go_wp2_with (first | (refine wpl_getT 48 rfl _ rfl (w.heap.size) rfl P0.out.1 _ Tryz.underlying48 rfl rfl ?_) | (refine wpl_getT 41 rfl _ rfl (w.heap.size + 1) rfl P0.out.2.1 _ Tryz.underlying41 rfl rfl ?_) | fail)
  refine (HA.out _ P0.out.2.2.2.2.2).mono ?_
  rintro e w1 ⟨rfl, bx⟩
  have P1 : Hid (Bx w1 (w.heap.size) [.int .i64 c.ip, .int .i64 c.b, .int .i64 c.gt, .string c.gm, .string c.wm, .int .i64 c.rs, .slice C.x c.ps.length C.xc, .slice C.y c.ros.length C.yc] ∧ Bx w1 (w.heap.size + 1) [.slice A.u h.us.length A.uc, .slice A.s h.ss.length A.sc, .slice A.f h.fs.length A.fc, .slice A.r h.es.length A.rc, .int .i64 h.nx] ∧ Bx w1 (w.heap.size + 1 + 1) [.string ma] ∧ Bx w1 (w.heap.size + 1 + 1 + 1) [.int .i64 pi] ∧ Bx w1 (w.heap.size + 1 + 1 + 1 + 1) [.slice none 0 0, .slice none 0 0, .slice none 0 0, .slice none 0 0, .int .i64 0] ∧ Below w.heap.size w w1) := ⟨P0.out.1.below bx, P0.out.2.1.below bx, P0.out.2.2.1.below bx, P0.out.2.2.2.1.below bx, P0.out.2.2.2.2.1.below bx, P0.out.2.2.2.2.2.trans (bx.mono P0.out.2.2.2.2.2.size)⟩
  clear bx P0
  have h3 : w.heap.size + 1 + 1 + 1 + 1 < w1.heap.size := World.block_lt_of_cell? w1 ⟨w.heap.size + 1 + 1 + 1 + 1, 0, none⟩ (P1.out.2.2.2.2.1.cell 0 rfl)
  go_wp2_with (first | (refine wpl_getT 41 rfl _ rfl (w.heap.size + 1) rfl P1.out.2.1 _ Tryz.underlying41 rfl rfl ?_) | fail)
  refine (HE.out _ P1.out.2.2.2.2.2 (P1.out.2.2.1.cell 0 rfl) (P1.out.2.2.2.1.cell 0 rfl)).mono ?_
  rintro e w2 ⟨R, ia, ic, rfl, o4, i4, bx⟩
  have BA : Below w2.heap.size w2 (w2.alloc (.cells #[.slice R.u GG.us.length R.uc, .slice R.s GG.ss.length R.sc, .slice R.f GG.fs.length R.fc, .slice R.r GG.es.length R.rc, .int .i64 GG.nx] 41)) := (Below.refl _ _).alloc (Nat.le_refl _) _
  have N4 : Hid (Bx (w2.alloc (.cells #[.slice R.u GG.us.length R.uc, .slice R.s GG.ss.length R.sc, .slice R.f GG.fs.length R.fc, .slice R.r GG.es.length R.rc, .int .i64 GG.nx] 41)) w2.heap.size [.slice R.u GG.us.length R.uc, .slice R.s GG.ss.length R.sc, .slice R.f GG.fs.length R.fc, .slice R.r GG.es.length R.rc, .int .i64 GG.nx]) := Bx.new w2 #[.slice R.u GG.us.length R.uc, .slice R.s GG.ss.length R.sc, .slice R.f GG.fs.length R.fc, .slice R.r GG.es.length R.rc, .int .i64 GG.nx] 41
  have P5 : Hid (Bx (w2.alloc (.cells #[.slice R.u GG.us.length R.uc, .slice R.s GG.ss.length R.sc, .slice R.f GG.fs.length R.fc, .slice R.r GG.es.length R.rc, .int .i64 GG.nx] 41)) (w.heap.size + 1 + 1 + 1 + 1) [.slice none 0 0, .slice none 0 0, .slice none 0 0, .slice none 0 0, .int .i64 0] ∧ Below w.heap.size w (w2.alloc (.cells #[.slice R.u GG.us.length R.uc, .slice R.s GG.ss.length R.sc, .slice R.f GG.fs.length R.fc, .slice R.r GG.es.length R.rc, .int .i64 GG.nx] 41)) ∧ OwnR (w2.alloc (.cells #[.slice R.u GG.us.length R.uc, .slice R.s GG.ss.length R.sc, .slice R.f GG.fs.length R.fc, .slice R.r GG.es.length R.rc, .int .i64 GG.nx] 41)) w1.heap.size ia IL.length ic IL ∧ OwnHu (w2.alloc (.cells #[.slice R.u GG.us.length R.uc, .slice R.s GG.ss.length R.sc, .slice R.f GG.fs.length R.fc, .slice R.r GG.es.length R.rc, .int .i64 GG.nx] 41)) w1.heap.size R GG) := ⟨(P1.out.2.2.2.2.1.below bx).below BA, (P1.out.2.2.2.2.2.trans (bx.mono P1.out.2.2.2.2.2.size)).trans (BA.mono (Nat.le_trans P1.out.2.2.2.2.2.size bx.size)), i4.now BA, o4.now BA⟩
  clear o4 i4 bx P1 HE HA BA
  go_wp2_with (first | (refine wpl_getT 41 rfl _ rfl (w2.heap.size) rfl N4.out _ Tryz.underlying41 rfl rfl ?_) | (refine wpl_putT 41 rfl _ _ rfl (w.heap.size + 1 + 1 + 1 + 1) _ rfl rfl P5.out.1 rfl rfl rfl ?_; intro W5 hw5 R5; have B5 : Hid (Below w.heap.size w W5) := (by rw [hw5]; exact below_cells (by omega) _ _ _ P5.out.2.1); have O5 : Hid (OwnHu W5 w.heap.size R GG ∧ OwnR W5 w.heap.size ia IL.length ic IL) := (by rw [hw5]; exact ⟨Own4.lower (OwnHu.keep P5.out.2.2.2 (fun b hb => (heap_cellsA _ _ _).2 b (by have := (P5.out.2.2.2.lt b hb).1; omega))) (by omega), (P5.out.2.2.1.keep (fun b hb => (heap_cellsA _ _ _).2 b (by have := (P5.out.2.2.1.lt b hb).1; omega))).lower (by omega)⟩); clear hw5) | fail)
  refine bodyPost_ret (v := .tuple #[.agg #[.slice R.u GG.us.length R.uc, .slice R.s GG.ss.length R.sc, .slice R.f GG.fs.length R.fc, .slice R.r GG.es.length R.rc, .int .i64 GG.nx], .slice ia IL.length ic, .int .i64 0]) (results_cell3 Tryz.results23 (w.heap.size + 1 + 1 + 1 + 1) rfl rfl rfl R5 _ Tryz.underlying41 rfl rfl) rfl ?_
  exact ⟨R, ia, ic, rfl, O5.out.1, O5.out.2, B5.out⟩
end Go.Proofs.YtmeejholckelgaaGreat

namespace Go.Proofs.YtmeejholckelgaaGreat
open Go.RowKit Go.PlainAid Go.Proofs.YtmeejholckelgaaGreat.Bt Go.Sort
set_option linter.unusedVariables false
set_option maxRecDepth 20000
theorem lawEndMoved_any (C : CfA) (c : CfV) (A : HuA) (h : HuV) (ma : ByteArray) (pi now : Int) (w : World) (rC : CfR w C c) (bC : CfBd C c) (rA : HuR w A h) (bA : HuBd A h) (hm : ma.size ≤ maxLen) :
    Calls Tryz.prog 5 #[.agg #[.int .i64 c.ip, .int .i64 c.b, .int .i64 c.gt, .string c.gm, .string c.wm, .int .i64 c.rs, .slice C.x c.ps.length C.xc, .slice C.y c.ros.length C.yc], .agg #[.slice A.u h.us.length A.uc, .slice A.s h.ss.length A.sc, .slice A.f h.fs.length A.fc, .slice A.r h.es.length A.rc, .int .i64 h.nx], .string ma, .int .i64 pi, .int .i64 now] w fun e w' => e = .returned (.bool true) ∧ Below w.heap.size w w' := by
  have hk := rA.ok
  by_cases hl : h.ss.length ≤ 1048576
  · exact lawEndMoved_of C c A h ma pi now (exU (mvF c h ma now) (csM ma pi) now h) (exL (mvF c h ma now) (csM ma pi) h) _ (mvF c h ma now) w rC bC rA bA (Nat.le_trans exL_ln hl) rfl (exL_ok hk) (exU_ok hk (fun hf => by
      unfold mvF at hf
      split at hf
      · cases hf
      · exact (fau_zero hf).2) (csM_bd ma pi)) (fun sc sh => exU_ln sh.ln)
      (fun sc sh C' L A' B0 B1 w oC oA => specEndMoved_any C' c A' h ma pi now w (oC.rw rC.ok) (oA.rw rA.ok) (oA.srcs rA.ok sh.hl) sc sh hm)
      (fun sc sh C' L A' B0 B1 w oC oA => implEndMoved_any C' c A' h ma pi now w (oC.rw rC.ok) (oA.rw rA.ok) (oA.srcs rA.ok sh.hl) sc sh hm)
  · exact lawEndMoved_of C c A h ma pi now zeroHu [] 0 0 w rC bC rA bA (Nat.zero_le _) rfl (fun _ h => by cases h) zeroHu_ok (fun sc sh => absurd sh.ss hl) (fun sc sh => absurd sh.ss hl) (fun sc sh => absurd sh.ss hl)
end Go.Proofs.YtmeejholckelgaaGreat
