/- RoleAllows, the program's and the model's. -/
import Derived.Test.YtcgdpijmfgkalacFirstW
namespace Go.Proofs.Ytcgdpijmfgkalac
open Go.RowKit Go.PlainAid Go.Proofs.Ytcgdpijmfgkalac.Bt Go.Sort
set_option linter.unusedVariables false
set_option maxRecDepth 20000

/-- Whether the rule at a place allows. -/
def alAt (rs : List RuleV) (k : Int) : Bool := match rs[k.toNat]? with | some x => x.al | none => false
/-- What RoleAllows answers. -/
noncomputable def raB (r : RoleV) (proto x port : Int) : Bool := dec (frC r proto x port = 0) && alAt r.rs (frK r proto x port)
noncomputable def raC (r : RoleV) (proto x port : Int) : Int := if frC r proto x port = 5 then 0 else frC r proto x port
theorem fr_at {r : RoleV} {proto x port : Int} (h : frC r proto x port = 0) : roB r = true ∧ 0 ≤ frK r proto x port ∧ frK r proto x port < r.rs.length := by
  have hk : frK r proto x port = fv (fitB proto x port) r.rs := by unfold frK; rw [if_pos h]
  have hb := fv_bd (fitB proto x port) r.rs
  unfold frC at h
  split at h
  · cases h
  · rename_i h1
    split at h
    · cases h
    · split at h
      · cases h
      · rename_i h3
        exact ⟨by simpa using h1, by omega, by omega⟩
theorem fr_code (r : RoleV) (proto x port : Int) : frC r proto x port = 0 ∨ frC r proto x port = 1 ∨ frC r proto x port = 4 ∨ frC r proto x port = 5 := by
  unfold frC
  split
  · simp
  · split
    · simp
    · split <;> simp

set_option maxHeartbeats 2000000 in
theorem implAllows_any (nm : ByteArray) (rs : List RuleV) (q m i : Int) (a : Option Addr) (len cap : Nat) (proto y port : Int) (w : World) (hs : nm.size ≤ 1048576) (h : Rw RuR 6 w a rs) (hl : rs.length = len) (hl2 : len ≤ 1048576) (hp : proto ≤ 9223372036854775807) (ht : port ≤ 9223372036854775807) :
    Calls Try.prog 8 #[.agg #[.string nm, .slice a len cap, .int .i64 q, .int .i64 m, .int .i64 i], .int .i64 proto, .int .i64 y, .int .i64 port] w fun e w' => e = .returned (.tuple #[.bool (raB ⟨nm, rs, q, m, i⟩ proto y port), .int .i64 (raC ⟨nm, rs, q, m, i⟩ proto y port)]) ∧ Grw w w' := by
  have HF : Hid (∀ w, Rw RuR 6 w a rs → Calls Try.prog 21 #[.agg #[.string nm, .slice a len cap, .int .i64 q, .int .i64 m, .int .i64 i], .int .i64 proto, .int .i64 y, .int .i64 port] w fun e w' => e = .returned (.tuple #[.int .i64 (frK ⟨nm, rs, q, m, i⟩ proto y port), .int .i64 (frC ⟨nm, rs, q, m, i⟩ proto y port)]) ∧ Grw w w') := fun w h => implFirst_any nm rs q m i a len cap proto y port w hs h hl hl2 hp ht
  have RW : Hid (Rw RuR 6 w a rs) := h
  have EB : Hid (raB ⟨nm, rs, q, m, i⟩ proto y port = (dec (frC ⟨nm, rs, q, m, i⟩ proto y port = 0) && alAt rs (frK ⟨nm, rs, q, m, i⟩ proto y port))) := rfl
  have EC : Hid (raC ⟨nm, rs, q, m, i⟩ proto y port = if frC ⟨nm, rs, q, m, i⟩ proto y port = 5 then 0 else frC ⟨nm, rs, q, m, i⟩ proto y port) := rfl
  have FC : Hid (frC ⟨nm, rs, q, m, i⟩ proto y port = 0 ∨ frC ⟨nm, rs, q, m, i⟩ proto y port = 1 ∨ frC ⟨nm, rs, q, m, i⟩ proto y port = 4 ∨ frC ⟨nm, rs, q, m, i⟩ proto y port = 5) := fr_code _ _ _ _
  have FA : Hid (frC ⟨nm, rs, q, m, i⟩ proto y port = 0 → 0 ≤ frK ⟨nm, rs, q, m, i⟩ proto y port ∧ frK ⟨nm, rs, q, m, i⟩ proto y port < rs.length) := fun h => (fr_at h).2
  generalize raB ⟨nm, rs, q, m, i⟩ proto y port = zb at EB ⊢
  generalize raC ⟨nm, rs, q, m, i⟩ proto y port = zc at EC ⊢
  generalize frK ⟨nm, rs, q, m, i⟩ proto y port = v at EB EC FC FA HF
  generalize frC ⟨nm, rs, q, m, i⟩ proto y port = c at EB EC FC FA HF
  clear h
  by_cases h5 : c = 5
  · have eb : zb = false := by rw [EB.out, dec_n (by omega)]; rfl
    have ec : zc = 0 := by rw [EC.out, if_pos h5]
    subst eb ec h5
    clear EB EC FC FA
    go_enter Try.func8, Try.ntmps8
    go_wp2_with fail
    refine (HF.out _ (RW.out.keep RuR.kp ((Grw.refl w).alloc _).below)).mono ?_
    rintro e wx1 ⟨rfl, bx⟩
    have k0 : World.cell? _ ⟨w.heap.size, 0, none⟩ = some (.string nm) := bx.keep (a := ⟨w.heap.size, 0, none⟩) (v := .string nm) (by simp [go_sem])
    have k1 : World.cell? _ ⟨w.heap.size, 1, none⟩ = some (.slice a len cap) := bx.keep (a := ⟨w.heap.size, 1, none⟩) (v := .slice a len cap) (by simp [go_sem])
    have k2 : World.cell? _ ⟨w.heap.size, 2, none⟩ = some (.int .i64 q) := bx.keep (a := ⟨w.heap.size, 2, none⟩) (v := .int .i64 q) (by simp [go_sem])
    have k3 : World.cell? _ ⟨w.heap.size, 3, none⟩ = some (.int .i64 m) := bx.keep (a := ⟨w.heap.size, 3, none⟩) (v := .int .i64 m) (by simp [go_sem])
    have k4 : World.cell? _ ⟨w.heap.size, 4, none⟩ = some (.int .i64 i) := bx.keep (a := ⟨w.heap.size, 4, none⟩) (v := .int .i64 i) (by simp [go_sem])
    have BX : Hid (Grw w _) := ((Grw.refl _).alloc _).trans bx
    clear bx
    go_wp2
    go_ret2
    exact ⟨rfl, BX.out⟩
  by_cases h0 : c = 0
  rotate_left
  · have eb : zb = false := by rw [EB.out, dec_n h0]; rfl
    have ec : zc = c := by rw [EC.out, if_neg h5]
    subst eb ec
    have n5 : (zc == 5) = false := by simpa using h5
    have n0 : (zc != 0) = true := by simpa using h0
    clear EB EC FC FA h5 h0
    go_enter Try.func8, Try.ntmps8
    go_wp2_with fail
    refine (HF.out _ (RW.out.keep RuR.kp ((Grw.refl w).alloc _).below)).mono ?_
    rintro e wx1 ⟨rfl, bx⟩
    have k0 : World.cell? _ ⟨w.heap.size, 0, none⟩ = some (.string nm) := bx.keep (a := ⟨w.heap.size, 0, none⟩) (v := .string nm) (by simp [go_sem])
    have k1 : World.cell? _ ⟨w.heap.size, 1, none⟩ = some (.slice a len cap) := bx.keep (a := ⟨w.heap.size, 1, none⟩) (v := .slice a len cap) (by simp [go_sem])
    have k2 : World.cell? _ ⟨w.heap.size, 2, none⟩ = some (.int .i64 q) := bx.keep (a := ⟨w.heap.size, 2, none⟩) (v := .int .i64 q) (by simp [go_sem])
    have k3 : World.cell? _ ⟨w.heap.size, 3, none⟩ = some (.int .i64 m) := bx.keep (a := ⟨w.heap.size, 3, none⟩) (v := .int .i64 m) (by simp [go_sem])
    have k4 : World.cell? _ ⟨w.heap.size, 4, none⟩ = some (.int .i64 i) := bx.keep (a := ⟨w.heap.size, 4, none⟩) (v := .int .i64 i) (by simp [go_sem])
    have BX : Hid (Grw w _) := ((Grw.refl _).alloc _).trans bx
    clear bx
    go_wp2
    go_ret2
    exact ⟨rfl, BX.out⟩
  have hv := FA.out h0
  obtain ⟨k, rfl⟩ := Int.eq_ofNat_of_zero_le hv.1
  obtain ⟨x, hx⟩ := at_of (k := k) hl (by omega)
  have eb : zb = x.al := by rw [EB.out, dec_y h0]; unfold alAt; rw [Int.toNat_natCast, hx]; rfl
  have ec : zc = 0 := by rw [EC.out, if_neg h5, h0]
  have hkl : (k : Int) < (len : Int) := by omega
  subst eb ec h0
  clear EB EC FC FA h5
  go_enter Try.func8, Try.ntmps8
  go_wp2_with fail
  refine (HF.out _ (RW.out.keep RuR.kp ((Grw.refl w).alloc _).below)).mono ?_
  rintro e wx1 ⟨rfl, bx⟩
  have k0 : World.cell? _ ⟨w.heap.size, 0, none⟩ = some (.string nm) := bx.keep (a := ⟨w.heap.size, 0, none⟩) (v := .string nm) (by simp [go_sem])
  have k1 : World.cell? _ ⟨w.heap.size, 1, none⟩ = some (.slice a len cap) := bx.keep (a := ⟨w.heap.size, 1, none⟩) (v := .slice a len cap) (by simp [go_sem])
  have k2 : World.cell? _ ⟨w.heap.size, 2, none⟩ = some (.int .i64 q) := bx.keep (a := ⟨w.heap.size, 2, none⟩) (v := .int .i64 q) (by simp [go_sem])
  have k3 : World.cell? _ ⟨w.heap.size, 3, none⟩ = some (.int .i64 m) := bx.keep (a := ⟨w.heap.size, 3, none⟩) (v := .int .i64 m) (by simp [go_sem])
  have k4 : World.cell? _ ⟨w.heap.size, 4, none⟩ = some (.int .i64 i) := bx.keep (a := ⟨w.heap.size, 4, none⟩) (v := .int .i64 i) (by simp [go_sem])
  have BX : Hid (Grw w _) := ((Grw.refl _).alloc _).trans bx
  clear bx
  obtain ⟨b, off, vs, rfl, hb, hvl, hR, hc⟩ := RW.out.at RuR.kp BX.out.below hx
  obtain ⟨p, ip, bb, lo, hi, al⟩ := x
  obtain ⟨rfl, hlo, hhi⟩ := hR
  have q5 := hc 5 (.bool al) rfl
  go_wp2
  go_ret2
  exact ⟨rfl, BX.out⟩

set_option maxHeartbeats 2000000 in
theorem l07Allows_any (nm : ByteArray) (rs : List RuleV) (q m i : Int) (a : Option Addr) (len cap : Nat) (proto y port : Int) (w : World) (h : Rw RuR 6 w a rs) (hl : rs.length = len) (hl2 : len ≤ 8) (ho : rs.all ruB = true) :
    Calls Try.prog 19 #[.agg #[.string nm, .slice a len cap, .int .i64 q, .int .i64 m, .int .i64 i], .int .i64 proto, .int .i64 y, .int .i64 port] w fun e w' => e = .returned (.bool (dec (0 ≤ fv (fitB proto y port) rs) && alAt rs (fv (fitB proto y port) rs))) ∧ Grw w w' := by
  have HF : Hid (∀ w, Rw RuR 6 w a rs → Calls Try.prog 41 #[.agg #[.string nm, .slice a len cap, .int .i64 q, .int .i64 m, .int .i64 i], .int .i64 proto, .int .i64 y, .int .i64 port] w fun e w' => e = .returned (.int .i64 (fv (fitB proto y port) rs)) ∧ Grw w w') := fun w h => l07First_any nm rs q m i a len cap proto y port w h hl hl2 ho
  have RW : Hid (Rw RuR 6 w a rs) := h
  have FB := fv_bd (fitB proto y port) rs
  generalize fv (fitB proto y port) rs = v at FB HF ⊢
  clear h ho
  by_cases hv : 0 ≤ v
  rotate_left
  · rw [dec_n hv, Bool.false_and]
    have hd : decide (0 ≤ v) = false := decide_eq_false hv
    go_enter Try.func19, Try.ntmps19
    go_wp2_with fail
    refine (HF.out _ (RW.out.keep RuR.kp ((Grw.refl w).alloc _).below)).mono ?_
    rintro e wx1 ⟨rfl, bx⟩
    have k0 : World.cell? _ ⟨w.heap.size, 0, none⟩ = some (.string nm) := bx.keep (a := ⟨w.heap.size, 0, none⟩) (v := .string nm) (by simp [go_sem])
    have k1 : World.cell? _ ⟨w.heap.size, 1, none⟩ = some (.slice a len cap) := bx.keep (a := ⟨w.heap.size, 1, none⟩) (v := .slice a len cap) (by simp [go_sem])
    have k2 : World.cell? _ ⟨w.heap.size, 2, none⟩ = some (.int .i64 q) := bx.keep (a := ⟨w.heap.size, 2, none⟩) (v := .int .i64 q) (by simp [go_sem])
    have k3 : World.cell? _ ⟨w.heap.size, 3, none⟩ = some (.int .i64 m) := bx.keep (a := ⟨w.heap.size, 3, none⟩) (v := .int .i64 m) (by simp [go_sem])
    have k4 : World.cell? _ ⟨w.heap.size, 4, none⟩ = some (.int .i64 i) := bx.keep (a := ⟨w.heap.size, 4, none⟩) (v := .int .i64 i) (by simp [go_sem])
    have BX : Hid (Grw w _) := ((Grw.refl _).alloc _).trans bx
    clear bx
    go_wp2
    go_ret
    exact ⟨rfl, BX.out⟩
  rw [dec_y hv, Bool.true_and]
  obtain ⟨k, rfl⟩ := Int.eq_ofNat_of_zero_le hv
  obtain ⟨x, hx⟩ := at_of (k := k) hl (by omega)
  have e : alAt rs (k : Int) = x.al := by unfold alAt; rw [Int.toNat_natCast, hx]
  rw [e]
  have hkl : (k : Int) < (len : Int) := by omega
  have hd : decide (0 ≤ (k : Int)) = true := decide_eq_true hv
  clear e
  go_enter Try.func19, Try.ntmps19
  go_wp2_with fail
  refine (HF.out _ (RW.out.keep RuR.kp ((Grw.refl w).alloc _).below)).mono ?_
  rintro e wx1 ⟨rfl, bx⟩
  have k0 : World.cell? _ ⟨w.heap.size, 0, none⟩ = some (.string nm) := bx.keep (a := ⟨w.heap.size, 0, none⟩) (v := .string nm) (by simp [go_sem])
  have k1 : World.cell? _ ⟨w.heap.size, 1, none⟩ = some (.slice a len cap) := bx.keep (a := ⟨w.heap.size, 1, none⟩) (v := .slice a len cap) (by simp [go_sem])
  have k2 : World.cell? _ ⟨w.heap.size, 2, none⟩ = some (.int .i64 q) := bx.keep (a := ⟨w.heap.size, 2, none⟩) (v := .int .i64 q) (by simp [go_sem])
  have k3 : World.cell? _ ⟨w.heap.size, 3, none⟩ = some (.int .i64 m) := bx.keep (a := ⟨w.heap.size, 3, none⟩) (v := .int .i64 m) (by simp [go_sem])
  have k4 : World.cell? _ ⟨w.heap.size, 4, none⟩ = some (.int .i64 i) := bx.keep (a := ⟨w.heap.size, 4, none⟩) (v := .int .i64 i) (by simp [go_sem])
  have BX : Hid (Grw w _) := ((Grw.refl _).alloc _).trans bx
  clear bx
  obtain ⟨b, off, vs, rfl, hb, hvl, hR, hc⟩ := RW.out.at RuR.kp BX.out.below hx
  obtain ⟨p, ip, bb, lo, hi, al⟩ := x
  obtain ⟨rfl, hlo, hhi⟩ := hR
  have q5 := hc 5 (.bool al) rfl
  go_wp2
  go_ret
  exact ⟨rfl, BX.out⟩

theorem ra_bad {r : RoleV} {proto x port : Int} (h : roB r = false) : raB r proto x port = false ∧ raC r proto x port = 1 := by
  have e := (frC_bad (proto := proto) (x := x) (port := port) h).1
  exact ⟨by unfold raB; rw [e, dec_n (by omega)]; rfl, by unfold raC; rw [e]; rfl⟩
theorem ra_range {r : RoleV} {proto x port : Int} (h : roB r = true) (h2 : (dec (0 ≤ proto ∧ proto ≤ 255) && (dec (0 ≤ x ∧ x ≤ 4294967295) && dec (0 ≤ port ∧ port ≤ 65535))) = false) : raB r proto x port = false ∧ raC r proto x port = 4 := by
  have e := (frC_range h h2).1
  exact ⟨by unfold raB; rw [e, dec_n (by omega)]; rfl, by unfold raC; rw [e]; rfl⟩
theorem ra_yes {r : RoleV} {proto x port : Int} (h : roB r = true) (h2 : (dec (0 ≤ proto ∧ proto ≤ 255) && (dec (0 ≤ x ∧ x ≤ 4294967295) && dec (0 ≤ port ∧ port ≤ 65535))) = true) : raB r proto x port = (dec (0 ≤ fv (fitB proto x port) r.rs) && alAt r.rs (fv (fitB proto x port) r.rs)) ∧ raC r proto x port = 0 := by
  by_cases h3 : fv (fitB proto x port) r.rs < 0
  · have e := (frC_none h h2 h3).1
    exact ⟨by unfold raB; rw [e, dec_n (by omega), dec_n (by omega)]; rfl, by unfold raC; rw [e]; rfl⟩
  · have e := frC_yes h h2 h3
    exact ⟨by unfold raB; rw [e.1, e.2, dec_y rfl, dec_y (by omega)], by unfold raC; rw [e.1]; rfl⟩
set_option maxHeartbeats 2000000 in
theorem specAllows_any (nm : ByteArray) (rs : List RuleV) (q m i : Int) (a : Option Addr) (len cap : Nat) (proto y port : Int) (w : World) (hs : nm.size ≤ 1048576) (h : Rw RuR 6 w a rs) (hl : rs.length = len) (hl2 : len ≤ 1048576) :
    Calls Try.prog 6 #[.agg #[.string nm, .slice a len cap, .int .i64 q, .int .i64 m, .int .i64 i], .int .i64 proto, .int .i64 y, .int .i64 port] w fun e w' => e = .returned (.tuple #[.bool (raB ⟨nm, rs, q, m, i⟩ proto y port), .int .i64 (raC ⟨nm, rs, q, m, i⟩ proto y port)]) ∧ Grw w w' := by
  obtain ⟨z, hz⟩ : ∃ z, z = roB ⟨nm, rs, q, m, i⟩ := ⟨_, rfl⟩
  obtain ⟨p1, hp1⟩ : ∃ z, z = dec (0 ≤ proto ∧ proto ≤ 255) := ⟨_, rfl⟩
  obtain ⟨p2, hp2⟩ : ∃ z, z = (dec (0 ≤ y ∧ y ≤ 4294967295) && dec (0 ≤ port ∧ port ≤ 65535)) := ⟨_, rfl⟩
  have EB : Hid (z = false → raB ⟨nm, rs, q, m, i⟩ proto y port = false ∧ raC ⟨nm, rs, q, m, i⟩ proto y port = 1) := fun h => ra_bad (hz ▸ h)
  have ER : Hid (z = true → (p1 && p2) = false → raB ⟨nm, rs, q, m, i⟩ proto y port = false ∧ raC ⟨nm, rs, q, m, i⟩ proto y port = 4) := fun h h2 => ra_range (hz ▸ h) (by rw [← hp1, ← hp2]; exact h2)
  have EY : Hid (z = true → (p1 && p2) = true → raB ⟨nm, rs, q, m, i⟩ proto y port = (dec (0 ≤ fv (fitB proto y port) rs) && alAt rs (fv (fitB proto y port) rs)) ∧ raC ⟨nm, rs, q, m, i⟩ proto y port = 0) := fun h h2 => ra_yes (hz ▸ h) (by rw [← hp1, ← hp2]; exact h2)
  have HY : Hid (z = true → rs.all ruB = true ∧ rs.length ≤ 8) := fun h => ro_yes (hz ▸ h)
  have RW : Hid (Rw RuR 6 w a rs) := h
  generalize raB ⟨nm, rs, q, m, i⟩ proto y port = zb at EB ER EY ⊢
  generalize raC ⟨nm, rs, q, m, i⟩ proto y port = zc at EB ER EY ⊢
  have HO : Hid (∀ w, Rw RuR 6 w a rs → Calls Try.prog 16 #[.agg #[.string nm, .slice a len cap, .int .i64 q, .int .i64 m, .int .i64 i]] w fun e w' => e = .returned (.bool z) ∧ Grw w w') := fun w h => hz ▸ specRoleOK_any nm rs q m i a len cap w hs h hl hl2
  have H1 : Hid (∀ w, Calls Try.prog 17 #[.int .i64 proto, .int .i64 0, .int .i64 255] w fun e w' => e = .returned (.bool p1) ∧ w' = w) := fun w => hp1 ▸ specIn_any proto 0 255 w
  have H2 : Hid (∀ w, Calls Try.prog 18 #[.int .i64 y, .int .i64 port] w fun e w' => e = .returned (.bool p2) ∧ w' = w) := fun w => hp2 ▸ l07Ask_any y port w
  clear hz hp1 hp2 h
  cases z with
  | false =>
    have E := EB.out rfl
    go_enter Try.func6, Try.ntmps6
    go_wp2_with fail
    refine (HO.out _ (RW.out.keep RuR.kp ((Grw.refl w).alloc _).below)).mono ?_
    rintro e wx1 ⟨rfl, bx⟩
    have k0 : World.cell? _ ⟨w.heap.size, 0, none⟩ = some (.string nm) := bx.keep (a := ⟨w.heap.size, 0, none⟩) (v := .string nm) (by simp [go_sem])
    have k1 : World.cell? _ ⟨w.heap.size, 1, none⟩ = some (.slice a len cap) := bx.keep (a := ⟨w.heap.size, 1, none⟩) (v := .slice a len cap) (by simp [go_sem])
    have k2 : World.cell? _ ⟨w.heap.size, 2, none⟩ = some (.int .i64 q) := bx.keep (a := ⟨w.heap.size, 2, none⟩) (v := .int .i64 q) (by simp [go_sem])
    have k3 : World.cell? _ ⟨w.heap.size, 3, none⟩ = some (.int .i64 m) := bx.keep (a := ⟨w.heap.size, 3, none⟩) (v := .int .i64 m) (by simp [go_sem])
    have k4 : World.cell? _ ⟨w.heap.size, 4, none⟩ = some (.int .i64 i) := bx.keep (a := ⟨w.heap.size, 4, none⟩) (v := .int .i64 i) (by simp [go_sem])
    have BX : Hid (Grw w _) := ((Grw.refl _).alloc _).trans bx
    clear bx
    go_wp2
    go_ret2
    exact ⟨by rw [E.1, E.2] <;> rfl, BX.out⟩
  | true =>
    cases p1 with
    | false =>
      have E := ER.out rfl rfl
      go_enter Try.func6, Try.ntmps6
      go_wp2_with fail
      refine (HO.out _ (RW.out.keep RuR.kp ((Grw.refl w).alloc _).below)).mono ?_
      rintro e wx1 ⟨rfl, bx⟩
      have k0 : World.cell? _ ⟨w.heap.size, 0, none⟩ = some (.string nm) := bx.keep (a := ⟨w.heap.size, 0, none⟩) (v := .string nm) (by simp [go_sem])
      have k1 : World.cell? _ ⟨w.heap.size, 1, none⟩ = some (.slice a len cap) := bx.keep (a := ⟨w.heap.size, 1, none⟩) (v := .slice a len cap) (by simp [go_sem])
      have k2 : World.cell? _ ⟨w.heap.size, 2, none⟩ = some (.int .i64 q) := bx.keep (a := ⟨w.heap.size, 2, none⟩) (v := .int .i64 q) (by simp [go_sem])
      have k3 : World.cell? _ ⟨w.heap.size, 3, none⟩ = some (.int .i64 m) := bx.keep (a := ⟨w.heap.size, 3, none⟩) (v := .int .i64 m) (by simp [go_sem])
      have k4 : World.cell? _ ⟨w.heap.size, 4, none⟩ = some (.int .i64 i) := bx.keep (a := ⟨w.heap.size, 4, none⟩) (v := .int .i64 i) (by simp [go_sem])
      have BX : Hid (Grw w _) := ((Grw.refl _).alloc _).trans bx
      clear bx
      go_wp2_with fail
      refine (H1.out _).mono ?_
      rintro e wx2 ⟨rfl, rfl⟩
      go_wp2
      go_ret2
      exact ⟨by rw [E.1, E.2] <;> rfl, BX.out⟩
    | true =>
      cases p2 with
      | false =>
        have E := ER.out rfl rfl
        go_enter Try.func6, Try.ntmps6
        go_wp2_with fail
        refine (HO.out _ (RW.out.keep RuR.kp ((Grw.refl w).alloc _).below)).mono ?_
        rintro e wx1 ⟨rfl, bx⟩
        have k0 : World.cell? _ ⟨w.heap.size, 0, none⟩ = some (.string nm) := bx.keep (a := ⟨w.heap.size, 0, none⟩) (v := .string nm) (by simp [go_sem])
        have k1 : World.cell? _ ⟨w.heap.size, 1, none⟩ = some (.slice a len cap) := bx.keep (a := ⟨w.heap.size, 1, none⟩) (v := .slice a len cap) (by simp [go_sem])
        have k2 : World.cell? _ ⟨w.heap.size, 2, none⟩ = some (.int .i64 q) := bx.keep (a := ⟨w.heap.size, 2, none⟩) (v := .int .i64 q) (by simp [go_sem])
        have k3 : World.cell? _ ⟨w.heap.size, 3, none⟩ = some (.int .i64 m) := bx.keep (a := ⟨w.heap.size, 3, none⟩) (v := .int .i64 m) (by simp [go_sem])
        have k4 : World.cell? _ ⟨w.heap.size, 4, none⟩ = some (.int .i64 i) := bx.keep (a := ⟨w.heap.size, 4, none⟩) (v := .int .i64 i) (by simp [go_sem])
        have BX : Hid (Grw w _) := ((Grw.refl _).alloc _).trans bx
        clear bx
        go_wp2_with fail
        refine (H1.out _).mono ?_
        rintro e wx2 ⟨rfl, rfl⟩
        go_wp2_with fail
        refine (H2.out _).mono ?_
        rintro e wx3 ⟨rfl, rfl⟩
        go_wp2
        go_ret2
        exact ⟨by rw [E.1, E.2] <;> rfl, BX.out⟩
      | true =>
        have E := EY.out rfl rfl
        have HF : Hid (∀ w, Rw RuR 6 w a rs → Calls Try.prog 19 #[.agg #[.string nm, .slice a len cap, .int .i64 q, .int .i64 m, .int .i64 i], .int .i64 proto, .int .i64 y, .int .i64 port] w fun e w' => e = .returned (.bool (dec (0 ≤ fv (fitB proto y port) rs) && alAt rs (fv (fitB proto y port) rs))) ∧ Grw w w') := fun w h => l07Allows_any nm rs q m i a len cap proto y port w h hl (by have := (HY.out rfl).2; omega) (HY.out rfl).1
        generalize (dec (0 ≤ fv (fitB proto y port) rs) && alAt rs (fv (fitB proto y port) rs)) = u at E HF
        clear EB ER EY HY
        go_enter Try.func6, Try.ntmps6
        go_wp2_with fail
        refine (HO.out _ (RW.out.keep RuR.kp ((Grw.refl w).alloc _).below)).mono ?_
        rintro e wx1 ⟨rfl, bx⟩
        have k0 : World.cell? _ ⟨w.heap.size, 0, none⟩ = some (.string nm) := bx.keep (a := ⟨w.heap.size, 0, none⟩) (v := .string nm) (by simp [go_sem])
        have k1 : World.cell? _ ⟨w.heap.size, 1, none⟩ = some (.slice a len cap) := bx.keep (a := ⟨w.heap.size, 1, none⟩) (v := .slice a len cap) (by simp [go_sem])
        have k2 : World.cell? _ ⟨w.heap.size, 2, none⟩ = some (.int .i64 q) := bx.keep (a := ⟨w.heap.size, 2, none⟩) (v := .int .i64 q) (by simp [go_sem])
        have k3 : World.cell? _ ⟨w.heap.size, 3, none⟩ = some (.int .i64 m) := bx.keep (a := ⟨w.heap.size, 3, none⟩) (v := .int .i64 m) (by simp [go_sem])
        have k4 : World.cell? _ ⟨w.heap.size, 4, none⟩ = some (.int .i64 i) := bx.keep (a := ⟨w.heap.size, 4, none⟩) (v := .int .i64 i) (by simp [go_sem])
        have BX : Hid (Grw w _) := ((Grw.refl _).alloc _).trans bx
        clear bx
        go_wp2_with fail
        refine (H1.out _).mono ?_
        rintro e wx2 ⟨rfl, rfl⟩
        go_wp2_with fail
        refine (H2.out _).mono ?_
        rintro e wx3 ⟨rfl, rfl⟩
        go_wp2_with fail
        refine (HF.out _ (RW.out.keep RuR.kp BX.out.below)).mono ?_
        rintro e wx4 ⟨rfl, bx⟩
        replace k0 := bx.keep k0
        replace k1 := bx.keep k1
        replace k2 := bx.keep k2
        replace k3 := bx.keep k3
        replace k4 := bx.keep k4
        replace BX : Hid (Grw w _) := BX.out.trans bx
        clear bx
        go_wp2
        go_ret2
        exact ⟨by rw [E.1, E.2] <;> rfl, BX.out⟩

end Go.Proofs.Ytcgdpijmfgkalac
