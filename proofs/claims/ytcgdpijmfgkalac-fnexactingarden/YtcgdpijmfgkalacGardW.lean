/- InGarden, the program's and the model's. -/
import Derived.Test.YtcgdpijmfgkalacConfW
namespace Go.Proofs.Ytcgdpijmfgkalac
open Go.RowKit Go.PlainAid Go.Proofs.Ytcgdpijmfgkalac.Bt Go.Sort
set_option linter.unusedVariables false
set_option maxRecDepth 20000

def phv (q port : Int) (p : PlaceV) : Bool := phB p.ip p.b p.lo p.hi q port
noncomputable def igC (ip b gt : Int) (gm wm : ByteArray) (rs : Int) (ps : List PlaceV) (ros : List RoleV) (q port : Int) : Int := if confB ip b gt gm wm rs ps ros = false then 1 else if (dec (0 ≤ q ∧ q ≤ 4294967295) && dec (0 ≤ port ∧ port ≤ 65535)) = false then 4 else 0
noncomputable def igB (ip b gt : Int) (gm wm : ByteArray) (rs : Int) (ps : List PlaceV) (ros : List RoleV) (q port : Int) : Bool := dec (igC ip b gt gm wm rs ps ros q port = 0) && ps.any (phv q port)
theorem any_hit {α : Type} {f : α → Bool} {xs : List α} {k : Nat} {x : α} (hx : xs[k]? = some x) (hf : f x = true) : xs.any f = true := by
  rw [List.any_eq_true]
  exact ⟨x, List.mem_of_getElem? hx, hf⟩
theorem any_none {α : Type} {f : α → Bool} {xs : List α} (h : xs.all (fun x => !f x) = true) : xs.any f = false := by
  rw [List.any_eq_false]
  intro x hx
  rw [List.all_eq_true] at h
  simpa using h x hx
theorem conf_places {ip b gt : Int} {gm wm : ByteArray} {rs : Int} {ps : List PlaceV} {ros : List RoleV} (h : confB ip b gt gm wm rs ps ros = true) : ps.all plv = true ∧ ps.length ≤ 8 := by
  unfold confB at h
  simp only [Bool.and_eq_true] at h
  exact ⟨h.2.2.2.2.2.2.2.2.2.1, of_decide_eq_true h.2.2.2.2.2.2.2.1⟩
theorem pl_yes {p : PlaceV} (h : plv p = true) : 0 ≤ p.b ∧ p.b ≤ 32 ∧ nB p.ip p.b = true := by
  unfold plv plB at h
  simp at h
  have := nB_yes h.1
  exact ⟨this.2.2.1, this.2.2.2.1, h.1⟩

set_option maxHeartbeats 4000000 in
theorem l07Garden_any (ip b gt : Int) (gm wm : ByteArray) (rs : Int) (x y : Option Addr) (lenx capx leny capy : Nat) (ps : List PlaceV) (ros : List RoleV) (q port : Int) (w : World) (h : Rw PlR 4 w x ps) (hl : ps.length = lenx) (hl8 : lenx ≤ 8) (ho : ps.all plv = true) :
    Calls Try.prog 26 #[.agg #[.int .i64 ip, .int .i64 b, .int .i64 gt, .string gm, .string wm, .int .i64 rs, .slice x lenx capx, .slice y leny capy], .int .i64 q, .int .i64 port] w fun e w' => e = .returned (.bool (ps.any (phv q port))) ∧ Grw w w' := by
  have RX : Hid (Rw PlR 4 w x ps) := h
  have HO : Hid (ps.all plv = true) := ho
  clear h ho
  go_enter Try.func26, Try.ntmps26
  go_wp2
  go_loopw [7] (fun u wr => ∃ k : Nat, k ≤ lenx ∧ u = .int .i64 k ∧ Hid ((ps.take k).all (fun p => !phv q port p) = true) ∧ Hid (Grw (w.alloc (.cells #[.int .i64 ip, .int .i64 b, .int .i64 gt, .string gm, .string wm, .int .i64 rs, .slice x lenx capx, .slice y leny capy] 46)) wr)) (fun u _ => lenx - (intOf u).toNat)
  case atStart => exact ⟨0, Nat.zero_le _, rfl, rfl, Grw.refl _⟩
  case round =>
    obtain ⟨k, hk, rfl, HA, HG⟩ := hrel
    have b6 : wr.cell? ⟨w.heap.size, 6, none⟩ = some (.slice x lenx capx) := HG.out.keep (by simp)
    by_cases hlt : k < lenx
    · obtain ⟨e, hx⟩ := at_of hl hlt
      obtain ⟨bk, off, vs, rfl, hb, hvl, hR, hc⟩ := RX.out.at PlR.kp (((Grw.refl w).alloc _).trans HG.out).below hx
      have hpl := pl_yes (all_at HO.out hx)
      obtain ⟨pip, pb, lo, hi⟩ := e
      obtain ⟨rfl, hlo, hhi⟩ := hR
      have q0 : wr.cell? ⟨bk, off + k * 4, none⟩ = some (.int .i64 pip) := hc 0 _ rfl
      have q1 : wr.cell? ⟨bk, off + k * 4 + 1, none⟩ = some (.int .i64 pb) := hc 1 _ rfl
      have q2 : wr.cell? ⟨bk, off + k * 4 + 2, none⟩ = some (.int .i64 lo) := hc 2 _ rfl
      have q3 : wr.cell? ⟨bk, off + k * 4 + 3, none⟩ = some (.int .i64 hi) := hc 3 _ rfl
      have HN : Hid (∀ w, Calls Try.prog 48 #[.agg #[.int .i64 pip, .int .i64 pb], .int .i64 q] w fun e w' => e = .returned (.bool (hB pip pb q)) ∧ Grw w w') := fun w => l05Has_any pip pb q w hpl.1 hpl.2.1
      have HI : Hid (∀ w, Calls Try.prog 17 #[.int .i64 port, .int .i64 lo, .int .i64 hi] w fun e w' => e = .returned (.bool (dec (lo ≤ port ∧ port ≤ hi))) ∧ Grw w w') := fun w => (specIn_any port lo hi w).mono fun e w' h => ⟨h.1, h.2 ▸ Grw.refl _⟩
      have HS : Hid ((hB pip pb q && dec (lo ≤ port ∧ port ≤ hi)) = false → (ps.take (k + 1)).all (fun p => !phv q port p) = true) := fun h => all_step2 hx HA.out (by show (!(hB pip pb q && dec (lo ≤ port ∧ port ≤ hi))) = true; rw [h]; rfl)
      have HF : Hid ((hB pip pb q && dec (lo ≤ port ∧ port ≤ hi)) = true → ps.any (phv q port) = true) := fun h => any_hit hx h
      generalize hB pip pb q = r1 at HN HS HF
      generalize dec (lo ≤ port ∧ port ≤ hi) = r2 at HI HS HF
      have hltz : (k : Int) < (lenx : Int) := by omega
      clear hc hvl hx hpl
      have y0 : ∀ n os, (grow (wr.drewN n) os).cell? ⟨bk, off + k * 4, none⟩ = some (.int .i64 pip) := fun n os => Grw.keep ⟨n, os, rfl⟩ q0
      have y1 : ∀ n os, (grow (wr.drewN n) os).cell? ⟨bk, off + k * 4 + 1, none⟩ = some (.int .i64 pb) := fun n os => Grw.keep ⟨n, os, rfl⟩ q1
      have y2 : ∀ n os, (grow (wr.drewN n) os).cell? ⟨bk, off + k * 4 + 2, none⟩ = some (.int .i64 lo) := fun n os => Grw.keep ⟨n, os, rfl⟩ q2
      have y3 : ∀ n os, (grow (wr.drewN n) os).cell? ⟨bk, off + k * 4 + 3, none⟩ = some (.int .i64 hi) := fun n os => Grw.keep ⟨n, os, rfl⟩ q3
      have y6 : ∀ n os, (grow (wr.drewN n) os).cell? ⟨w.heap.size, 6, none⟩ = some (.slice (some ⟨bk, off, none⟩) lenx capx) := fun n os => Grw.keep ⟨n, os, rfl⟩ b6
      have hmix : Try.prog.follows .mixedOrders = true := by kernel_rfl
      clear q0 q1 q2 q3
      cases r1 with
      | false =>
        have HS' : Hid ((ps.take (k + 1)).all (fun p => !phv q port p) = true) := HS.out rfl
        clear HS HF
        go_wp2_with fail
        refine wp_region_quiet_grown (by assumption) (by kernel_rfl) ?_
        repeat (go_big_quiet_step (first | fail | (first | (go_at_call 48; exact Calls.grown_of (HN.out _)) | (go_at_call 17; exact Calls.grown_of (HI.out _)))))
        refine wpQuiet_nil ?_
        intro _ hw'
        obtain ⟨⟨nq, osq⟩, hw''⟩ := hw'
        subst hw''
        have HG1 : Hid (Grw _ _) := HG.out.trans ⟨nq, osq, rfl⟩
        clear y0 y1 y2 y3 y6 HG HN HI b6
        go_wp2
        go_roundw
        case rel => exact ⟨k + 1, by omega, by go_num, HS', HG1⟩
        case measure => simp [intOf]; omega
      | true =>
        cases r2 with
        | false =>
          have HS' : Hid ((ps.take (k + 1)).all (fun p => !phv q port p) = true) := HS.out rfl
          clear HS HF
          go_wp2_with fail
          refine wp_region_quiet_grown (by assumption) (by kernel_rfl) ?_
          repeat (go_big_quiet_step (first | fail | (first | (go_at_call 48; exact Calls.grown_of (HN.out _)) | (go_at_call 17; exact Calls.grown_of (HI.out _)))))
          refine wpQuiet_nil ?_
          intro _ hw'
          obtain ⟨⟨nq, osq⟩, hw''⟩ := hw'
          subst hw''
          have HG1 : Hid (Grw _ _) := HG.out.trans ⟨nq, osq, rfl⟩
          clear y0 y1 y2 y3 y6 HG HN HI b6
          go_wp2
          go_roundw
          case rel => exact ⟨k + 1, by omega, by go_num, HS', HG1⟩
          case measure => simp [intOf]; omega
        | true =>
          have hd : Hid (ps.any (phv q port) = true) := HF.out rfl
          go_wp2_with fail
          refine wp_region_quiet_grown (by assumption) (by kernel_rfl) ?_
          repeat (go_big_quiet_step (first | fail | (first | (go_at_call 48; exact Calls.grown_of (HN.out _)) | (go_at_call 17; exact Calls.grown_of (HI.out _)))))
          refine wpQuiet_nil ?_
          intro _ hw'
          obtain ⟨⟨nq, osq⟩, hw''⟩ := hw'
          subst hw''
          have HG1 : Hid (Grw _ _) := HG.out.trans ⟨nq, osq, rfl⟩
          clear y0 y1 y2 y3 y6 HG HN HI b6
          go_wp2
          go_ret
          exact ⟨by rw [hd.out]; rfl, ((Grw.refl _).alloc _).trans HG1.out⟩
    · obtain rfl : k = lenx := by omega
      have hd : Hid (ps.any (phv q port) = false) := any_none (all_end hl HA.out)
      go_wp2
      go_ret
      exact ⟨by rw [hd.out]; rfl, ((Grw.refl _).alloc _).trans HG.out⟩

set_option maxHeartbeats 4000000 in
theorem specGarden_any (ip b gt : Int) (gm wm : ByteArray) (rs : Int) (x y : Option Addr) (lenx capx leny capy : Nat) (ps : List PlaceV) (ros : List RoleV) (q port : Int) (w : World) (h : Rw PlR 4 w x ps) (hl : ps.length = lenx) (h2 : Rw (RoR 0) 5 w y ros) (hl2 : ros.length = leny) (hsz : SzR ros) :
    Calls Try.prog 11 #[.agg #[.int .i64 ip, .int .i64 b, .int .i64 gt, .string gm, .string wm, .int .i64 rs, .slice x lenx capx, .slice y leny capy], .int .i64 q, .int .i64 port] w fun e w' => e = .returned (.tuple #[.bool (igB ip b gt gm wm rs ps ros q port), .int .i64 (igC ip b gt gm wm rs ps ros q port)]) ∧ Grw w w' := by
  obtain ⟨z, hz⟩ : ∃ z, z = confB ip b gt gm wm rs ps ros := ⟨_, rfl⟩
  obtain ⟨p2, hp2⟩ : ∃ z, z = dec (0 ≤ q ∧ q ≤ 4294967295) := ⟨_, rfl⟩
  obtain ⟨p3, hp3⟩ : ∃ z, z = dec (0 ≤ port ∧ port ≤ 65535) := ⟨_, rfl⟩
  have EC : Hid (igC ip b gt gm wm rs ps ros q port = if z = false then 1 else if (p2 && p3) = false then 4 else 0) := by rw [hz, hp2, hp3]; rfl
  have EB : Hid (igB ip b gt gm wm rs ps ros q port = (dec (igC ip b gt gm wm rs ps ros q port = 0) && ps.any (phv q port))) := rfl
  have HY : Hid (z = true → ps.all plv = true ∧ ps.length ≤ 8) := fun h => conf_places (hz ▸ h)
  have HQ : Hid (p2 = true → 0 ≤ q ∧ q ≤ 4294967295) := fun h => by rw [hp2] at h; exact of_decide_eq_true h
  have RX : Hid (Rw PlR 4 w x ps) := h
  have RY : Hid (Rw (RoR 0) 5 w y ros) := h2
  have HO : Hid (∀ w, Rw PlR 4 w x ps → Rw (RoR 0) 5 w y ros → Calls Try.prog 25 #[.agg #[.int .i64 ip, .int .i64 b, .int .i64 gt, .string gm, .string wm, .int .i64 rs, .slice x lenx capx, .slice y leny capy]] w fun e w' => e = .returned (.bool z) ∧ Grw w w') := fun w h h2 => hz ▸ specConfig_any ip b gt gm wm rs x y lenx capx leny capy ps ros w h hl h2 hl2 hsz
  have H2 : Hid (∀ w, Calls Try.prog 18 #[.int .i64 q, .int .i64 port] w fun e w' => e = .returned (.bool (p2 && p3)) ∧ w' = w) := fun w => hp2 ▸ hp3 ▸ l07Ask_any q port w
  generalize igB ip b gt gm wm rs ps ros q port = zb at EB ⊢
  generalize igC ip b gt gm wm rs ps ros q port = zc at EB EC ⊢
  clear h h2 hz hp2 hp3 hsz
  generalize (p2 && p3) = p23 at EC H2
  cases z with
  | false =>
    have ec : zc = 1 := EC.out
    have eb : zb = false := by rw [EB.out, ec, dec_n (by omega)]; rfl
    subst eb ec
    clear EB EC
    go_enter Try.func11, Try.ntmps11
    go_wp2_with fail
    refine (HO.out _ (RX.out.keep PlR.kp ((Grw.refl w).alloc _).below) (RY.out.keep (RoR.kp 0) ((Grw.refl w).alloc _).below)).mono ?_
    rintro e wx1 ⟨rfl, bx⟩
    have k0 : World.cell? _ ⟨w.heap.size, 0, none⟩ = some (.int .i64 ip) := bx.keep (a := ⟨w.heap.size, 0, none⟩) (v := .int .i64 ip) (by simp [go_sem])
    have k1 : World.cell? _ ⟨w.heap.size, 1, none⟩ = some (.int .i64 b) := bx.keep (a := ⟨w.heap.size, 1, none⟩) (v := .int .i64 b) (by simp [go_sem])
    have k2 : World.cell? _ ⟨w.heap.size, 2, none⟩ = some (.int .i64 gt) := bx.keep (a := ⟨w.heap.size, 2, none⟩) (v := .int .i64 gt) (by simp [go_sem])
    have k3 : World.cell? _ ⟨w.heap.size, 3, none⟩ = some (.string gm) := bx.keep (a := ⟨w.heap.size, 3, none⟩) (v := .string gm) (by simp [go_sem])
    have k4 : World.cell? _ ⟨w.heap.size, 4, none⟩ = some (.string wm) := bx.keep (a := ⟨w.heap.size, 4, none⟩) (v := .string wm) (by simp [go_sem])
    have k5 : World.cell? _ ⟨w.heap.size, 5, none⟩ = some (.int .i64 rs) := bx.keep (a := ⟨w.heap.size, 5, none⟩) (v := .int .i64 rs) (by simp [go_sem])
    have k6 : World.cell? _ ⟨w.heap.size, 6, none⟩ = some (.slice x lenx capx) := bx.keep (a := ⟨w.heap.size, 6, none⟩) (v := .slice x lenx capx) (by simp [go_sem])
    have k7 : World.cell? _ ⟨w.heap.size, 7, none⟩ = some (.slice y leny capy) := bx.keep (a := ⟨w.heap.size, 7, none⟩) (v := .slice y leny capy) (by simp [go_sem])
    have BX : Hid (Grw w _) := ((Grw.refl _).alloc _).trans bx
    clear bx
    go_wp2
    go_ret2
    exact ⟨rfl, BX.out⟩
  | true =>
    cases p23 with
    | false =>
      have ec : zc = 4 := EC.out
      have eb : zb = false := by rw [EB.out, ec, dec_n (by omega)]; rfl
      subst eb ec
      clear EB EC
      go_enter Try.func11, Try.ntmps11
      go_wp2_with fail
      refine (HO.out _ (RX.out.keep PlR.kp ((Grw.refl w).alloc _).below) (RY.out.keep (RoR.kp 0) ((Grw.refl w).alloc _).below)).mono ?_
      rintro e wx1 ⟨rfl, bx⟩
      have k0 : World.cell? _ ⟨w.heap.size, 0, none⟩ = some (.int .i64 ip) := bx.keep (a := ⟨w.heap.size, 0, none⟩) (v := .int .i64 ip) (by simp [go_sem])
      have k1 : World.cell? _ ⟨w.heap.size, 1, none⟩ = some (.int .i64 b) := bx.keep (a := ⟨w.heap.size, 1, none⟩) (v := .int .i64 b) (by simp [go_sem])
      have k2 : World.cell? _ ⟨w.heap.size, 2, none⟩ = some (.int .i64 gt) := bx.keep (a := ⟨w.heap.size, 2, none⟩) (v := .int .i64 gt) (by simp [go_sem])
      have k3 : World.cell? _ ⟨w.heap.size, 3, none⟩ = some (.string gm) := bx.keep (a := ⟨w.heap.size, 3, none⟩) (v := .string gm) (by simp [go_sem])
      have k4 : World.cell? _ ⟨w.heap.size, 4, none⟩ = some (.string wm) := bx.keep (a := ⟨w.heap.size, 4, none⟩) (v := .string wm) (by simp [go_sem])
      have k5 : World.cell? _ ⟨w.heap.size, 5, none⟩ = some (.int .i64 rs) := bx.keep (a := ⟨w.heap.size, 5, none⟩) (v := .int .i64 rs) (by simp [go_sem])
      have k6 : World.cell? _ ⟨w.heap.size, 6, none⟩ = some (.slice x lenx capx) := bx.keep (a := ⟨w.heap.size, 6, none⟩) (v := .slice x lenx capx) (by simp [go_sem])
      have k7 : World.cell? _ ⟨w.heap.size, 7, none⟩ = some (.slice y leny capy) := bx.keep (a := ⟨w.heap.size, 7, none⟩) (v := .slice y leny capy) (by simp [go_sem])
      have BX : Hid (Grw w _) := ((Grw.refl _).alloc _).trans bx
      clear bx
      go_wp2_with fail
      refine (H2.out _).mono ?_
      rintro e wx2 ⟨rfl, rfl⟩
      go_wp2
      go_ret2
      exact ⟨rfl, BX.out⟩
    | true =>
      have ec : zc = 0 := EC.out
      have eb : zb = ps.any (phv q port) := by rw [EB.out, ec, dec_y rfl]; rfl
      have hall := (HY.out rfl).1
      have hl8 : lenx ≤ 8 := by have := (HY.out rfl).2; omega
      subst ec
      clear EB EC HY
      have HF : Hid (∀ w, Rw PlR 4 w x ps → Calls Try.prog 26 #[.agg #[.int .i64 ip, .int .i64 b, .int .i64 gt, .string gm, .string wm, .int .i64 rs, .slice x lenx capx, .slice y leny capy], .int .i64 q, .int .i64 port] w fun e w' => e = .returned (.bool zb) ∧ Grw w w') := fun w h => eb ▸ l07Garden_any ip b gt gm wm rs x y lenx capx leny capy ps ros q port w h hl hl8 hall
      clear eb hall
      go_enter Try.func11, Try.ntmps11
      go_wp2_with fail
      refine (HO.out _ (RX.out.keep PlR.kp ((Grw.refl w).alloc _).below) (RY.out.keep (RoR.kp 0) ((Grw.refl w).alloc _).below)).mono ?_
      rintro e wx1 ⟨rfl, bx⟩
      have k0 : World.cell? _ ⟨w.heap.size, 0, none⟩ = some (.int .i64 ip) := bx.keep (a := ⟨w.heap.size, 0, none⟩) (v := .int .i64 ip) (by simp [go_sem])
      have k1 : World.cell? _ ⟨w.heap.size, 1, none⟩ = some (.int .i64 b) := bx.keep (a := ⟨w.heap.size, 1, none⟩) (v := .int .i64 b) (by simp [go_sem])
      have k2 : World.cell? _ ⟨w.heap.size, 2, none⟩ = some (.int .i64 gt) := bx.keep (a := ⟨w.heap.size, 2, none⟩) (v := .int .i64 gt) (by simp [go_sem])
      have k3 : World.cell? _ ⟨w.heap.size, 3, none⟩ = some (.string gm) := bx.keep (a := ⟨w.heap.size, 3, none⟩) (v := .string gm) (by simp [go_sem])
      have k4 : World.cell? _ ⟨w.heap.size, 4, none⟩ = some (.string wm) := bx.keep (a := ⟨w.heap.size, 4, none⟩) (v := .string wm) (by simp [go_sem])
      have k5 : World.cell? _ ⟨w.heap.size, 5, none⟩ = some (.int .i64 rs) := bx.keep (a := ⟨w.heap.size, 5, none⟩) (v := .int .i64 rs) (by simp [go_sem])
      have k6 : World.cell? _ ⟨w.heap.size, 6, none⟩ = some (.slice x lenx capx) := bx.keep (a := ⟨w.heap.size, 6, none⟩) (v := .slice x lenx capx) (by simp [go_sem])
      have k7 : World.cell? _ ⟨w.heap.size, 7, none⟩ = some (.slice y leny capy) := bx.keep (a := ⟨w.heap.size, 7, none⟩) (v := .slice y leny capy) (by simp [go_sem])
      have BX : Hid (Grw w _) := ((Grw.refl _).alloc _).trans bx
      clear bx
      go_wp2_with fail
      refine (H2.out _).mono ?_
      rintro e wx2 ⟨rfl, rfl⟩
      go_wp2_with fail
      refine (HF.out _ (RX.out.keep PlR.kp BX.out.below)).mono ?_
      rintro e wx3 ⟨rfl, bx⟩
      replace k0 := bx.keep k0
      replace k1 := bx.keep k1
      replace k2 := bx.keep k2
      replace k3 := bx.keep k3
      replace k4 := bx.keep k4
      replace k5 := bx.keep k5
      replace k6 := bx.keep k6
      replace k7 := bx.keep k7
      replace BX : Hid (Grw w _) := BX.out.trans bx
      clear bx
      go_wp2
      go_ret2
      exact ⟨rfl, BX.out⟩

set_option maxHeartbeats 4000000 in
theorem implGarden_any (ip b gt : Int) (gm wm : ByteArray) (rs : Int) (x y : Option Addr) (lenx capx leny capy : Nat) (ps : List PlaceV) (ros : List RoleV) (q port : Int) (w : World) (h : Rw PlR 4 w x ps) (hl : ps.length = lenx) (h2 : Rw (RoR 0) 5 w y ros) (hl2 : ros.length = leny) (hsz : SzR ros) (ht : port ≤ 9223372036854775807) :
    Calls Try.prog 13 #[.agg #[.int .i64 ip, .int .i64 b, .int .i64 gt, .string gm, .string wm, .int .i64 rs, .slice x lenx capx, .slice y leny capy], .int .i64 q, .int .i64 port] w fun e w' => e = .returned (.tuple #[.bool (igB ip b gt gm wm rs ps ros q port), .int .i64 (igC ip b gt gm wm rs ps ros q port)]) ∧ Grw w w' := by
  obtain ⟨z, hz⟩ : ∃ z, z = confB ip b gt gm wm rs ps ros := ⟨_, rfl⟩
  obtain ⟨p2, hp2⟩ : ∃ z, z = dec (0 ≤ q ∧ q ≤ 4294967295) := ⟨_, rfl⟩
  obtain ⟨p3, hp3⟩ : ∃ z, z = dec (0 ≤ port ∧ port ≤ 65535) := ⟨_, rfl⟩
  have EC : Hid (igC ip b gt gm wm rs ps ros q port = if z = false then 1 else if (p2 && p3) = false then 4 else 0) := by rw [hz, hp2, hp3]; rfl
  have EB : Hid (igB ip b gt gm wm rs ps ros q port = (dec (igC ip b gt gm wm rs ps ros q port = 0) && ps.any (phv q port))) := rfl
  have HY : Hid (z = true → ps.all plv = true ∧ ps.length ≤ 8) := fun h => conf_places (hz ▸ h)
  have HQ : Hid (p2 = true → 0 ≤ q ∧ q ≤ 4294967295) := fun h => by rw [hp2] at h; exact of_decide_eq_true h
  have RX : Hid (Rw PlR 4 w x ps) := h
  have RY : Hid (Rw (RoR 0) 5 w y ros) := h2
  have HO : Hid (∀ w, Rw PlR 4 w x ps → Rw (RoR 0) 5 w y ros → Calls Try.prog 30 #[.agg #[.int .i64 ip, .int .i64 b, .int .i64 gt, .string gm, .string wm, .int .i64 rs, .slice x lenx capx, .slice y leny capy]] w fun e w' => e = .returned (.bool z) ∧ Grw w w') := fun w h h2 => hz ▸ implConfig_any ip b gt gm wm rs x y lenx capx leny capy ps ros w h hl h2 hl2 hsz
  have H2 : Hid (∀ w, Calls Try.prog 31 #[.int .i64 q] w fun e w' => e = .returned (.bool p2) ∧ w' = w) := fun w => hp2 ▸ addressOK_any q w
  have H3 : Hid (∀ w, Calls Try.prog 32 #[.int .i64 port] w fun e w' => e = .returned (.bool p3) ∧ w' = w) := fun w => hp3 ▸ portOK_any port w ht
  generalize igB ip b gt gm wm rs ps ros q port = zb at EB ⊢
  generalize igC ip b gt gm wm rs ps ros q port = zc at EB EC ⊢
  clear h h2 hz hp2 hp3 hsz
  cases z with
  | false =>
    have ec : zc = 1 := EC.out
    have eb : zb = false := by rw [EB.out, ec, dec_n (by omega)]; rfl
    subst eb ec
    clear EB EC
    go_enter Try.func13, Try.ntmps13
    go_wp2_with fail
    refine (HO.out _ (RX.out.keep PlR.kp ((Grw.refl w).alloc _).below) (RY.out.keep (RoR.kp 0) ((Grw.refl w).alloc _).below)).mono ?_
    rintro e wx1 ⟨rfl, bx⟩
    have k0 : World.cell? _ ⟨w.heap.size, 0, none⟩ = some (.int .i64 ip) := bx.keep (a := ⟨w.heap.size, 0, none⟩) (v := .int .i64 ip) (by simp [go_sem])
    have k1 : World.cell? _ ⟨w.heap.size, 1, none⟩ = some (.int .i64 b) := bx.keep (a := ⟨w.heap.size, 1, none⟩) (v := .int .i64 b) (by simp [go_sem])
    have k2 : World.cell? _ ⟨w.heap.size, 2, none⟩ = some (.int .i64 gt) := bx.keep (a := ⟨w.heap.size, 2, none⟩) (v := .int .i64 gt) (by simp [go_sem])
    have k3 : World.cell? _ ⟨w.heap.size, 3, none⟩ = some (.string gm) := bx.keep (a := ⟨w.heap.size, 3, none⟩) (v := .string gm) (by simp [go_sem])
    have k4 : World.cell? _ ⟨w.heap.size, 4, none⟩ = some (.string wm) := bx.keep (a := ⟨w.heap.size, 4, none⟩) (v := .string wm) (by simp [go_sem])
    have k5 : World.cell? _ ⟨w.heap.size, 5, none⟩ = some (.int .i64 rs) := bx.keep (a := ⟨w.heap.size, 5, none⟩) (v := .int .i64 rs) (by simp [go_sem])
    have k6 : World.cell? _ ⟨w.heap.size, 6, none⟩ = some (.slice x lenx capx) := bx.keep (a := ⟨w.heap.size, 6, none⟩) (v := .slice x lenx capx) (by simp [go_sem])
    have k7 : World.cell? _ ⟨w.heap.size, 7, none⟩ = some (.slice y leny capy) := bx.keep (a := ⟨w.heap.size, 7, none⟩) (v := .slice y leny capy) (by simp [go_sem])
    have BX : Hid (Grw w _) := ((Grw.refl _).alloc _).trans bx
    clear bx
    go_wp2
    go_ret2
    exact ⟨rfl, BX.out⟩
  | true =>
    cases p2 with
    | false =>
      have ec : zc = 4 := EC.out
      have eb : zb = false := by rw [EB.out, ec, dec_n (by omega)]; rfl
      subst eb ec
      clear EB EC
      go_enter Try.func13, Try.ntmps13
      go_wp2_with fail
      refine (HO.out _ (RX.out.keep PlR.kp ((Grw.refl w).alloc _).below) (RY.out.keep (RoR.kp 0) ((Grw.refl w).alloc _).below)).mono ?_
      rintro e wx1 ⟨rfl, bx⟩
      have k0 : World.cell? _ ⟨w.heap.size, 0, none⟩ = some (.int .i64 ip) := bx.keep (a := ⟨w.heap.size, 0, none⟩) (v := .int .i64 ip) (by simp [go_sem])
      have k1 : World.cell? _ ⟨w.heap.size, 1, none⟩ = some (.int .i64 b) := bx.keep (a := ⟨w.heap.size, 1, none⟩) (v := .int .i64 b) (by simp [go_sem])
      have k2 : World.cell? _ ⟨w.heap.size, 2, none⟩ = some (.int .i64 gt) := bx.keep (a := ⟨w.heap.size, 2, none⟩) (v := .int .i64 gt) (by simp [go_sem])
      have k3 : World.cell? _ ⟨w.heap.size, 3, none⟩ = some (.string gm) := bx.keep (a := ⟨w.heap.size, 3, none⟩) (v := .string gm) (by simp [go_sem])
      have k4 : World.cell? _ ⟨w.heap.size, 4, none⟩ = some (.string wm) := bx.keep (a := ⟨w.heap.size, 4, none⟩) (v := .string wm) (by simp [go_sem])
      have k5 : World.cell? _ ⟨w.heap.size, 5, none⟩ = some (.int .i64 rs) := bx.keep (a := ⟨w.heap.size, 5, none⟩) (v := .int .i64 rs) (by simp [go_sem])
      have k6 : World.cell? _ ⟨w.heap.size, 6, none⟩ = some (.slice x lenx capx) := bx.keep (a := ⟨w.heap.size, 6, none⟩) (v := .slice x lenx capx) (by simp [go_sem])
      have k7 : World.cell? _ ⟨w.heap.size, 7, none⟩ = some (.slice y leny capy) := bx.keep (a := ⟨w.heap.size, 7, none⟩) (v := .slice y leny capy) (by simp [go_sem])
      have BX : Hid (Grw w _) := ((Grw.refl _).alloc _).trans bx
      clear bx
      go_wp2_with fail
      refine (H2.out _).mono ?_
      rintro e wx2 ⟨rfl, rfl⟩
      go_wp2
      go_ret2
      exact ⟨rfl, BX.out⟩
    | true =>
      cases p3 with
      | false =>
        have ec : zc = 4 := EC.out
        have eb : zb = false := by rw [EB.out, ec, dec_n (by omega)]; rfl
        subst eb ec
        clear EB EC
        go_enter Try.func13, Try.ntmps13
        go_wp2_with fail
        refine (HO.out _ (RX.out.keep PlR.kp ((Grw.refl w).alloc _).below) (RY.out.keep (RoR.kp 0) ((Grw.refl w).alloc _).below)).mono ?_
        rintro e wx1 ⟨rfl, bx⟩
        have k0 : World.cell? _ ⟨w.heap.size, 0, none⟩ = some (.int .i64 ip) := bx.keep (a := ⟨w.heap.size, 0, none⟩) (v := .int .i64 ip) (by simp [go_sem])
        have k1 : World.cell? _ ⟨w.heap.size, 1, none⟩ = some (.int .i64 b) := bx.keep (a := ⟨w.heap.size, 1, none⟩) (v := .int .i64 b) (by simp [go_sem])
        have k2 : World.cell? _ ⟨w.heap.size, 2, none⟩ = some (.int .i64 gt) := bx.keep (a := ⟨w.heap.size, 2, none⟩) (v := .int .i64 gt) (by simp [go_sem])
        have k3 : World.cell? _ ⟨w.heap.size, 3, none⟩ = some (.string gm) := bx.keep (a := ⟨w.heap.size, 3, none⟩) (v := .string gm) (by simp [go_sem])
        have k4 : World.cell? _ ⟨w.heap.size, 4, none⟩ = some (.string wm) := bx.keep (a := ⟨w.heap.size, 4, none⟩) (v := .string wm) (by simp [go_sem])
        have k5 : World.cell? _ ⟨w.heap.size, 5, none⟩ = some (.int .i64 rs) := bx.keep (a := ⟨w.heap.size, 5, none⟩) (v := .int .i64 rs) (by simp [go_sem])
        have k6 : World.cell? _ ⟨w.heap.size, 6, none⟩ = some (.slice x lenx capx) := bx.keep (a := ⟨w.heap.size, 6, none⟩) (v := .slice x lenx capx) (by simp [go_sem])
        have k7 : World.cell? _ ⟨w.heap.size, 7, none⟩ = some (.slice y leny capy) := bx.keep (a := ⟨w.heap.size, 7, none⟩) (v := .slice y leny capy) (by simp [go_sem])
        have BX : Hid (Grw w _) := ((Grw.refl _).alloc _).trans bx
        clear bx
        go_wp2_with fail
        refine (H2.out _).mono ?_
        rintro e wx2 ⟨rfl, rfl⟩
        go_wp2_with fail
        refine (H3.out _).mono ?_
        rintro e wx3 ⟨rfl, rfl⟩
        go_wp2
        go_ret2
        exact ⟨rfl, BX.out⟩
      | true =>
        have ec : zc = 0 := EC.out
        have eb : zb = ps.any (phv q port) := by rw [EB.out, ec, dec_y rfl]; rfl
        have hall := (HY.out rfl).1
        have hl8 : lenx ≤ 8 := by have := (HY.out rfl).2; omega
        subst ec
        clear EB EC HY
        have HU : Hid (ps.all plv = true) := hall
        have HE : Hid (zb = ps.any (phv q port)) := eb
        have hq := HQ.out rfl
        clear eb hall HQ
        go_enter Try.func13, Try.ntmps13
        go_wp2_with fail
        refine (HO.out _ (RX.out.keep PlR.kp ((Grw.refl w).alloc _).below) (RY.out.keep (RoR.kp 0) ((Grw.refl w).alloc _).below)).mono ?_
        rintro e wx1 ⟨rfl, bx⟩
        have k0 : World.cell? _ ⟨w.heap.size, 0, none⟩ = some (.int .i64 ip) := bx.keep (a := ⟨w.heap.size, 0, none⟩) (v := .int .i64 ip) (by simp [go_sem])
        have k1 : World.cell? _ ⟨w.heap.size, 1, none⟩ = some (.int .i64 b) := bx.keep (a := ⟨w.heap.size, 1, none⟩) (v := .int .i64 b) (by simp [go_sem])
        have k2 : World.cell? _ ⟨w.heap.size, 2, none⟩ = some (.int .i64 gt) := bx.keep (a := ⟨w.heap.size, 2, none⟩) (v := .int .i64 gt) (by simp [go_sem])
        have k3 : World.cell? _ ⟨w.heap.size, 3, none⟩ = some (.string gm) := bx.keep (a := ⟨w.heap.size, 3, none⟩) (v := .string gm) (by simp [go_sem])
        have k4 : World.cell? _ ⟨w.heap.size, 4, none⟩ = some (.string wm) := bx.keep (a := ⟨w.heap.size, 4, none⟩) (v := .string wm) (by simp [go_sem])
        have k5 : World.cell? _ ⟨w.heap.size, 5, none⟩ = some (.int .i64 rs) := bx.keep (a := ⟨w.heap.size, 5, none⟩) (v := .int .i64 rs) (by simp [go_sem])
        have k6 : World.cell? _ ⟨w.heap.size, 6, none⟩ = some (.slice x lenx capx) := bx.keep (a := ⟨w.heap.size, 6, none⟩) (v := .slice x lenx capx) (by simp [go_sem])
        have k7 : World.cell? _ ⟨w.heap.size, 7, none⟩ = some (.slice y leny capy) := bx.keep (a := ⟨w.heap.size, 7, none⟩) (v := .slice y leny capy) (by simp [go_sem])
        have BX : Hid (Grw w _) := ((Grw.refl _).alloc _).trans bx
        clear bx
        go_wp2_with fail
        refine (H2.out _).mono ?_
        rintro e wx2 ⟨rfl, rfl⟩
        go_wp2_with fail
        refine (H3.out _).mono ?_
        rintro e wx3 ⟨rfl, rfl⟩
        clear H2 H3 HO
        go_wp2
        go_loopw [24] (fun u wr => ∃ k : Nat, k ≤ lenx ∧ u = .int .i64 k ∧ Hid ((ps.take k).all (fun p => !phv q port p) = true) ∧ Hid (Grw w wr)) (fun u _ => lenx - (intOf u).toNat)
        case atStart => exact ⟨0, Nat.zero_le _, rfl, rfl, BX.out⟩
        case round =>
          clear k0 k1 k2 k3 k4 k5 k6 k7 BX
          obtain ⟨k, hk, rfl, HA, HG⟩ := hrel
          by_cases hlt : k < lenx
          · obtain ⟨e, hx⟩ := at_of hl hlt
            obtain ⟨bk, off, vs, rfl, hb, hvl, hR, hc⟩ := RX.out.at PlR.kp HG.out.below hx
            have hpl := pl_yes (all_at HU.out hx)
            obtain ⟨pip, pb, lo, hi⟩ := e
            obtain ⟨rfl, hlo, hhi⟩ := hR
            have q0 : wr.cell? ⟨bk, off + k * 4, none⟩ = some (.int .i64 pip) := hc 0 _ rfl
            have q1 : wr.cell? ⟨bk, off + k * 4 + 1, none⟩ = some (.int .i64 pb) := hc 1 _ rfl
            have q2 : wr.cell? ⟨bk, off + k * 4 + 2, none⟩ = some (.int .i64 lo) := hc 2 _ rfl
            have q3 : wr.cell? ⟨bk, off + k * 4 + 3, none⟩ = some (.int .i64 hi) := hc 3 _ rfl
            have HN : Hid (∀ w, Calls Try.prog 33 #[.agg #[.int .i64 pip, .int .i64 pb, .int .i64 lo, .int .i64 hi], .int .i64 q, .int .i64 port] w fun e w' => e = .returned (.bool (phv q port ⟨pip, pb, lo, hi⟩)) ∧ Grw w w') := fun w => placeHas_any pip pb lo hi q port w hpl.2.2 hq
            have HS : Hid (phv q port ⟨pip, pb, lo, hi⟩ = false → (ps.take (k + 1)).all (fun p => !phv q port p) = true) := fun h => all_step2 hx HA.out (by rw [h]; rfl)
            have HF : Hid (phv q port ⟨pip, pb, lo, hi⟩ = true → ps.any (phv q port) = true) := fun h => any_hit hx h
            generalize phv q port ⟨pip, pb, lo, hi⟩ = r at HN HS HF
            have hltz : (k : Int) < (lenx : Int) := by omega
            clear hc hvl hx hpl
            go_wp2_with fail
            refine (HN.out _).mono ?_
            rintro e w1 ⟨rfl, g1⟩
            have HG1 : Hid (Grw w w1) := (HG.out.alloc _).trans g1
            clear g1 q0 q1 q2 q3 HN
            cases r with
            | false =>
              have HS' : Hid ((ps.take (k + 1)).all (fun p => !phv q port p) = true) := HS.out rfl
              clear HS HF HG
              go_wp2
              go_roundw
              case rel => exact ⟨k + 1, by omega, by go_num, HS', HG1⟩
              case measure => simp [intOf]; omega
            | true =>
              have hd : Hid (zb = true) := HE.out.trans (HF.out rfl)
              go_wp2
              go_ret2
              exact ⟨by rw [hd.out] <;> rfl, HG1.out⟩
          · obtain rfl : k = lenx := by omega
            have hd : Hid (zb = false) := HE.out.trans (any_none (all_end hl HA.out))
            go_wp2
            go_ret2
            exact ⟨by rw [hd.out] <;> rfl, HG.out⟩

end Go.Proofs.Ytcgdpijmfgkalac
