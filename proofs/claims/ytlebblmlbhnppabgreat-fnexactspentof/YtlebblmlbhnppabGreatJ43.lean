/- namePlace and SpentOf of the program. -/
import Derived.Test.YtlebblmlbhnppabGreatJ37
import Derived.Test.YtlebblmlbhnppabGreatJ42
namespace Go.Proofs.YtlebblmlbhnppabGreat
open Go.RowKit Go.PlainAid Go.Proofs.YtlebblmlbhnppabGreat.Bt Go.Sort
set_option linter.unusedVariables false
set_option maxRecDepth 20000
set_option maxHeartbeats 2000000 in
theorem idxUser_any (y : Option Addr) (n c : Nat) (xs : List UserV) (p : UserV → Bool) (B0 : Nat) (w : World) (h : Rw UsR 6 w y xs) (hl : xs.length = n) (hn : n ≤ 9223372036854775807)
    (hp : ∀ z, z ∈ xs → ∀ W, Below w.heap.size w W → Calls Tryz.prog 73 #[.agg #[.string z.nm, .string z.sa, .string z.ha, .string z.ro, .int .i64 z.bl, .int .i64 z.lg], .pointer (some ⟨B0, 0, none⟩)] W fun e w' => e = .returned (.bool (p z)) ∧ Grw W w') :
    Calls Tryz.prog 72 #[.slice y n c, .func (.func 73) #[] #[.pointer (some ⟨B0, 0, none⟩)]] w fun e w' => e = .returned (.int .i64 (ixI p xs)) ∧ Grw w w' := by
  have RY : Hid (Rw UsR 6 w y xs) := h
  have HP0 : Hid (∀ z, z ∈ xs → ∀ W, Below w.heap.size w W → Calls Tryz.prog 73 #[.agg #[.string z.nm, .string z.sa, .string z.ha, .string z.ro, .int .i64 z.bl, .int .i64 z.lg], .pointer (some ⟨B0, 0, none⟩)] W fun e w' => e = .returned (.bool (p z)) ∧ Grw W w') := hp
  clear h hp
  have eg : ∀ args w, (callFunc 73 args).run Tryz.prog w = .ok (.enter 73 args) w := enters_of Tryz.func73 (by kernel_rfl) rfl
  go_enter Tryz.func72, Tryz.ntmps72
  go_wp2
  go_loopw [8] (fun u wr => ∃ k : Nat, k ≤ n ∧ u = .int .i64 k ∧ Hid ((xs.take k).find? p = none) ∧ Hid (Grw w wr)) (fun u _ => n - (intOf u).toNat)
  case atStart => exact ⟨0, Nat.zero_le _, rfl, rfl, Grw.refl _⟩
  case round =>
    obtain ⟨k, hk, rfl, HO, HG⟩ := hrel
    by_cases hlt : k < n
    · obtain ⟨z, hx⟩ := at_of hl hlt
      obtain ⟨bk, off, vs, rfl, hb, hvl, hR, hc⟩ := RY.out.at UsR.kp HG.out.below hx
      have HY : Hid (p z = true → ixI p xs = k) := fun h => ixI_at hx HO.out h
      have HN : Hid (p z = false → (xs.take (k + 1)).find? p = none) := fun h => ixI_no hx HO.out h
      obtain ⟨rfl, -⟩ := hR
      have q0 : wr.cell? ⟨bk, off + k * 6, none⟩ = some (.string z.nm) := hc 0 _ rfl
      have q1 : wr.cell? ⟨bk, off + k * 6 + 1, none⟩ = some (.string z.sa) := hc 1 _ rfl
      have q2 : wr.cell? ⟨bk, off + k * 6 + 2, none⟩ = some (.string z.ha) := hc 2 _ rfl
      have q3 : wr.cell? ⟨bk, off + k * 6 + 3, none⟩ = some (.string z.ro) := hc 3 _ rfl
      have q4 : wr.cell? ⟨bk, off + k * 6 + 4, none⟩ = some (.int .i64 z.bl) := hc 4 _ rfl
      have q5 : wr.cell? ⟨bk, off + k * 6 + 5, none⟩ = some (.int .i64 z.lg) := hc 5 _ rfl
      have hltz : (k : Int) < (n : Int) := by omega
      have HP : Hid (∀ W, Grw w W → Calls Tryz.prog 73 #[.agg #[.string z.nm, .string z.sa, .string z.ha, .string z.ro, .int .i64 z.bl, .int .i64 z.lg], .pointer (some ⟨B0, 0, none⟩)] W fun e w' => e = .returned (.bool (p z)) ∧ Grw W w') := fun W g => HP0.out z (List.mem_of_getElem? hx) W g.below
      generalize p z = u at HY HN HP
      clear hc hvl hx
      cases u with
      | false =>
        have HN' : Hid ((xs.take (k + 1)).find? p = none) := HN.out rfl
        clear HY HN
        go_wp2_with (go_at_fn 73; refine (HP.out _ HG.out).mono ?_; rintro e w' ⟨rfl, g1⟩)
        have HG1 : Hid (Grw w _) := HG.out.trans g1
        clear g1 HG
        go_roundw
        case rel => exact ⟨k + 1, by omega, by go_num, HN', HG1⟩
        case measure => simp [intOf]; omega
      | true =>
        have HY' : Hid (ixI p xs = k) := HY.out rfl
        clear HY HN
        go_wp2_with (go_at_fn 73; refine (HP.out _ HG.out).mono ?_; rintro e w' ⟨rfl, g1⟩)
        go_ret
        exact ⟨by rw [HY'.out]; rfl, HG.out.trans g1⟩
    · obtain rfl : k = n := by omega
      have hd : Hid (ixI p xs = -1) := ixI_end hl HO.out
      go_wp2
      go_ret
      exact ⟨by rw [hd.out]; rfl, HG.out⟩

theorem namePlace1_any (z : UserV) (u : ByteArray) (B : Nat) (w : World) (hc : w.cell? ⟨B, 0, none⟩ = some (.string u)) :
    Calls Tryz.prog 73 #[.agg #[.string z.nm, .string z.sa, .string z.ha, .string z.ro, .int .i64 z.bl, .int .i64 z.lg], .pointer (some ⟨B, 0, none⟩)] w fun e w' => e = .returned (.bool (nmP u z)) ∧ Grw w w' := by
  have hc2 := acell hc (.cells #[.string z.nm, .string z.sa, .string z.ha, .string z.ro, .int .i64 z.bl, .int .i64 z.lg] 84)
  unfold nmP
  obtain ⟨t, ht⟩ : ∃ t, (z.nm.toList == u.toList) = t := ⟨_, rfl⟩
  rw [ht]
  go_enter Tryz.func73, Tryz.ntmps73
  go_wp2
  go_ret
  exact ⟨by first | rfl | (rw [ht]; rfl), (Grw.refl _).alloc _⟩
set_option maxHeartbeats 1000000 in
theorem namePlace_any (a : Option Addr) (n c : Nat) (us : List UserV) (u : ByteArray) (w : World) (h : Rw UsR 6 w a us) (hl : us.length = n) (hn : n ≤ 9223372036854775807) :
    Calls Tryz.prog 30 #[.slice a n c, .string u] w fun e w' => e = .returned (.int .i64 (ixI (nmP u) us)) ∧ Grw w w' := by
  have HX : Hid (∀ W B, Grw w W → W.cell? ⟨B, 0, none⟩ = some (.string u) → Calls Tryz.prog 72 #[.slice a n c, .func (.func 73) #[] #[.pointer (some ⟨B, 0, none⟩)]] W fun e w' => e = .returned (.int .i64 (ixI (nmP u) us)) ∧ Grw W w') := fun W B g hc => idxUser_any a n c us (nmP u) B W (h.keep UsR.kp g.below) hl hn (fun z _ W2 b2 => namePlace1_any z u B W2 (bkeep b2 hc))
  clear h
  generalize ixI (nmP u) us = r at HX ⊢
  go_enter Tryz.func30, Tryz.ntmps30
  go_wp2_with (go_at_call 72; refine (HX.out _ _ ((Grw.refl w).alloc _) (by simp [go_sem])).mono ?_; rintro e w' ⟨rfl, g1⟩)
  go_ret
  exact ⟨rfl, ((Grw.refl w).alloc _).trans g1⟩
theorem spent1_any (z : SessV) (q : Int) (B : Nat) (w : World) (hc : w.cell? ⟨B, 0, none⟩ = some (.int .i64 q)) :
    Calls Tryz.prog 32 #[.agg #[.int .i64 z.id, .int .i64 z.us, .string z.mc, .int .i64 z.ip, .int .i64 z.be, .int .i64 z.la, .int .i64 z.ud, .int .i64 z.qu, .int .i64 z.un, .int .i64 z.il], .pointer (some ⟨B, 0, none⟩)] w fun e w' => e = .returned (.bool (usP q z)) ∧ Below w.heap.size w w' := by
  have hc2 := acell hc (.cells #[.int .i64 z.id, .int .i64 z.us, .string z.mc, .int .i64 z.ip, .int .i64 z.be, .int .i64 z.la, .int .i64 z.ud, .int .i64 z.qu, .int .i64 z.un, .int .i64 z.il] 70)
  unfold usP
  obtain ⟨t, ht⟩ : ∃ t, (z.us == q) = t := ⟨_, rfl⟩
  rw [ht]
  go_enter Tryz.func32, Tryz.ntmps32
  go_wp2
  go_ret
  exact ⟨by first | rfl | (rw [ht]; rfl), (Below.refl _ _).alloc (Nat.le_refl _) _⟩
set_option maxHeartbeats 8000000 in
theorem implSpent_any (A : GtA) (g : GtV) (u : ByteArray) (w : World) (h : GtR w A g) (hs : GtS g) (hu : u.size ≤ 1048576) :
    Calls Tryz.prog 11 #[.agg #[.int .i64 g.ip, .int .i64 g.b, .int .i64 g.gt, .string g.gm, .string g.wm, .int .i64 g.rs, .slice A.x g.ps.length A.xc, .slice A.y g.ros.length A.yc, .slice A.ua g.us.length A.uc, .slice A.sa g.ss.length A.sc, .slice A.fa g.fs.length A.fc, .slice A.ra g.es.length A.rc, .int .i64 g.nx, .slice A.la g.fl.length A.lc, .slice A.ca g.co.length A.cc, .int .i64 g.nw, .int .i64 g.dr, .int .i64 g.sn], .string u] w fun e w' => e = .returned (.tuple #[.int .i64 (spN g u), .int .i64 (spC g u)]) ∧ Below w.heap.size w w' := by
  have GR : Hid (GtR w A g) := h
  have G0 : Hid (Bx (w.alloc (.cells #[.int .i64 g.ip, .int .i64 g.b, .int .i64 g.gt, .string g.gm, .string g.wm, .int .i64 g.rs, .slice A.x g.ps.length A.xc, .slice A.y g.ros.length A.yc, .slice A.ua g.us.length A.uc, .slice A.sa g.ss.length A.sc, .slice A.fa g.fs.length A.fc, .slice A.ra g.es.length A.rc, .int .i64 g.nx, .slice A.la g.fl.length A.lc, .slice A.ca g.co.length A.cc, .int .i64 g.nw, .int .i64 g.dr, .int .i64 g.sn] 55)) w.heap.size [.int .i64 g.ip, .int .i64 g.b, .int .i64 g.gt, .string g.gm, .string g.wm, .int .i64 g.rs, .slice A.x g.ps.length A.xc, .slice A.y g.ros.length A.yc, .slice A.ua g.us.length A.uc, .slice A.sa g.ss.length A.sc, .slice A.fa g.fs.length A.fc, .slice A.ra g.es.length A.rc, .int .i64 g.nx, .slice A.la g.fl.length A.lc, .slice A.ca g.co.length A.cc, .int .i64 g.nw, .int .i64 g.dr, .int .i64 g.sn]) := Bx.new w #[.int .i64 g.ip, .int .i64 g.b, .int .i64 g.gt, .string g.gm, .string g.wm, .int .i64 g.rs, .slice A.x g.ps.length A.xc, .slice A.y g.ros.length A.yc, .slice A.ua g.us.length A.uc, .slice A.sa g.ss.length A.sc, .slice A.fa g.fs.length A.fc, .slice A.ra g.es.length A.rc, .int .i64 g.nx, .slice A.la g.fl.length A.lc, .slice A.ca g.co.length A.cc, .int .i64 g.nw, .int .i64 g.dr, .int .i64 g.sn] 55
  have X0 : Hid (Below w.heap.size w (w.alloc (.cells #[.int .i64 g.ip, .int .i64 g.b, .int .i64 g.gt, .string g.gm, .string g.wm, .int .i64 g.rs, .slice A.x g.ps.length A.xc, .slice A.y g.ros.length A.yc, .slice A.ua g.us.length A.uc, .slice A.sa g.ss.length A.sc, .slice A.fa g.fs.length A.fc, .slice A.ra g.es.length A.rc, .int .i64 g.nx, .slice A.la g.fl.length A.lc, .slice A.ca g.co.length A.cc, .int .i64 g.nw, .int .i64 g.dr, .int .i64 g.sn] 55))) := (Below.refl _ _).alloc (Nat.le_refl _) _
  by_cases hl : 65536 < u.size
  · have e1 : spN g u = 0 := by unfold spN; rw [if_pos hl]
    have e2 : spC g u = 2 := by unfold spC; rw [if_pos hl]
    rw [e1, e2]
    have hlz : (65536 : Int) < (u.size : Int) := by omega
    clear e1 e2 hl h hs
    go_enter Tryz.func11, Tryz.ntmps11
    go_wp2
    go_ret2
    exact ⟨rfl, X0.out⟩
  have e1 : spN g u = if gtB g = true then (if g.us.any (nmP u) = true then sumF (g.ss.filter (usP (ixI (nmP u) g.us))) else 0) else 0 := by unfold spN; rw [if_neg hl]
  have e2 : spC g u = if gtB g = true then (if g.us.any (nmP u) = true then 0 else 13) else 1 := by unfold spC; rw [if_neg hl]
  rw [e1, e2]
  clear e1 e2
  obtain ⟨nv, hnv⟩ : ∃ n, (if gtB g = true then (if g.us.any (nmP u) = true then sumF (g.ss.filter (usP (ixI (nmP u) g.us))) else 0) else 0) = n := ⟨_, rfl⟩
  obtain ⟨cv, hcv⟩ : ∃ n, (if gtB g = true then (if g.us.any (nmP u) = true then (0 : Int) else 13) else 1) = n := ⟨_, rfl⟩
  rw [hnv, hcv]
  have V1 : Hid (gtB g = false → nv = 0 ∧ cv = 1) := fun h => ⟨by rw [← hnv, h]; rfl, by rw [← hcv, h]; rfl⟩
  have V2 : Hid (gtB g = true → g.us.any (nmP u) = false → nv = 0 ∧ cv = 13) := fun h k => ⟨by rw [← hnv, h, k]; rfl, by rw [← hcv, h, k]; rfl⟩
  have V3 : Hid (gtB g = true → g.us.any (nmP u) = true → nv = sumF (g.ss.filter (usP (ixI (nmP u) g.us))) ∧ cv = 0) := fun h k => ⟨by rw [← hnv, h, k]; rfl, by rw [← hcv, h, k]; rfl⟩
  clear hnv hcv
  have hlz : ¬ (65536 : Int) < (u.size : Int) := by omega
  have HG : Hid (∀ w, GtR w A g → Calls Tryz.prog 22 #[.agg #[.int .i64 g.ip, .int .i64 g.b, .int .i64 g.gt, .string g.gm, .string g.wm, .int .i64 g.rs, .slice A.x g.ps.length A.xc, .slice A.y g.ros.length A.yc, .slice A.ua g.us.length A.uc, .slice A.sa g.ss.length A.sc, .slice A.fa g.fs.length A.fc, .slice A.ra g.es.length A.rc, .int .i64 g.nx, .slice A.la g.fl.length A.lc, .slice A.ca g.co.length A.cc, .int .i64 g.nw, .int .i64 g.dr, .int .i64 g.sn]] w fun e w' => e = .returned (.bool (gtB g)) ∧ Below w.heap.size w w') := fun w h => implGate_any A g w h hs
  have HN : Hid (∀ w, GtR w A g → Calls Tryz.prog 30 #[.slice A.ua g.us.length A.uc, .string u] w fun e w' => e = .returned (.int .i64 (ixI (nmP u) g.us)) ∧ Below w.heap.size w w') := fun w h => (namePlace_any _ _ _ g.us u w h.us rfl (by have := hs.us; omega)).mono fun e w' h => ⟨h.1, h.2.below⟩
  have HF : Hid (∀ (q : Int) W B, GtR W A g → W.cell? ⟨B, 0, none⟩ = some (.int .i64 q) → Calls Tryz.prog 31 #[.slice A.sa g.ss.length A.sc, .func (.func 32) #[] #[.pointer (some ⟨B, 0, none⟩)]] W fun e w' => ∃ v, e = .returned v ∧ OwnS svG 10 70 w' W.heap.size v (g.ss.filter (usP q)) ∧ Below W.heap.size W w') := fun q W B h hb => filtSess_any _ _ _ g.ss 32 _ (usP q) W h.ss rfl hs.ss (enters_of Tryz.func32 (by kernel_rfl) rfl) (fun z hz W2 b2 => spent1_any z q B W2 (bkeep b2 hb))
  have HK : Hid (∀ x, x ∈ g.ss → SeRok x) := by
    intro x hx
    obtain ⟨i, hi⟩ := List.getElem?_of_mem hx
    obtain ⟨b, off, vs, _, _, _, h2, _⟩ := h.ss.at SeR.kp (Below.refl _ _) hi
    exact h2.2
  have HU : Hid (gtB g = true → (∀ s, s ∈ g.ss → 0 ≤ s.ud ∧ s.ud ≤ 1000000) ∧ g.ss.length ≤ 3) := fun hg => ⟨gt_uds hg, (gt_lensF hg).2⟩
  have HI : Hid (decide (ixI (nmP u) g.us < 0) = !(g.us.any (nmP u))) := ixI_neg
  clear h hs hl hu
  generalize gtB g = z at HG HU V1 V2 V3
  generalize g.us.any (nmP u) = t at HI V2 V3
  generalize ixI (nmP u) g.us = r at HN HI V3
  go_enter Tryz.func11, Tryz.ntmps11
  go_wp2_with (first | (refine wpl_getO 55 rfl _ rfl w.heap.size 0 [.int .i64 g.ip, .int .i64 g.b, .int .i64 g.gt, .string g.gm, .string g.wm, .int .i64 g.rs, .slice A.x g.ps.length A.xc, .slice A.y g.ros.length A.yc, .slice A.ua g.us.length A.uc, .slice A.sa g.ss.length A.sc, .slice A.fa g.fs.length A.fc, .slice A.ra g.es.length A.rc, .int .i64 g.nx, .slice A.la g.fl.length A.lc, .slice A.ca g.co.length A.cc, .int .i64 g.nw, .int .i64 g.dr, .int .i64 g.sn] rfl G0.out rfl _ Tryz.underlying55 rfl rfl ?_) | fail)
  refine (HG.out _ (GR.out.below X0.out)).mono ?_
  rintro e w1 ⟨rfl, bx⟩
  have G1 : Hid (Bx w1 w.heap.size [.int .i64 g.ip, .int .i64 g.b, .int .i64 g.gt, .string g.gm, .string g.wm, .int .i64 g.rs, .slice A.x g.ps.length A.xc, .slice A.y g.ros.length A.yc, .slice A.ua g.us.length A.uc, .slice A.sa g.ss.length A.sc, .slice A.fa g.fs.length A.fc, .slice A.ra g.es.length A.rc, .int .i64 g.nx, .slice A.la g.fl.length A.lc, .slice A.ca g.co.length A.cc, .int .i64 g.nw, .int .i64 g.dr, .int .i64 g.sn]) := G0.out.below bx
  have X1 : Hid (Below w.heap.size w w1) := X0.out.trans (bx.mono X0.out.size)
  clear bx G0 X0 HG
  cases z with
  | false =>
    have hv : Hid (nv = 0 ∧ cv = 1) := V1.out (by simp)
    clear V1 V2 V3
    go_wp2
    go_ret2
    exact ⟨by rw [hv.out.1, hv.out.2]; rfl, X1.out⟩
  | true =>
    have V2' : Hid (t = false → nv = 0 ∧ cv = 13) := V2.out (by simp)
    have V3' : Hid (t = true → nv = sumF (g.ss.filter (usP r)) ∧ cv = 0) := V3.out (by simp)
    clear V1 V2 V3
    have HU2 : Hid ((∀ s, s ∈ g.ss → 0 ≤ s.ud ∧ s.ud ≤ 1000000) ∧ g.ss.length ≤ 3) := HU.out (by simp)
    have u8 := G1.out.cell 8 rfl
    go_wp2_with fail
    refine (HN.out _ (GR.out.below X1.out)).mono ?_
    rintro e w2 ⟨rfl, bx⟩
    have G2 : Hid (Bx (w2.alloc (.cells #[.int .i64 r] 3)) w.heap.size [.int .i64 g.ip, .int .i64 g.b, .int .i64 g.gt, .string g.gm, .string g.wm, .int .i64 g.rs, .slice A.x g.ps.length A.xc, .slice A.y g.ros.length A.yc, .slice A.ua g.us.length A.uc, .slice A.sa g.ss.length A.sc, .slice A.fa g.fs.length A.fc, .slice A.ra g.es.length A.rc, .int .i64 g.nx, .slice A.la g.fl.length A.lc, .slice A.ca g.co.length A.cc, .int .i64 g.nw, .int .i64 g.dr, .int .i64 g.sn]) := (G1.out.below bx).below ((Below.refl _ _).alloc (Nat.le_refl _) _)
    have X2 : Hid (Below w.heap.size w (w2.alloc (.cells #[.int .i64 r] 3))) := (X1.out.trans (bx.mono X1.out.size)).alloc (by have := X1.out.size; have := bx.size; omega) _
    clear bx G1 X1 HN u8 HU
    cases t with
    | false =>
      have hr : r < 0 := by have := HI.out; simpa using this
      have hrz : decide (r < 0) = true := by simp [hr]
      have hv : Hid (nv = 0 ∧ cv = 13) := V2'.out (by simp)
      clear HI V2' V3'
      go_wp2
      go_ret2
      exact ⟨by rw [hv.out.1, hv.out.2]; rfl, X2.out⟩
    | true =>
      have hr : ¬ r < 0 := by have := HI.out; simp at this; omega
      have hrz : decide (r < 0) = false := by simp; omega
      have HV : Hid (nv = sumF (g.ss.filter (usP r)) ∧ cv = 0) := V3'.out (by simp)
      have u9 := G2.out.cell 9 rfl
      clear HI V2' V3'
      go_wp2_with (go_at_call 31; refine (HF.out r _ _ (GR.out.below X2.out) (by simp [go_sem])).mono ?_; rintro e w3 ⟨v, rfl, o3, bx⟩; obtain ⟨ax, cx, rfl, -⟩ := o3.slice; have RW : Hid (Rw SeR 10 w3 ax (g.ss.filter (usP r))) := o3.rw (ok := SeRok) (fun _ => rfl) (fun x hx => HK.out x (List.mem_filter.1 hx).1); have X3 : Hid (Below w.heap.size w w3) := X2.out.trans (bx.mono X2.out.size); clear bx o3 G2 X2 u9 HF)
      have HUL : Hid ((∀ s, s ∈ g.ss.filter (usP r) → 0 ≤ s.ud ∧ s.ud ≤ 1000000) ∧ (g.ss.filter (usP r)).length ≤ 3) := ⟨fun s hs => HU2.out.1 s (List.mem_filter.1 hs).1, Nat.le_trans (List.length_filter_le _ _) HU2.out.2⟩
      have hle := HUL.out.2
      clear HU2 HK
      generalize g.ss.filter (usP r) = L at RW HUL hle HV ⊢
      go_loopw [7, 29] (fun m y wr => ∃ k : Nat, k ≤ L.length ∧ y = .int .i64 k ∧ m = .int .i64 (sumF (L.take k)) ∧ Hid (Below w3.heap.size w3 wr)) (fun _ y _ => L.length - (intOf y).toNat)
      case atStart => exact ⟨0, Nat.zero_le _, rfl, rfl, Below.refl _ _⟩
      case round =>
        obtain ⟨k, hk, rfl, rfl, X⟩ := hrel
        by_cases hlt : k < L.length
        · obtain ⟨x, hx⟩ := at_of rfl hlt
          have hltz : (k : Int) < (L.length : Int) := by omega
          obtain ⟨b, off, vs, rfl, hb, hvl, hR, hc⟩ := RW.out.at SeR.kp X.out hx
          have hsm : sumF (L.take (k + 1)) = sumF (L.take k) + x.ud := by
            rw [List.take_add_one, hx]; exact sumF_snoc _ _
          have hbd := sumF_bd (L := L.take k) (fun s hs => HUL.out.1 s (List.mem_of_mem_take hs))
          have htl : (L.take k).length = k := by rw [List.length_take]; omega
          rw [htl] at hbd
          have hxd := HUL.out.1 x (List.mem_of_getElem? hx)
          have HS : Hid (sumF (L.take (k + 1)) = sumF (L.take k) + x.ud) := hsm
          obtain ⟨rfl, -⟩ := hR
          have q0 : wr.cell? ⟨b, off + k * 10, none⟩ = some (.int .i64 x.id) := hc 0 _ rfl
          have q1 : wr.cell? ⟨b, off + k * 10 + 1, none⟩ = some (.int .i64 x.us) := hc 1 _ rfl
          have q2 : wr.cell? ⟨b, off + k * 10 + 2, none⟩ = some (.string x.mc) := hc 2 _ rfl
          have q3 : wr.cell? ⟨b, off + k * 10 + 3, none⟩ = some (.int .i64 x.ip) := hc 3 _ rfl
          have q4 : wr.cell? ⟨b, off + k * 10 + 4, none⟩ = some (.int .i64 x.be) := hc 4 _ rfl
          have q5 : wr.cell? ⟨b, off + k * 10 + 5, none⟩ = some (.int .i64 x.la) := hc 5 _ rfl
          have q6 : wr.cell? ⟨b, off + k * 10 + 6, none⟩ = some (.int .i64 x.ud) := hc 6 _ rfl
          have q7 : wr.cell? ⟨b, off + k * 10 + 7, none⟩ = some (.int .i64 x.qu) := hc 7 _ rfl
          have q8 : wr.cell? ⟨b, off + k * 10 + 8, none⟩ = some (.int .i64 x.un) := hc 8 _ rfl
          have q9 : wr.cell? ⟨b, off + k * 10 + 9, none⟩ = some (.int .i64 x.il) := hc 9 _ rfl
          clear hc hvl hx hsm htl
          have X2 : Hid (Below w3.heap.size w3 (wr.alloc (.cells #[.int .i64 x.id, .int .i64 x.us, .string x.mc, .int .i64 x.ip, .int .i64 x.be, .int .i64 x.la, .int .i64 x.ud, .int .i64 x.qu, .int .i64 x.un, .int .i64 x.il] 70))) := X.out.alloc X.out.size _
          generalize sumF (L.take k) = n0 at HS hbd ⊢
          have hw0 : -9223372036854775808 ≤ n0 + x.ud := by omega
          have hw1 : n0 + x.ud ≤ 9223372036854775807 := by omega
          clear X
          go_wp2
          go_roundw
          case rel => exact ⟨k + 1, by omega, by go_num, by first | (rw [HS.out]; done) | (rw [HS.out]; go_num), X2⟩
          case measure => simp [intOf]; omega
        · have hke : k = L.length := by omega
          have hltz : ¬ ((k : Int) < (L.length : Int)) := by omega
          have hvn : Hid (nv = sumF (L.take k)) := by show _ = _; rw [hke, List.take_length]; exact HV.out.1
          clear hke
          generalize sumF (L.take k) = n0 at hvn ⊢
          go_wp2
          go_ret2
          exact ⟨by rw [hvn.out, HV.out.2]; rfl, X3.out.trans (X.out.mono X3.out.size)⟩
end Go.Proofs.YtlebblmlbhnppabGreat
