/- sessionPlace, ownersOK, connPlace, connsOK and GatewayOK of the program. -/
import Derived.Test.YtlebblmlbhnppaaGreatJ37
import Derived.Test.YtlebblmlbhnppaaGreatJ39
import Derived.Test.YtlebblmlbhnppaaGreatJ40
import Derived.Test.YtlebblmlbhnppaaGreatJ34
namespace Go.Proofs.YtlebblmlbhnppaaGreat
open Go.RowKit Go.PlainAid Go.Proofs.YtlebblmlbhnppaaGreat.Bt Go.Sort
set_option linter.unusedVariables false
set_option maxRecDepth 20000
set_option maxHeartbeats 2000000 in
theorem idxSess_any (y : Option Addr) (n c : Nat) (xs : List SessV) (p : SessV → Bool) (B0 : Nat) (w : World) (h : Rw SeR 10 w y xs) (hl : xs.length = n) (hn : n ≤ 9223372036854775807)
    (hp : ∀ z, z ∈ xs → ∀ W, Below w.heap.size w W → Calls Tryz.prog 252 #[.agg #[.int .i64 z.id, .int .i64 z.us, .string z.mc, .int .i64 z.ip, .int .i64 z.be, .int .i64 z.la, .int .i64 z.ud, .int .i64 z.qu, .int .i64 z.un, .int .i64 z.il], .pointer (some ⟨B0, 0, none⟩)] W fun e w' => e = .returned (.bool (p z)) ∧ Grw W w') :
    Calls Tryz.prog 251 #[.slice y n c, .func (.func 252) #[] #[.pointer (some ⟨B0, 0, none⟩)]] w fun e w' => e = .returned (.int .i64 (ixI p xs)) ∧ Grw w w' := by
  have RY : Hid (Rw SeR 10 w y xs) := h
  have HP0 : Hid (∀ z, z ∈ xs → ∀ W, Below w.heap.size w W → Calls Tryz.prog 252 #[.agg #[.int .i64 z.id, .int .i64 z.us, .string z.mc, .int .i64 z.ip, .int .i64 z.be, .int .i64 z.la, .int .i64 z.ud, .int .i64 z.qu, .int .i64 z.un, .int .i64 z.il], .pointer (some ⟨B0, 0, none⟩)] W fun e w' => e = .returned (.bool (p z)) ∧ Grw W w') := hp
  clear h hp
  have eg : ∀ args w, (callFunc 252 args).run Tryz.prog w = .ok (.enter 252 args) w := enters_of Tryz.func252 (by kernel_rfl) rfl
  go_enter Tryz.func251, Tryz.ntmps251
  go_wp2
  go_loopw [8] (fun u wr => ∃ k : Nat, k ≤ n ∧ u = .int .i64 k ∧ Hid ((xs.take k).find? p = none) ∧ Hid (Grw w wr)) (fun u _ => n - (intOf u).toNat)
  case atStart => exact ⟨0, Nat.zero_le _, rfl, rfl, Grw.refl _⟩
  case round =>
    obtain ⟨k, hk, rfl, HO, HG⟩ := hrel
    by_cases hlt : k < n
    · obtain ⟨z, hx⟩ := at_of hl hlt
      obtain ⟨bk, off, vs, rfl, hb, hvl, hR, hc⟩ := RY.out.at SeR.kp HG.out.below hx
      have HY : Hid (p z = true → ixI p xs = k) := fun h => ixI_at hx HO.out h
      have HN : Hid (p z = false → (xs.take (k + 1)).find? p = none) := fun h => ixI_no hx HO.out h
      obtain ⟨rfl, -⟩ := hR
      have q0 : wr.cell? ⟨bk, off + k * 10, none⟩ = some (.int .i64 z.id) := hc 0 _ rfl
      have q1 : wr.cell? ⟨bk, off + k * 10 + 1, none⟩ = some (.int .i64 z.us) := hc 1 _ rfl
      have q2 : wr.cell? ⟨bk, off + k * 10 + 2, none⟩ = some (.string z.mc) := hc 2 _ rfl
      have q3 : wr.cell? ⟨bk, off + k * 10 + 3, none⟩ = some (.int .i64 z.ip) := hc 3 _ rfl
      have q4 : wr.cell? ⟨bk, off + k * 10 + 4, none⟩ = some (.int .i64 z.be) := hc 4 _ rfl
      have q5 : wr.cell? ⟨bk, off + k * 10 + 5, none⟩ = some (.int .i64 z.la) := hc 5 _ rfl
      have q6 : wr.cell? ⟨bk, off + k * 10 + 6, none⟩ = some (.int .i64 z.ud) := hc 6 _ rfl
      have q7 : wr.cell? ⟨bk, off + k * 10 + 7, none⟩ = some (.int .i64 z.qu) := hc 7 _ rfl
      have q8 : wr.cell? ⟨bk, off + k * 10 + 8, none⟩ = some (.int .i64 z.un) := hc 8 _ rfl
      have q9 : wr.cell? ⟨bk, off + k * 10 + 9, none⟩ = some (.int .i64 z.il) := hc 9 _ rfl
      have hltz : (k : Int) < (n : Int) := by omega
      have HP : Hid (∀ W, Grw w W → Calls Tryz.prog 252 #[.agg #[.int .i64 z.id, .int .i64 z.us, .string z.mc, .int .i64 z.ip, .int .i64 z.be, .int .i64 z.la, .int .i64 z.ud, .int .i64 z.qu, .int .i64 z.un, .int .i64 z.il], .pointer (some ⟨B0, 0, none⟩)] W fun e w' => e = .returned (.bool (p z)) ∧ Grw W w') := fun W g => HP0.out z (List.mem_of_getElem? hx) W g.below
      generalize p z = u at HY HN HP
      clear hc hvl hx
      cases u with
      | false =>
        have HN' : Hid ((xs.take (k + 1)).find? p = none) := HN.out rfl
        clear HY HN
        go_wp2_with (go_at_fn 252; refine (HP.out _ HG.out).mono ?_; rintro e w' ⟨rfl, g1⟩)
        have HG1 : Hid (Grw w _) := HG.out.trans g1
        clear g1 HG
        go_roundw
        case rel => exact ⟨k + 1, by omega, by go_num, HN', HG1⟩
        case measure => simp [intOf]; omega
      | true =>
        have HY' : Hid (ixI p xs = k) := HY.out rfl
        clear HY HN
        go_wp2_with (go_at_fn 252; refine (HP.out _ HG.out).mono ?_; rintro e w' ⟨rfl, g1⟩)
        go_ret
        exact ⟨by rw [HY'.out]; rfl, HG.out.trans g1⟩
    · obtain rfl : k = n := by omega
      have hd : Hid (ixI p xs = -1) := ixI_end hl HO.out
      go_wp2
      go_ret
      exact ⟨by rw [hd.out]; rfl, HG.out⟩

theorem sessPlace1_any (z : SessV) (q : Int) (B : Nat) (w : World) (hc : w.cell? ⟨B, 0, none⟩ = some (.int .i64 q)) :
    Calls Tryz.prog 252 #[.agg #[.int .i64 z.id, .int .i64 z.us, .string z.mc, .int .i64 z.ip, .int .i64 z.be, .int .i64 z.la, .int .i64 z.ud, .int .i64 z.qu, .int .i64 z.un, .int .i64 z.il], .pointer (some ⟨B, 0, none⟩)] w fun e w' => e = .returned (.bool (siP q z)) ∧ Grw w w' := by
  have hc2 := acell hc (.cells #[.int .i64 z.id, .int .i64 z.us, .string z.mc, .int .i64 z.ip, .int .i64 z.be, .int .i64 z.la, .int .i64 z.ud, .int .i64 z.qu, .int .i64 z.un, .int .i64 z.il] 137)
  unfold siP
  obtain ⟨u, hu⟩ : ∃ u, (z.id == q) = u := ⟨_, rfl⟩
  rw [hu]
  go_enter Tryz.func252, Tryz.ntmps252
  go_wp2
  go_ret
  exact ⟨by first | rfl | (rw [hu]; rfl), (Grw.refl _).alloc _⟩
set_option maxHeartbeats 1000000 in
theorem sessPlace_any (a : Option Addr) (n c : Nat) (ss : List SessV) (q : Int) (w : World) (h : Rw SeR 10 w a ss) (hl : ss.length = n) (hn : n ≤ 9223372036854775807) :
    Calls Tryz.prog 209 #[.slice a n c, .int .i64 q] w fun e w' => e = .returned (.int .i64 (ixI (siP q) ss)) ∧ Grw w w' := by
  have HX : Hid (∀ W B, Grw w W → W.cell? ⟨B, 0, none⟩ = some (.int .i64 q) → Calls Tryz.prog 251 #[.slice a n c, .func (.func 252) #[] #[.pointer (some ⟨B, 0, none⟩)]] W fun e w' => e = .returned (.int .i64 (ixI (siP q) ss)) ∧ Grw W w') := fun W B g hc => idxSess_any a n c ss (siP q) B W (h.keep SeR.kp g.below) hl hn (fun z _ W2 b2 => sessPlace1_any z q B W2 (bkeep b2 hc))
  clear h
  generalize ixI (siP q) ss = r at HX ⊢
  go_enter Tryz.func209, Tryz.ntmps209
  go_wp2_with (go_at_call 251; refine (HX.out _ _ ((Grw.refl w).alloc _) (by simp [go_sem])).mono ?_; rintro e w' ⟨rfl, g1⟩)
  go_ret
  exact ⟨rfl, ((Grw.refl w).alloc _).trans g1⟩
set_option maxHeartbeats 1000000 in
theorem ownerGone_any (A : GtA) (g : GtV) (f : FlowV) (w : World) (h : Rw SeR 10 w A.sa g.ss) (hn : g.ss.length ≤ 1048576) :
    Calls Tryz.prog 158 #[.agg #[.slice A.ua g.us.length A.uc, .slice A.sa g.ss.length A.sc, .slice A.fa g.fs.length A.fc, .slice A.ra g.es.length A.rc, .int .i64 g.nx], .agg #[.int .i64 f.pr, .string f.mc, .int .i64 f.si, .int .i64 f.sp, .int .i64 f.di, .int .i64 f.dp, .int .i64 f.st, .int .i64 f.un, .int .i64 f.ow]] w fun e w' => e = .returned (.bool (owP g.ss f)) ∧ Grw w w' := by
  have HX : Hid (∀ W, Grw w W → Calls Tryz.prog 209 #[.slice A.sa g.ss.length A.sc, .int .i64 f.ow] W fun e w' => e = .returned (.int .i64 (ixI (siP f.ow) g.ss)) ∧ Grw W w') := fun W gw => sessPlace_any A.sa g.ss.length A.sc g.ss f.ow W (h.keep SeR.kp gw.below) rfl (by omega)
  clear h
  have hi := ixI_neg (p := siP f.ow) (xs := g.ss)
  have EQ : Hid (owP g.ss f = ((f.ow != 0) && !(g.ss.any (siP f.ow)))) := rfl
  rw [EQ.out]
  rw [← hi]
  clear hi EQ
  generalize ixI (siP f.ow) g.ss = r at HX ⊢
  by_cases h0 : f.ow = 0
  · have e0 : (f.ow != 0) = false := by simp [h0]
    rw [e0]
    go_enter Tryz.func158, Tryz.ntmps158
    go_wp2
    go_ret
    exact ⟨rfl, ((Grw.refl w).alloc _).alloc _⟩
  · have e0 : (f.ow != 0) = true := by simp [h0]
    rw [e0]
    clear h0
    go_enter Tryz.func158, Tryz.ntmps158
    go_wp2_with (go_at_call 209; refine (HX.out _ (((Grw.refl w).alloc _).alloc _)).mono ?_; rintro e w' ⟨rfl, g1⟩)
    go_ret
    exact ⟨by simp, (((Grw.refl w).alloc _).alloc _).trans g1⟩
set_option maxHeartbeats 2000000 in
theorem idxFlow_any (y : Option Addr) (n c : Nat) (xs : List FlowV) (p : FlowV → Bool) (B0 : Nat) (w : World) (h : Rw FlR 9 w y xs) (hl : xs.length = n) (hn : n ≤ 9223372036854775807)
    (hp : ∀ z, z ∈ xs → ∀ W, Below w.heap.size w W → Calls Tryz.prog 157 #[.agg #[.int .i64 z.pr, .string z.mc, .int .i64 z.si, .int .i64 z.sp, .int .i64 z.di, .int .i64 z.dp, .int .i64 z.st, .int .i64 z.un, .int .i64 z.ow], .pointer (some ⟨B0, 0, none⟩)] W fun e w' => e = .returned (.bool (p z)) ∧ Grw W w') :
    Calls Tryz.prog 208 #[.slice y n c, .func (.func 157) #[] #[.pointer (some ⟨B0, 0, none⟩)]] w fun e w' => e = .returned (.int .i64 (ixI p xs)) ∧ Grw w w' := by
  have RY : Hid (Rw FlR 9 w y xs) := h
  have HP0 : Hid (∀ z, z ∈ xs → ∀ W, Below w.heap.size w W → Calls Tryz.prog 157 #[.agg #[.int .i64 z.pr, .string z.mc, .int .i64 z.si, .int .i64 z.sp, .int .i64 z.di, .int .i64 z.dp, .int .i64 z.st, .int .i64 z.un, .int .i64 z.ow], .pointer (some ⟨B0, 0, none⟩)] W fun e w' => e = .returned (.bool (p z)) ∧ Grw W w') := hp
  clear h hp
  have eg : ∀ args w, (callFunc 157 args).run Tryz.prog w = .ok (.enter 157 args) w := enters_of Tryz.func157 (by kernel_rfl) rfl
  go_enter Tryz.func208, Tryz.ntmps208
  go_wp2
  go_loopw [8] (fun u wr => ∃ k : Nat, k ≤ n ∧ u = .int .i64 k ∧ Hid ((xs.take k).find? p = none) ∧ Hid (Grw w wr)) (fun u _ => n - (intOf u).toNat)
  case atStart => exact ⟨0, Nat.zero_le _, rfl, rfl, Grw.refl _⟩
  case round =>
    obtain ⟨k, hk, rfl, HO, HG⟩ := hrel
    by_cases hlt : k < n
    · obtain ⟨z, hx⟩ := at_of hl hlt
      obtain ⟨bk, off, vs, rfl, hb, hvl, hR, hc⟩ := RY.out.at FR.kp HG.out.below hx
      have HY : Hid (p z = true → ixI p xs = k) := fun h => ixI_at hx HO.out h
      have HN : Hid (p z = false → (xs.take (k + 1)).find? p = none) := fun h => ixI_no hx HO.out h
      obtain ⟨rfl, -⟩ := hR
      have q0 : wr.cell? ⟨bk, off + k * 9, none⟩ = some (.int .i64 z.pr) := hc 0 _ rfl
      have q1 : wr.cell? ⟨bk, off + k * 9 + 1, none⟩ = some (.string z.mc) := hc 1 _ rfl
      have q2 : wr.cell? ⟨bk, off + k * 9 + 2, none⟩ = some (.int .i64 z.si) := hc 2 _ rfl
      have q3 : wr.cell? ⟨bk, off + k * 9 + 3, none⟩ = some (.int .i64 z.sp) := hc 3 _ rfl
      have q4 : wr.cell? ⟨bk, off + k * 9 + 4, none⟩ = some (.int .i64 z.di) := hc 4 _ rfl
      have q5 : wr.cell? ⟨bk, off + k * 9 + 5, none⟩ = some (.int .i64 z.dp) := hc 5 _ rfl
      have q6 : wr.cell? ⟨bk, off + k * 9 + 6, none⟩ = some (.int .i64 z.st) := hc 6 _ rfl
      have q7 : wr.cell? ⟨bk, off + k * 9 + 7, none⟩ = some (.int .i64 z.un) := hc 7 _ rfl
      have q8 : wr.cell? ⟨bk, off + k * 9 + 8, none⟩ = some (.int .i64 z.ow) := hc 8 _ rfl
      have hltz : (k : Int) < (n : Int) := by omega
      have HP : Hid (∀ W, Grw w W → Calls Tryz.prog 157 #[.agg #[.int .i64 z.pr, .string z.mc, .int .i64 z.si, .int .i64 z.sp, .int .i64 z.di, .int .i64 z.dp, .int .i64 z.st, .int .i64 z.un, .int .i64 z.ow], .pointer (some ⟨B0, 0, none⟩)] W fun e w' => e = .returned (.bool (p z)) ∧ Grw W w') := fun W g => HP0.out z (List.mem_of_getElem? hx) W g.below
      generalize p z = u at HY HN HP
      clear hc hvl hx
      cases u with
      | false =>
        have HN' : Hid ((xs.take (k + 1)).find? p = none) := HN.out rfl
        clear HY HN
        go_wp2_with (go_at_fn 157; refine (HP.out _ HG.out).mono ?_; rintro e w' ⟨rfl, g1⟩)
        have HG1 : Hid (Grw w _) := HG.out.trans g1
        clear g1 HG
        go_roundw
        case rel => exact ⟨k + 1, by omega, by go_num, HN', HG1⟩
        case measure => simp [intOf]; omega
      | true =>
        have HY' : Hid (ixI p xs = k) := HY.out rfl
        clear HY HN
        go_wp2_with (go_at_fn 157; refine (HP.out _ HG.out).mono ?_; rintro e w' ⟨rfl, g1⟩)
        go_ret
        exact ⟨by rw [HY'.out]; rfl, HG.out.trans g1⟩
    · obtain rfl : k = n := by omega
      have hd : Hid (ixI p xs = -1) := ixI_end hl HO.out
      go_wp2
      go_ret
      exact ⟨by rw [hd.out]; rfl, HG.out⟩

set_option maxHeartbeats 2000000 in
theorem owners1_any (A : GtA) (g : GtV) (f : FlowV) (B : Nat) (w : World) (h : Rw SeR 10 w A.sa g.ss) (hn : g.ss.length ≤ 1048576) (hb : Bx w B [.int .i64 g.ip, .int .i64 g.b, .int .i64 g.gt, .string g.gm, .string g.wm, .int .i64 g.rs, .slice A.x g.ps.length A.xc, .slice A.y g.ros.length A.yc, .slice A.ua g.us.length A.uc, .slice A.sa g.ss.length A.sc, .slice A.fa g.fs.length A.fc, .slice A.ra g.es.length A.rc, .int .i64 g.nx, .slice A.la g.fl.length A.lc, .slice A.ca g.co.length A.cc, .int .i64 g.nw, .int .i64 g.dr, .int .i64 g.sn]) :
    Calls Tryz.prog 157 #[.agg #[.int .i64 f.pr, .string f.mc, .int .i64 f.si, .int .i64 f.sp, .int .i64 f.di, .int .i64 f.dp, .int .i64 f.st, .int .i64 f.un, .int .i64 f.ow], .pointer (some ⟨B, 0, none⟩)] w fun e w' => e = .returned (.bool (owP g.ss f)) ∧ Grw w w' := by
  have HX : Hid (∀ W, Grw w W → Calls Tryz.prog 158 #[.agg #[.slice A.ua g.us.length A.uc, .slice A.sa g.ss.length A.sc, .slice A.fa g.fs.length A.fc, .slice A.ra g.es.length A.rc, .int .i64 g.nx], .agg #[.int .i64 f.pr, .string f.mc, .int .i64 f.si, .int .i64 f.sp, .int .i64 f.di, .int .i64 f.dp, .int .i64 f.st, .int .i64 f.un, .int .i64 f.ow]] W fun e w' => e = .returned (.bool (owP g.ss f)) ∧ Grw W w') := fun W gw => ownerGone_any A g f W (h.keep SeR.kp gw.below) hn
  have HB : Hid (Bx (w.alloc (.cells #[.int .i64 f.pr, .string f.mc, .int .i64 f.si, .int .i64 f.sp, .int .i64 f.di, .int .i64 f.dp, .int .i64 f.st, .int .i64 f.un, .int .i64 f.ow] 122)) B [.int .i64 g.ip, .int .i64 g.b, .int .i64 g.gt, .string g.gm, .string g.wm, .int .i64 g.rs, .slice A.x g.ps.length A.xc, .slice A.y g.ros.length A.yc, .slice A.ua g.us.length A.uc, .slice A.sa g.ss.length A.sc, .slice A.fa g.fs.length A.fc, .slice A.ra g.es.length A.rc, .int .i64 g.nx, .slice A.la g.fl.length A.lc, .slice A.ca g.co.length A.cc, .int .i64 g.nw, .int .i64 g.dr, .int .i64 g.sn]) := hb.below ((Below.refl _ _).alloc (Nat.le_refl _) _)
  clear h hb
  generalize owP g.ss f = r at HX ⊢
  go_enter Tryz.func157, Tryz.ntmps157
  go_wp2_with (first | (refine wpl_getO 46 rfl _ rfl B 8 [.slice A.ua g.us.length A.uc, .slice A.sa g.ss.length A.sc, .slice A.fa g.fs.length A.fc, .slice A.ra g.es.length A.rc, .int .i64 g.nx] rfl HB.out rfl _ Tryz.underlying46 rfl rfl ?_) | (go_at_call 158; refine (HX.out _ ((Grw.refl w).alloc _)).mono ?_; rintro e w' ⟨rfl, g1⟩) | fail)
  go_ret
  exact ⟨rfl, ((Grw.refl w).alloc _).trans g1⟩
set_option maxHeartbeats 2000000 in
theorem ownersOK_any (A : GtA) (g : GtV) (w : World) (h : Rw SeR 10 w A.sa g.ss) (h2 : Rw FlR 9 w A.la g.fl) (hn : g.ss.length ≤ 1048576) (hf : g.fl.length ≤ 1048576) :
    Calls Tryz.prog 82 #[.agg #[.int .i64 g.ip, .int .i64 g.b, .int .i64 g.gt, .string g.gm, .string g.wm, .int .i64 g.rs, .slice A.x g.ps.length A.xc, .slice A.y g.ros.length A.yc, .slice A.ua g.us.length A.uc, .slice A.sa g.ss.length A.sc, .slice A.fa g.fs.length A.fc, .slice A.ra g.es.length A.rc, .int .i64 g.nx, .slice A.la g.fl.length A.lc, .slice A.ca g.co.length A.cc, .int .i64 g.nw, .int .i64 g.dr, .int .i64 g.sn]] w fun e w' => e = .returned (.bool (owB g.ss g.fl)) ∧ Grw w w' := by
  have HX : Hid (∀ W B, Grw w W → Bx W B [.int .i64 g.ip, .int .i64 g.b, .int .i64 g.gt, .string g.gm, .string g.wm, .int .i64 g.rs, .slice A.x g.ps.length A.xc, .slice A.y g.ros.length A.yc, .slice A.ua g.us.length A.uc, .slice A.sa g.ss.length A.sc, .slice A.fa g.fs.length A.fc, .slice A.ra g.es.length A.rc, .int .i64 g.nx, .slice A.la g.fl.length A.lc, .slice A.ca g.co.length A.cc, .int .i64 g.nw, .int .i64 g.dr, .int .i64 g.sn] → Calls Tryz.prog 208 #[.slice A.la g.fl.length A.lc, .func (.func 157) #[] #[.pointer (some ⟨B, 0, none⟩)]] W fun e w' => e = .returned (.int .i64 (ixI (owP g.ss) g.fl)) ∧ Grw W w') := fun W B gw hc => idxFlow_any A.la g.fl.length A.lc g.fl (owP g.ss) B W (h2.keep FR.kp gw.below) rfl (by omega) (fun z _ W2 b2 => owners1_any A g z B W2 (h.keep SeR.kp (gw.below.trans (b2.mono gw.below.size))) hn (hc.below b2))
  clear h h2
  have hi := ixI_pos (p := owP g.ss) (xs := g.fl)
  unfold owB
  rw [← hi]
  clear hi
  generalize ixI (owP g.ss) g.fl = r at HX ⊢
  have HQ : Hid (∀ W B, Grw w W → Bx W B [.int .i64 g.ip, .int .i64 g.b, .int .i64 g.gt, .string g.gm, .string g.wm, .int .i64 g.rs, .slice A.x g.ps.length A.xc, .slice A.y g.ros.length A.yc, .slice A.ua g.us.length A.uc, .slice A.sa g.ss.length A.sc, .slice A.fa g.fs.length A.fc, .slice A.ra g.es.length A.rc, .int .i64 g.nx, .slice A.la g.fl.length A.lc, .slice A.ca g.co.length A.cc, .int .i64 g.nw, .int .i64 g.dr, .int .i64 g.sn] → Calls Tryz.prog 156 #[.slice A.la g.fl.length A.lc, .func (.func 157) #[] #[.pointer (some ⟨B, 0, none⟩)]] W fun e w' => e = .returned (.bool (decide (0 ≤ r))) ∧ Grw W w') := by
    intro W B gw hb
    have HX2 := HX.out W B gw hb
    clear HX hb
    go_enter Tryz.func156, Tryz.ntmps156
    go_wp2_with (go_at_call 208; refine HX2.mono ?_; rintro e w' ⟨rfl, g1⟩)
    go_ret
    exact ⟨rfl, g1⟩
  clear HX
  have HB : Hid (Bx (w.alloc (.cells #[.int .i64 g.ip, .int .i64 g.b, .int .i64 g.gt, .string g.gm, .string g.wm, .int .i64 g.rs, .slice A.x g.ps.length A.xc, .slice A.y g.ros.length A.yc, .slice A.ua g.us.length A.uc, .slice A.sa g.ss.length A.sc, .slice A.fa g.fs.length A.fc, .slice A.ra g.es.length A.rc, .int .i64 g.nx, .slice A.la g.fl.length A.lc, .slice A.ca g.co.length A.cc, .int .i64 g.nw, .int .i64 g.dr, .int .i64 g.sn] 50)) w.heap.size [.int .i64 g.ip, .int .i64 g.b, .int .i64 g.gt, .string g.gm, .string g.wm, .int .i64 g.rs, .slice A.x g.ps.length A.xc, .slice A.y g.ros.length A.yc, .slice A.ua g.us.length A.uc, .slice A.sa g.ss.length A.sc, .slice A.fa g.fs.length A.fc, .slice A.ra g.es.length A.rc, .int .i64 g.nx, .slice A.la g.fl.length A.lc, .slice A.ca g.co.length A.cc, .int .i64 g.nw, .int .i64 g.dr, .int .i64 g.sn]) := Bx.new w #[.int .i64 g.ip, .int .i64 g.b, .int .i64 g.gt, .string g.gm, .string g.wm, .int .i64 g.rs, .slice A.x g.ps.length A.xc, .slice A.y g.ros.length A.yc, .slice A.ua g.us.length A.uc, .slice A.sa g.ss.length A.sc, .slice A.fa g.fs.length A.fc, .slice A.ra g.es.length A.rc, .int .i64 g.nx, .slice A.la g.fl.length A.lc, .slice A.ca g.co.length A.cc, .int .i64 g.nw, .int .i64 g.dr, .int .i64 g.sn] 50
  go_enter Tryz.func82, Tryz.ntmps82
  go_wp2_with (go_at_call 156; refine (HQ.out _ _ ((Grw.refl w).alloc _) HB.out).mono ?_; rintro e w' ⟨rfl, g1⟩)
  go_ret
  exact ⟨rfl, ((Grw.refl w).alloc _).trans g1⟩
theorem rw_take {α : Type} {R : World → α → List Value → Prop} {K : Nat} {w : World} {a : Option Addr} {xs : List α} (h : Rw R K w a xs) (k : Nat) : Rw R K w a (xs.take k) := by
  intro h0
  obtain ⟨b, off, rfl, hlt, hc⟩ := h (by simp at h0; omega)
  refine ⟨b, off, rfl, hlt, fun i x hx => ?_⟩
  have hi : i < k := by
    have := (List.getElem?_eq_some_iff.1 hx).1
    simp at this; omega
  rw [List.getElem?_take_of_lt hi] at hx
  exact hc i x hx
set_option maxHeartbeats 2000000 in
theorem idxConn_any (y : Option Addr) (n c : Nat) (xs : List ConnV) (p : ConnV → Bool) (B0 : Nat) (B1 : Nat) (B2 : Nat) (w : World) (h : Rw CnR 11 w y xs) (hl : xs.length = n) (hn : n ≤ 9223372036854775807)
    (hp : ∀ z, z ∈ xs → ∀ W, Below w.heap.size w W → Calls Tryz.prog 215 #[.agg #[.string z.mc, .int .i64 z.ip, .int .i64 z.po, .int .i64 z.di, .int .i64 z.st, .int .i64 z.un, .int .i64 z.nx, .int .i64 z.wa, .string z.inn, .string z.out, .bool z.fin], .pointer (some ⟨B0, 0, none⟩), .pointer (some ⟨B1, 0, none⟩), .pointer (some ⟨B2, 0, none⟩)] W fun e w' => e = .returned (.bool (p z)) ∧ Grw W w') :
    Calls Tryz.prog 214 #[.slice y n c, .func (.func 215) #[] #[.pointer (some ⟨B0, 0, none⟩), .pointer (some ⟨B1, 0, none⟩), .pointer (some ⟨B2, 0, none⟩)]] w fun e w' => e = .returned (.int .i64 (ixI p xs)) ∧ Grw w w' := by
  have RY : Hid (Rw CnR 11 w y xs) := h
  have HP0 : Hid (∀ z, z ∈ xs → ∀ W, Below w.heap.size w W → Calls Tryz.prog 215 #[.agg #[.string z.mc, .int .i64 z.ip, .int .i64 z.po, .int .i64 z.di, .int .i64 z.st, .int .i64 z.un, .int .i64 z.nx, .int .i64 z.wa, .string z.inn, .string z.out, .bool z.fin], .pointer (some ⟨B0, 0, none⟩), .pointer (some ⟨B1, 0, none⟩), .pointer (some ⟨B2, 0, none⟩)] W fun e w' => e = .returned (.bool (p z)) ∧ Grw W w') := hp
  clear h hp
  have eg : ∀ args w, (callFunc 215 args).run Tryz.prog w = .ok (.enter 215 args) w := enters_of Tryz.func215 (by kernel_rfl) rfl
  go_enter Tryz.func214, Tryz.ntmps214
  go_wp2
  go_loopw [8] (fun u wr => ∃ k : Nat, k ≤ n ∧ u = .int .i64 k ∧ Hid ((xs.take k).find? p = none) ∧ Hid (Grw w wr)) (fun u _ => n - (intOf u).toNat)
  case atStart => exact ⟨0, Nat.zero_le _, rfl, rfl, Grw.refl _⟩
  case round =>
    obtain ⟨k, hk, rfl, HO, HG⟩ := hrel
    by_cases hlt : k < n
    · obtain ⟨z, hx⟩ := at_of hl hlt
      obtain ⟨bk, off, vs, rfl, hb, hvl, hR, hc⟩ := RY.out.at FR.kp HG.out.below hx
      have HY : Hid (p z = true → ixI p xs = k) := fun h => ixI_at hx HO.out h
      have HN : Hid (p z = false → (xs.take (k + 1)).find? p = none) := fun h => ixI_no hx HO.out h
      obtain ⟨rfl, -⟩ := hR
      have q0 : wr.cell? ⟨bk, off + k * 11, none⟩ = some (.string z.mc) := hc 0 _ rfl
      have q1 : wr.cell? ⟨bk, off + k * 11 + 1, none⟩ = some (.int .i64 z.ip) := hc 1 _ rfl
      have q2 : wr.cell? ⟨bk, off + k * 11 + 2, none⟩ = some (.int .i64 z.po) := hc 2 _ rfl
      have q3 : wr.cell? ⟨bk, off + k * 11 + 3, none⟩ = some (.int .i64 z.di) := hc 3 _ rfl
      have q4 : wr.cell? ⟨bk, off + k * 11 + 4, none⟩ = some (.int .i64 z.st) := hc 4 _ rfl
      have q5 : wr.cell? ⟨bk, off + k * 11 + 5, none⟩ = some (.int .i64 z.un) := hc 5 _ rfl
      have q6 : wr.cell? ⟨bk, off + k * 11 + 6, none⟩ = some (.int .i64 z.nx) := hc 6 _ rfl
      have q7 : wr.cell? ⟨bk, off + k * 11 + 7, none⟩ = some (.int .i64 z.wa) := hc 7 _ rfl
      have q8 : wr.cell? ⟨bk, off + k * 11 + 8, none⟩ = some (.string z.inn) := hc 8 _ rfl
      have q9 : wr.cell? ⟨bk, off + k * 11 + 9, none⟩ = some (.string z.out) := hc 9 _ rfl
      have q10 : wr.cell? ⟨bk, off + k * 11 + 10, none⟩ = some (.bool z.fin) := hc 10 _ rfl
      have hltz : (k : Int) < (n : Int) := by omega
      have HP : Hid (∀ W, Grw w W → Calls Tryz.prog 215 #[.agg #[.string z.mc, .int .i64 z.ip, .int .i64 z.po, .int .i64 z.di, .int .i64 z.st, .int .i64 z.un, .int .i64 z.nx, .int .i64 z.wa, .string z.inn, .string z.out, .bool z.fin], .pointer (some ⟨B0, 0, none⟩), .pointer (some ⟨B1, 0, none⟩), .pointer (some ⟨B2, 0, none⟩)] W fun e w' => e = .returned (.bool (p z)) ∧ Grw W w') := fun W g => HP0.out z (List.mem_of_getElem? hx) W g.below
      generalize p z = u at HY HN HP
      clear hc hvl hx
      cases u with
      | false =>
        have HN' : Hid ((xs.take (k + 1)).find? p = none) := HN.out rfl
        clear HY HN
        go_wp2_with (go_at_fn 215; refine (HP.out _ HG.out).mono ?_; rintro e w' ⟨rfl, g1⟩)
        have HG1 : Hid (Grw w _) := HG.out.trans g1
        clear g1 HG
        go_roundw
        case rel => exact ⟨k + 1, by omega, by go_num, HN', HG1⟩
        case measure => simp [intOf]; omega
      | true =>
        have HY' : Hid (ixI p xs = k) := HY.out rfl
        clear HY HN
        go_wp2_with (go_at_fn 215; refine (HP.out _ HG.out).mono ?_; rintro e w' ⟨rfl, g1⟩)
        go_ret
        exact ⟨by rw [HY'.out]; rfl, HG.out.trans g1⟩
    · obtain rfl : k = n := by omega
      have hd : Hid (ixI p xs = -1) := ixI_end hl HO.out
      go_wp2
      go_ret
      exact ⟨by rw [hd.out]; rfl, HG.out⟩

set_option maxHeartbeats 1000000 in
theorem connPlace1_any (z : ConnV) (ip po di : Int) (B0 B1 B2 : Nat) (w : World) (h0 : w.cell? ⟨B0, 0, none⟩ = some (.int .i64 ip)) (h1 : w.cell? ⟨B1, 0, none⟩ = some (.int .i64 po)) (h2 : w.cell? ⟨B2, 0, none⟩ = some (.int .i64 di)) :
    Calls Tryz.prog 215 #[.agg #[.string z.mc, .int .i64 z.ip, .int .i64 z.po, .int .i64 z.di, .int .i64 z.st, .int .i64 z.un, .int .i64 z.nx, .int .i64 z.wa, .string z.inn, .string z.out, .bool z.fin], .pointer (some ⟨B0, 0, none⟩), .pointer (some ⟨B1, 0, none⟩), .pointer (some ⟨B2, 0, none⟩)] w fun e w' => e = .returned (.bool (cnP ip po di z)) ∧ Grw w w' := by
  have c0 := acell h0 (.cells #[.string z.mc, .int .i64 z.ip, .int .i64 z.po, .int .i64 z.di, .int .i64 z.st, .int .i64 z.un, .int .i64 z.nx, .int .i64 z.wa, .string z.inn, .string z.out, .bool z.fin] 206)
  have c1 := acell h1 (.cells #[.string z.mc, .int .i64 z.ip, .int .i64 z.po, .int .i64 z.di, .int .i64 z.st, .int .i64 z.un, .int .i64 z.nx, .int .i64 z.wa, .string z.inn, .string z.out, .bool z.fin] 206)
  have c2 := acell h2 (.cells #[.string z.mc, .int .i64 z.ip, .int .i64 z.po, .int .i64 z.di, .int .i64 z.st, .int .i64 z.un, .int .i64 z.nx, .int .i64 z.wa, .string z.inn, .string z.out, .bool z.fin] 206)
  have EQ : Hid (cnP ip po di z = ((z.ip == ip) && ((z.po == po) && (z.di == di)))) := rfl
  rw [EQ.out]
  clear h0 h1 h2 EQ
  obtain ⟨u0, hu0⟩ : ∃ u, (z.ip == ip) = u := ⟨_, rfl⟩
  obtain ⟨u1, hu1⟩ : ∃ u, (z.po == po) = u := ⟨_, rfl⟩
  obtain ⟨u2, hu2⟩ : ∃ u, (z.di == di) = u := ⟨_, rfl⟩
  rw [hu0, hu1, hu2]
  cases u0 <;> cases u1 <;> cases u2 <;>
  · go_enter Tryz.func215, Tryz.ntmps215
    go_wp2
    go_ret
    exact ⟨by first | rfl | (simp [*]; done), (Grw.refl _).alloc _⟩
set_option maxHeartbeats 1000000 in
theorem connPlace_any (a : Option Addr) (n c : Nat) (co : List ConnV) (ip po di : Int) (w : World) (h : Rw CnR 11 w a co) (hl : co.length = n) (hn : n ≤ 9223372036854775807) :
    Calls Tryz.prog 160 #[.slice a n c, .int .i64 ip, .int .i64 po, .int .i64 di] w fun e w' => e = .returned (.int .i64 (ixI (cnP ip po di) co)) ∧ Grw w w' := by
  have HX : Hid (∀ W B0 B1 B2, Grw w W → W.cell? ⟨B0, 0, none⟩ = some (.int .i64 ip) → W.cell? ⟨B1, 0, none⟩ = some (.int .i64 po) → W.cell? ⟨B2, 0, none⟩ = some (.int .i64 di) → Calls Tryz.prog 214 #[.slice a n c, .func (.func 215) #[] #[.pointer (some ⟨B0, 0, none⟩), .pointer (some ⟨B1, 0, none⟩), .pointer (some ⟨B2, 0, none⟩)]] W fun e w' => e = .returned (.int .i64 (ixI (cnP ip po di) co)) ∧ Grw W w') := fun W B0 B1 B2 g h0 h1 h2 => idxConn_any a n c co (cnP ip po di) B0 B1 B2 W (h.keep FR.kp g.below) hl hn (fun z _ W2 b2 => connPlace1_any z ip po di B0 B1 B2 W2 (bkeep b2 h0) (bkeep b2 h1) (bkeep b2 h2))
  clear h
  generalize ixI (cnP ip po di) co = r at HX ⊢
  go_enter Tryz.func160, Tryz.ntmps160
  go_wp2_with (go_at_call 214; refine (HX.out _ _ _ _ ((((Grw.refl w).alloc _).alloc _).alloc _) (by simp [go_sem]) (by simp [go_sem]) (by simp [go_sem])).mono ?_; rintro e w' ⟨rfl, g1⟩)
  go_ret
  exact ⟨rfl, ((((Grw.refl w).alloc _).alloc _).alloc _).trans g1⟩
set_option maxHeartbeats 4000000 in
theorem connsOK_any (a : Option Addr) (n c : Nat) (co : List ConnV) (w : World) (h : Rw CnR 11 w a co) (hl : co.length = n) (hn : n ≤ 1048576) (hcap : n ≤ c) (hsz : ∀ x, x ∈ co → (x.mc.size : Int) ≤ 1048576 ∧ (x.inn.size : Int) ≤ 1048576 ∧ (x.out.size : Int) ≤ 1048576) :
    Calls Tryz.prog 83 #[.slice a n c] w fun e w' => e = .returned (.bool (cnB co)) ∧ Grw w w' := by
  have RW : Hid (Rw CnR 11 w a co) := h
  have SZ : Hid (∀ x, x ∈ co → (x.mc.size : Int) ≤ 1048576 ∧ (x.inn.size : Int) ≤ 1048576 ∧ (x.out.size : Int) ≤ 1048576) := hsz
  have hmix : Tryz.prog.follows .mixedOrders = true := by kernel_rfl
  clear h hsz
  by_cases h3 : 3 < n
  · have hz : (3 : Int) < (n : Int) := by omega
    have hd : Hid (cnB co = false) := cnB_long (by omega)
    go_enter Tryz.func83, Tryz.ntmps83
    go_wp2
    go_ret
    exact ⟨by rw [hd.out]; rfl, Grw.refl _⟩
  have h3z : decide ((3 : Int) < (n : Int)) = false := by simp; omega
  have hle : decide ((n : Int) ≤ 3) = true := by simp; omega
  go_enter Tryz.func83, Tryz.ntmps83
  go_wp2
  go_loopw [10] (fun x wr => ∃ k : Nat, k ≤ n ∧ x = .int .i64 k ∧ Hid (cnOk co k) ∧ Hid (Grw w wr)) (fun x _ => n - (intOf x).toNat)
  case atStart => exact ⟨0, Nat.zero_le _, rfl, cnOk_zero co, Grw.refl _⟩
  case round =>
    obtain ⟨k, hk, rfl, HO, HG⟩ := hrel
    by_cases hlt : k < n
    · obtain ⟨x, hx⟩ := at_of hl hlt
      have hltz : (k : Int) < (n : Int) := by omega
      have hkc : (k : Int) ≤ (c : Int) := by omega
      have hk0 : (0 : Int) ≤ (k : Int) := by omega
      obtain ⟨b, off, vs, rfl, hb, hvl, hR, hc⟩ := RW.out.at FR.kp HG.out.below hx
      have SX := SZ.out _ (List.mem_of_getElem? hx)
      have HN : Hid (cnAt co k x = false → cnB co = false) := fun h => cnB_no hx h
      have HY : Hid (cnAt co k x = true → cnOk co (k + 1)) := fun h => cnOk_step HO.out hx h
      have RT : Hid (Rw CnR 11 w (some ⟨b, off, none⟩) (co.take k)) := rw_take RW.out k
      have LT : (co.take k).length = k := by rw [List.length_take]; omega
      obtain ⟨mc, ip, po, di, st, un, nx, wa, inn, out, fin⟩ := x
      obtain ⟨rfl, hok⟩ := hR
      have E : Hid (cnAt co k ⟨mc, ip, po, di, st, un, nx, wa, inn, out, fin⟩ = (okB ⟨mc, ip, po, di, st, un, nx, wa, inn, out, fin⟩ && (!(st == 4) && !((co.take k).any (cnP ip po di))))) := rfl
      rw [E.out] at HN HY
      clear E
      have q0 : wr.cell? ⟨b, off + k * 11, none⟩ = some (.string mc) := hc 0 _ rfl
      have q1 : wr.cell? ⟨b, off + k * 11 + 1, none⟩ = some (.int .i64 ip) := hc 1 _ rfl
      have q2 : wr.cell? ⟨b, off + k * 11 + 2, none⟩ = some (.int .i64 po) := hc 2 _ rfl
      have q3 : wr.cell? ⟨b, off + k * 11 + 3, none⟩ = some (.int .i64 di) := hc 3 _ rfl
      have q4 : wr.cell? ⟨b, off + k * 11 + 4, none⟩ = some (.int .i64 st) := hc 4 _ rfl
      have q5 : wr.cell? ⟨b, off + k * 11 + 5, none⟩ = some (.int .i64 un) := hc 5 _ rfl
      have q6 : wr.cell? ⟨b, off + k * 11 + 6, none⟩ = some (.int .i64 nx) := hc 6 _ rfl
      have q7 : wr.cell? ⟨b, off + k * 11 + 7, none⟩ = some (.int .i64 wa) := hc 7 _ rfl
      have q8 : wr.cell? ⟨b, off + k * 11 + 8, none⟩ = some (.string inn) := hc 8 _ rfl
      have q9 : wr.cell? ⟨b, off + k * 11 + 9, none⟩ = some (.string out) := hc 9 _ rfl
      have q10 : wr.cell? ⟨b, off + k * 11 + 10, none⟩ = some (.bool fin) := hc 10 _ rfl
      have wpo : po ≤ 9223372036854775807 := (bounds_i64 hok.2.2.1).2
      clear hc hvl hok
      have HF : Hid (∀ w, Calls Tryz.prog 159 #[.agg #[.string mc, .int .i64 ip, .int .i64 po, .int .i64 di, .int .i64 st, .int .i64 un, .int .i64 nx, .int .i64 wa, .string inn, .string out, .bool fin]] w fun e w' => e = .returned (.bool (okB ⟨mc, ip, po, di, st, un, nx, wa, inn, out, fin⟩)) ∧ Grw w w') := fun w => implConOK_any mc ip po di st un nx wa inn out fin w wpo (by have := SX.1; dsimp only at this; omega) (by have := SX.2.1; dsimp only at this; omega) (by have := SX.2.2; dsimp only at this; omega)
      have HP : Hid (∀ W, Grw w W → Calls Tryz.prog 160 #[.slice (some ⟨b, off, none⟩) k c, .int .i64 ip, .int .i64 po, .int .i64 di] W fun e w' => e = .returned (.int .i64 (ixI (cnP ip po di) (co.take k))) ∧ Grw W w') := fun W g => connPlace_any _ k c (co.take k) ip po di W (RT.out.keep FR.kp g.below) LT (by omega)
      have hip := ixI_pos (p := cnP ip po di) (xs := co.take k)
      rw [← hip] at HN HY
      clear hip RT LT SX
      generalize okB ⟨mc, ip, po, di, st, un, nx, wa, inn, out, fin⟩ = z1 at HF HN HY
      generalize ixI (cnP ip po di) (co.take k) = r at HP HN HY
      clear hx HO
      have m0 : ∀ n os, (grow ((wr.alloc (.cells #[.string mc, .int .i64 ip, .int .i64 po, .int .i64 di, .int .i64 st, .int .i64 un, .int .i64 nx, .int .i64 wa, .string inn, .string out, .bool fin] 206)).drewN n) os).cell? ⟨wr.heap.size, 0, none⟩ = some (.string mc) := fun n os => cell_grown (by simp) (by simp [go_sem]) n os
      have m1 : ∀ n os, (grow ((wr.alloc (.cells #[.string mc, .int .i64 ip, .int .i64 po, .int .i64 di, .int .i64 st, .int .i64 un, .int .i64 nx, .int .i64 wa, .string inn, .string out, .bool fin] 206)).drewN n) os).cell? ⟨wr.heap.size, 1, none⟩ = some (.int .i64 ip) := fun n os => cell_grown (by simp) (by simp [go_sem]) n os
      have m2 : ∀ n os, (grow ((wr.alloc (.cells #[.string mc, .int .i64 ip, .int .i64 po, .int .i64 di, .int .i64 st, .int .i64 un, .int .i64 nx, .int .i64 wa, .string inn, .string out, .bool fin] 206)).drewN n) os).cell? ⟨wr.heap.size, 2, none⟩ = some (.int .i64 po) := fun n os => cell_grown (by simp) (by simp [go_sem]) n os
      have m3 : ∀ n os, (grow ((wr.alloc (.cells #[.string mc, .int .i64 ip, .int .i64 po, .int .i64 di, .int .i64 st, .int .i64 un, .int .i64 nx, .int .i64 wa, .string inn, .string out, .bool fin] 206)).drewN n) os).cell? ⟨wr.heap.size, 3, none⟩ = some (.int .i64 di) := fun n os => cell_grown (by simp) (by simp [go_sem]) n os
      have m4 : ∀ n os, (grow ((wr.alloc (.cells #[.string mc, .int .i64 ip, .int .i64 po, .int .i64 di, .int .i64 st, .int .i64 un, .int .i64 nx, .int .i64 wa, .string inn, .string out, .bool fin] 206)).drewN n) os).cell? ⟨wr.heap.size, 4, none⟩ = some (.int .i64 st) := fun n os => cell_grown (by simp) (by simp [go_sem]) n os
      have m5 : ∀ n os, (grow ((wr.alloc (.cells #[.string mc, .int .i64 ip, .int .i64 po, .int .i64 di, .int .i64 st, .int .i64 un, .int .i64 nx, .int .i64 wa, .string inn, .string out, .bool fin] 206)).drewN n) os).cell? ⟨wr.heap.size, 5, none⟩ = some (.int .i64 un) := fun n os => cell_grown (by simp) (by simp [go_sem]) n os
      have m6 : ∀ n os, (grow ((wr.alloc (.cells #[.string mc, .int .i64 ip, .int .i64 po, .int .i64 di, .int .i64 st, .int .i64 un, .int .i64 nx, .int .i64 wa, .string inn, .string out, .bool fin] 206)).drewN n) os).cell? ⟨wr.heap.size, 6, none⟩ = some (.int .i64 nx) := fun n os => cell_grown (by simp) (by simp [go_sem]) n os
      have m7 : ∀ n os, (grow ((wr.alloc (.cells #[.string mc, .int .i64 ip, .int .i64 po, .int .i64 di, .int .i64 st, .int .i64 un, .int .i64 nx, .int .i64 wa, .string inn, .string out, .bool fin] 206)).drewN n) os).cell? ⟨wr.heap.size, 7, none⟩ = some (.int .i64 wa) := fun n os => cell_grown (by simp) (by simp [go_sem]) n os
      have m8 : ∀ n os, (grow ((wr.alloc (.cells #[.string mc, .int .i64 ip, .int .i64 po, .int .i64 di, .int .i64 st, .int .i64 un, .int .i64 nx, .int .i64 wa, .string inn, .string out, .bool fin] 206)).drewN n) os).cell? ⟨wr.heap.size, 8, none⟩ = some (.string inn) := fun n os => cell_grown (by simp) (by simp [go_sem]) n os
      have m9 : ∀ n os, (grow ((wr.alloc (.cells #[.string mc, .int .i64 ip, .int .i64 po, .int .i64 di, .int .i64 st, .int .i64 un, .int .i64 nx, .int .i64 wa, .string inn, .string out, .bool fin] 206)).drewN n) os).cell? ⟨wr.heap.size, 9, none⟩ = some (.string out) := fun n os => cell_grown (by simp) (by simp [go_sem]) n os
      have m10 : ∀ n os, (grow ((wr.alloc (.cells #[.string mc, .int .i64 ip, .int .i64 po, .int .i64 di, .int .i64 st, .int .i64 un, .int .i64 nx, .int .i64 wa, .string inn, .string out, .bool fin] 206)).drewN n) os).cell? ⟨wr.heap.size, 10, none⟩ = some (.bool fin) := fun n os => cell_grown (by simp) (by simp [go_sem]) n os
      have HGA : Hid (Grw w (wr.alloc (.cells #[.string mc, .int .i64 ip, .int .i64 po, .int .i64 di, .int .i64 st, .int .i64 un, .int .i64 nx, .int .i64 wa, .string inn, .string out, .bool fin] 206))) := HG.out.alloc _
      cases z1 with
      | false =>
        have hd : Hid (cnB co = false) := HN.out rfl
        clear HN HY HG
        go_wp2_with fail
        refine wp_region_quiet_grown (by assumption) (by kernel_rfl) ?_
        repeat (go_big_quiet_step (first | fail | (first | (go_at_call 159; exact Calls.grown_of (HF.out _)) | (go_at_call 160; exact Calls.grown_of (HP.out _ (HGA.out.trans ⟨_, _, rfl⟩))))))
        refine wpQuiet_nil ?_
        intro _ hw'
        obtain ⟨⟨nq, osq⟩, hw''⟩ := hw'
        subst hw''
        go_wp2
        go_ret
        exact ⟨by rw [hd.out]; rfl, HGA.out.trans ⟨nq, osq, rfl⟩⟩
      | true =>
        by_cases h4 : st = 4
        · have h4z : (st == 4) = true := by simp [h4]
          rw [h4z] at HN
          have hd : Hid (cnB co = false) := HN.out rfl
          clear HN HY h4 HG
          go_wp2_with fail
          refine wp_region_quiet_grown (by assumption) (by kernel_rfl) ?_
          repeat (go_big_quiet_step (first | fail | (first | (go_at_call 159; exact Calls.grown_of (HF.out _)) | (go_at_call 160; exact Calls.grown_of (HP.out _ (HGA.out.trans ⟨_, _, rfl⟩))))))
          refine wpQuiet_nil ?_
          intro _ hw'
          obtain ⟨⟨nq, osq⟩, hw''⟩ := hw'
          subst hw''
          go_wp2
          go_ret
          exact ⟨by rw [hd.out]; rfl, HGA.out.trans ⟨nq, osq, rfl⟩⟩
        have h4z : (st == 4) = false := by simp [h4]
        rw [h4z] at HN HY
        clear h4
        by_cases hr : 0 ≤ r
        · have hd : Hid (cnB co = false) := HN.out (by simp [hr])
          have hrz : decide (0 ≤ r) = true := by simp [hr]
          clear HN HY HG
          go_wp2_with fail
          refine wp_region_quiet_grown (by assumption) (by kernel_rfl) ?_
          repeat (go_big_quiet_step (first | fail | (first | (go_at_call 159; exact Calls.grown_of (HF.out _)) | (go_at_call 160; exact Calls.grown_of (HP.out _ (HGA.out.trans ⟨_, _, rfl⟩))))))
          refine wpQuiet_nil ?_
          intro _ hw'
          obtain ⟨⟨nq, osq⟩, hw''⟩ := hw'
          subst hw''
          go_wp2
          go_ret
          exact ⟨by rw [hd.out]; rfl, HGA.out.trans ⟨nq, osq, rfl⟩⟩
        have HO2 : Hid (cnOk co (k + 1)) := HY.out (by simp; omega)
        have hrz : decide (0 ≤ r) = false := by simp; omega
        clear HN HY HG
        go_wp2_with fail
        refine wp_region_quiet_grown (by assumption) (by kernel_rfl) ?_
        repeat (go_big_quiet_step (first | fail | (first | (go_at_call 159; exact Calls.grown_of (HF.out _)) | (go_at_call 160; exact Calls.grown_of (HP.out _ (HGA.out.trans ⟨_, _, rfl⟩))))))
        refine wpQuiet_nil ?_
        intro _ hw'
        obtain ⟨⟨nq, osq⟩, hw''⟩ := hw'
        subst hw''
        have HG2 : Hid (Grw w (grow ((wr.alloc (.cells #[.string mc, .int .i64 ip, .int .i64 po, .int .i64 di, .int .i64 st, .int .i64 un, .int .i64 nx, .int .i64 wa, .string inn, .string out, .bool fin] 206)).drewN nq) osq)) := HGA.out.trans ⟨nq, osq, rfl⟩
        clear HGA HP HF
        go_wp2
        go_roundw
        case rel => exact ⟨k + 1, by omega, by go_num, HO2, HG2⟩
        case measure => simp [intOf]; omega
    · obtain rfl : k = n := by omega
      have hd : Hid (cnB co = true) := by show _ = _; rw [cnB_of hl HO.out, hle]
      clear HO
      go_wp2
      go_ret
      exact ⟨by rw [hd.out]; rfl, HG.out⟩
end Go.Proofs.YtlebblmlbhnppaaGreat
