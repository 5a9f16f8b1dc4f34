/- sessionPlace, ownersOK, connPlace, connsOK and GatewayOK of the program. What the sizes of users say. GatewayOK of the program. marksOf and BytesHold of the program. The model's l08Role, l08Users. The model's GuestsOK. The model's flows: l09Same, l09Flow, FlowsOK, l09Find, FlowFind. -/
import Derived.Test.YtlebblmlbhnppaaGreatJ3
import Derived.Test.YtlebblmlbhnppaaGreatJ4
import Derived.Test.YtlebblmlbhnppaaGreatJ2
import Derived.Laws.Cover1
namespace Go.Proofs.YtlebblmlbhnppaaGreat
open Go.RowKit Go.PlainAid Go.Proofs.YtlebblmlbhnppaaGreat.Bt Go.Sort
set_option linter.unusedVariables false
set_option maxRecDepth 20000
set_option maxHeartbeats 2000000 in
theorem idxSess_any (y : Option Addr) (n c : Nat) (xs : List SessV) (p : SessV → Bool) (B0 : Nat) (w : World) (h : Rw SeR 10 w y xs) (hl : xs.length = n) (hn : n ≤ 9223372036854775807)
    (hp : ∀ z, z ∈ xs → ∀ W, Below w.heap.size w W → Calls Tryz.prog 252 #[.agg #[.int .i64 z.id, .int .i64 z.us, .string z.mc, .int .i64 z.ip, .int .i64 z.be, .int .i64 z.la, .int .i64 z.ud, .int .i64 z.qu, .int .i64 z.un, .int .i64 z.il], .pointer (some ⟨B0, 0, none⟩)] W fun e w' => e = .returned (.bool (p z)) ∧ Grw W w') :
    Calls Tryz.prog 251 #[.slice y n c, .func (.func 252) #[] #[.pointer (some ⟨B0, 0, none⟩)]] w fun e w' => e = .returned (.int .i64 (ixI p xs)) ∧ Grw w w' := by
  have RY : Hid (Rw SeR 10 w y xs) := h
  have HP0 : Hid (∀ z, z ∈ xs → ∀ W, Below w.heap.size w W → Calls Tryz.prog 252 #[.agg #[.int .i64 z.id, .int .i64 z.us, .string z.mc, .int .i64 z.ip, .int .i64 z.be, .int .i64 z.la, .int .i64 z.ud, .int .i64 z.qu, .int .i64 z.un, .int .i64 z.il], .pointer (some ⟨B0, 0, none⟩)] W fun e w' => e = .returned (.bool (p z)) ∧ Grw W w') := hp
  clear h hp
  have eg : ∀ args w, (callFunc 252 args).run Tryz.prog w = .ok (.enter 252 args) w := enters_of Tryz.func252 (by kernel_rfl) rfl
  go_enter Tryz.func251, Tryz.ntmps251
  go_wp2
  go_loopw [8] (fun u wr => ∃ k : Nat, k ≤ n ∧ u = .int .i64 k ∧ Hid ((xs.take k).find? p = none) ∧ Hid (Grw w wr)) (fun u _ => n - (intOf u).toNat)
  case atStart => exact ⟨0, Nat.zero_le _, rfl, rfl, Grw.refl _⟩
  case round =>
    obtain ⟨k, hk, rfl, HO, HG⟩ := hrel
    by_cases hlt : k < n
    · obtain ⟨z, hx⟩ := at_of hl hlt
      obtain ⟨bk, off, vs, rfl, hb, hvl, hR, hc⟩ := RY.out.at SeR.kp HG.out.below hx
      have HY : Hid (p z = true → ixI p xs = k) := fun h => ixI_at hx HO.out h
      have HN : Hid (p z = false → (xs.take (k + 1)).find? p = none) := fun h => ixI_no hx HO.out h
      obtain ⟨rfl, -⟩ := hR
      have q0 : wr.cell? ⟨bk, off + k * 10, none⟩ = some (.int .i64 z.id) := hc 0 _ rfl
      have q1 : wr.cell? ⟨bk, off + k * 10 + 1, none⟩ = some (.int .i64 z.us) := hc 1 _ rfl
      have q2 : wr.cell? ⟨bk, off + k * 10 + 2, none⟩ = some (.string z.mc) := hc 2 _ rfl
      have q3 : wr.cell? ⟨bk, off + k * 10 + 3, none⟩ = some (.int .i64 z.ip) := hc 3 _ rfl
      have q4 : wr.cell? ⟨bk, off + k * 10 + 4, none⟩ = some (.int .i64 z.be) := hc 4 _ rfl
      have q5 : wr.cell? ⟨bk, off + k * 10 + 5, none⟩ = some (.int .i64 z.la) := hc 5 _ rfl
      have q6 : wr.cell? ⟨bk, off + k * 10 + 6, none⟩ = some (.int .i64 z.ud) := hc 6 _ rfl
      have q7 : wr.cell? ⟨bk, off + k * 10 + 7, none⟩ = some (.int .i64 z.qu) := hc 7 _ rfl
      have q8 : wr.cell? ⟨bk, off + k * 10 + 8, none⟩ = some (.int .i64 z.un) := hc 8 _ rfl
      have q9 : wr.cell? ⟨bk, off + k * 10 + 9, none⟩ = some (.int .i64 z.il) := hc 9 _ rfl
      have hltz : (k : Int) < (n : Int) := by omega
      have HP : Hid (∀ W, Grw w W → Calls Tryz.prog 252 #[.agg #[.int .i64 z.id, .int .i64 z.us, .string z.mc, .int .i64 z.ip, .int .i64 z.be, .int .i64 z.la, .int .i64 z.ud, .int .i64 z.qu, .int .i64 z.un, .int .i64 z.il], .pointer (some ⟨B0, 0, none⟩)] W fun e w' => e = .returned (.bool (p z)) ∧ Grw W w') := fun W g => HP0.out z (List.mem_of_getElem? hx) W g.below
      generalize p z = u at HY HN HP
      clear hc hvl hx
      cases u with
      | false =>
        have HN' : Hid ((xs.take (k + 1)).find? p = none) := HN.out rfl
        clear HY HN
        go_wp2_with (go_at_fn 252; refine (HP.out _ HG.out).mono ?_; rintro e w' ⟨rfl, g1⟩)
        have HG1 : Hid (Grw w _) := HG.out.trans g1
        clear g1 HG
        go_roundw
        case rel => exact ⟨k + 1, by omega, by go_num, HN', HG1⟩
        case measure => simp [intOf]; omega
      | true =>
        have HY' : Hid (ixI p xs = k) := HY.out rfl
        clear HY HN
        go_wp2_with (go_at_fn 252; refine (HP.out _ HG.out).mono ?_; rintro e w' ⟨rfl, g1⟩)
        go_ret
        exact ⟨by rw [HY'.out]; rfl, HG.out.trans g1⟩
    · obtain rfl : k = n := by omega
      have hd : Hid (ixI p xs = -1) := ixI_end hl HO.out
      go_wp2
      go_ret
      exact ⟨by rw [hd.out]; rfl, HG.out⟩

theorem sessPlace1_any (z : SessV) (q : Int) (B : Nat) (w : World) (hc : w.cell? ⟨B, 0, none⟩ = some (.int .i64 q)) :
    Calls Tryz.prog 252 #[.agg #[.int .i64 z.id, .int .i64 z.us, .string z.mc, .int .i64 z.ip, .int .i64 z.be, .int .i64 z.la, .int .i64 z.ud, .int .i64 z.qu, .int .i64 z.un, .int .i64 z.il], .pointer (some ⟨B, 0, none⟩)] w fun e w' => e = .returned (.bool (siP q z)) ∧ Grw w w' := by
  have hc2 := acell hc (.cells #[.int .i64 z.id, .int .i64 z.us, .string z.mc, .int .i64 z.ip, .int .i64 z.be, .int .i64 z.la, .int .i64 z.ud, .int .i64 z.qu, .int .i64 z.un, .int .i64 z.il] 137)
  unfold siP
  obtain ⟨u, hu⟩ : ∃ u, (z.id == q) = u := ⟨_, rfl⟩
  rw [hu]
  go_enter Tryz.func252, Tryz.ntmps252
  go_wp2
  go_ret
  exact ⟨by first | rfl | (rw [hu]; rfl), (Grw.refl _).alloc _⟩
set_option maxHeartbeats 1000000 in
theorem sessPlace_any (a : Option Addr) (n c : Nat) (ss : List SessV) (q : Int) (w : World) (h : Rw SeR 10 w a ss) (hl : ss.length = n) (hn : n ≤ 9223372036854775807) :
    Calls Tryz.prog 209 #[.slice a n c, .int .i64 q] w fun e w' => e = .returned (.int .i64 (ixI (siP q) ss)) ∧ Grw w w' := by
  have HX : Hid (∀ W B, Grw w W → W.cell? ⟨B, 0, none⟩ = some (.int .i64 q) → Calls Tryz.prog 251 #[.slice a n c, .func (.func 252) #[] #[.pointer (some ⟨B, 0, none⟩)]] W fun e w' => e = .returned (.int .i64 (ixI (siP q) ss)) ∧ Grw W w') := fun W B g hc => idxSess_any a n c ss (siP q) B W (h.keep SeR.kp g.below) hl hn (fun z _ W2 b2 => sessPlace1_any z q B W2 (bkeep b2 hc))
  clear h
  generalize ixI (siP q) ss = r at HX ⊢
  go_enter Tryz.func209, Tryz.ntmps209
  go_wp2_with (go_at_call 251; refine (HX.out _ _ ((Grw.refl w).alloc _) (by simp [go_sem])).mono ?_; rintro e w' ⟨rfl, g1⟩)
  go_ret
  exact ⟨rfl, ((Grw.refl w).alloc _).trans g1⟩
set_option maxHeartbeats 1000000 in
theorem ownerGone_any (A : GtA) (g : GtV) (f : FlowV) (w : World) (h : Rw SeR 10 w A.sa g.ss) (hn : g.ss.length ≤ 1048576) :
    Calls Tryz.prog 158 #[.agg #[.slice A.ua g.us.length A.uc, .slice A.sa g.ss.length A.sc, .slice A.fa g.fs.length A.fc, .slice A.ra g.es.length A.rc, .int .i64 g.nx], .agg #[.int .i64 f.pr, .string f.mc, .int .i64 f.si, .int .i64 f.sp, .int .i64 f.di, .int .i64 f.dp, .int .i64 f.st, .int .i64 f.un, .int .i64 f.ow]] w fun e w' => e = .returned (.bool (owP g.ss f)) ∧ Grw w w' := by
  have HX : Hid (∀ W, Grw w W → Calls Tryz.prog 209 #[.slice A.sa g.ss.length A.sc, .int .i64 f.ow] W fun e w' => e = .returned (.int .i64 (ixI (siP f.ow) g.ss)) ∧ Grw W w') := fun W gw => sessPlace_any A.sa g.ss.length A.sc g.ss f.ow W (h.keep SeR.kp gw.below) rfl (by omega)
  clear h
  have hi := ixI_neg (p := siP f.ow) (xs := g.ss)
  have EQ : Hid (owP g.ss f = ((f.ow != 0) && !(g.ss.any (siP f.ow)))) := rfl
  rw [EQ.out]
  rw [← hi]
  clear hi EQ
  generalize ixI (siP f.ow) g.ss = r at HX ⊢
  by_cases h0 : f.ow = 0
  · have e0 : (f.ow != 0) = false := by simp [h0]
    rw [e0]
    go_enter Tryz.func158, Tryz.ntmps158
    go_wp2
    go_ret
    exact ⟨rfl, ((Grw.refl w).alloc _).alloc _⟩
  · have e0 : (f.ow != 0) = true := by simp [h0]
    rw [e0]
    clear h0
    go_enter Tryz.func158, Tryz.ntmps158
    go_wp2_with (go_at_call 209; refine (HX.out _ (((Grw.refl w).alloc _).alloc _)).mono ?_; rintro e w' ⟨rfl, g1⟩)
    go_ret
    exact ⟨by simp, (((Grw.refl w).alloc _).alloc _).trans g1⟩
set_option maxHeartbeats 2000000 in
theorem idxFlow_any (y : Option Addr) (n c : Nat) (xs : List FlowV) (p : FlowV → Bool) (B0 : Nat) (w : World) (h : Rw FlR 9 w y xs) (hl : xs.length = n) (hn : n ≤ 9223372036854775807)
    (hp : ∀ z, z ∈ xs → ∀ W, Below w.heap.size w W → Calls Tryz.prog 157 #[.agg #[.int .i64 z.pr, .string z.mc, .int .i64 z.si, .int .i64 z.sp, .int .i64 z.di, .int .i64 z.dp, .int .i64 z.st, .int .i64 z.un, .int .i64 z.ow], .pointer (some ⟨B0, 0, none⟩)] W fun e w' => e = .returned (.bool (p z)) ∧ Grw W w') :
    Calls Tryz.prog 208 #[.slice y n c, .func (.func 157) #[] #[.pointer (some ⟨B0, 0, none⟩)]] w fun e w' => e = .returned (.int .i64 (ixI p xs)) ∧ Grw w w' := by
  have RY : Hid (Rw FlR 9 w y xs) := h
  have HP0 : Hid (∀ z, z ∈ xs → ∀ W, Below w.heap.size w W → Calls Tryz.prog 157 #[.agg #[.int .i64 z.pr, .string z.mc, .int .i64 z.si, .int .i64 z.sp, .int .i64 z.di, .int .i64 z.dp, .int .i64 z.st, .int .i64 z.un, .int .i64 z.ow], .pointer (some ⟨B0, 0, none⟩)] W fun e w' => e = .returned (.bool (p z)) ∧ Grw W w') := hp
  clear h hp
  have eg : ∀ args w, (callFunc 157 args).run Tryz.prog w = .ok (.enter 157 args) w := enters_of Tryz.func157 (by kernel_rfl) rfl
  go_enter Tryz.func208, Tryz.ntmps208
  go_wp2
  go_loopw [8] (fun u wr => ∃ k : Nat, k ≤ n ∧ u = .int .i64 k ∧ Hid ((xs.take k).find? p = none) ∧ Hid (Grw w wr)) (fun u _ => n - (intOf u).toNat)
  case atStart => exact ⟨0, Nat.zero_le _, rfl, rfl, Grw.refl _⟩
  case round =>
    obtain ⟨k, hk, rfl, HO, HG⟩ := hrel
    by_cases hlt : k < n
    · obtain ⟨z, hx⟩ := at_of hl hlt
      obtain ⟨bk, off, vs, rfl, hb, hvl, hR, hc⟩ := RY.out.at FR.kp HG.out.below hx
      have HY : Hid (p z = true → ixI p xs = k) := fun h => ixI_at hx HO.out h
      have HN : Hid (p z = false → (xs.take (k + 1)).find? p = none) := fun h => ixI_no hx HO.out h
      obtain ⟨rfl, -⟩ := hR
      have q0 : wr.cell? ⟨bk, off + k * 9, none⟩ = some (.int .i64 z.pr) := hc 0 _ rfl
      have q1 : wr.cell? ⟨bk, off + k * 9 + 1, none⟩ = some (.string z.mc) := hc 1 _ rfl
      have q2 : wr.cell? ⟨bk, off + k * 9 + 2, none⟩ = some (.int .i64 z.si) := hc 2 _ rfl
      have q3 : wr.cell? ⟨bk, off + k * 9 + 3, none⟩ = some (.int .i64 z.sp) := hc 3 _ rfl
      have q4 : wr.cell? ⟨bk, off + k * 9 + 4, none⟩ = some (.int .i64 z.di) := hc 4 _ rfl
      have q5 : wr.cell? ⟨bk, off + k * 9 + 5, none⟩ = some (.int .i64 z.dp) := hc 5 _ rfl
      have q6 : wr.cell? ⟨bk, off + k * 9 + 6, none⟩ = some (.int .i64 z.st) := hc 6 _ rfl
      have q7 : wr.cell? ⟨bk, off + k * 9 + 7, none⟩ = some (.int .i64 z.un) := hc 7 _ rfl
      have q8 : wr.cell? ⟨bk, off + k * 9 + 8, none⟩ = some (.int .i64 z.ow) := hc 8 _ rfl
      have hltz : (k : Int) < (n : Int) := by omega
      have HP : Hid (∀ W, Grw w W → Calls Tryz.prog 157 #[.agg #[.int .i64 z.pr, .string z.mc, .int .i64 z.si, .int .i64 z.sp, .int .i64 z.di, .int .i64 z.dp, .int .i64 z.st, .int .i64 z.un, .int .i64 z.ow], .pointer (some ⟨B0, 0, none⟩)] W fun e w' => e = .returned (.bool (p z)) ∧ Grw W w') := fun W g => HP0.out z (List.mem_of_getElem? hx) W g.below
      generalize p z = u at HY HN HP
      clear hc hvl hx
      cases u with
      | false =>
        have HN' : Hid ((xs.take (k + 1)).find? p = none) := HN.out rfl
        clear HY HN
        go_wp2_with (go_at_fn 157; refine (HP.out _ HG.out).mono ?_; rintro e w' ⟨rfl, g1⟩)
        have HG1 : Hid (Grw w _) := HG.out.trans g1
        clear g1 HG
        go_roundw
        case rel => exact ⟨k + 1, by omega, by go_num, HN', HG1⟩
        case measure => simp [intOf]; omega
      | true =>
        have HY' : Hid (ixI p xs = k) := HY.out rfl
        clear HY HN
        go_wp2_with (go_at_fn 157; refine (HP.out _ HG.out).mono ?_; rintro e w' ⟨rfl, g1⟩)
        go_ret
        exact ⟨by rw [HY'.out]; rfl, HG.out.trans g1⟩
    · obtain rfl : k = n := by omega
      have hd : Hid (ixI p xs = -1) := ixI_end hl HO.out
      go_wp2
      go_ret
      exact ⟨by rw [hd.out]; rfl, HG.out⟩

set_option maxHeartbeats 2000000 in
theorem owners1_any (A : GtA) (g : GtV) (f : FlowV) (B : Nat) (w : World) (h : Rw SeR 10 w A.sa g.ss) (hn : g.ss.length ≤ 1048576) (hb : Bx w B [.int .i64 g.ip, .int .i64 g.b, .int .i64 g.gt, .string g.gm, .string g.wm, .int .i64 g.rs, .slice A.x g.ps.length A.xc, .slice A.y g.ros.length A.yc, .slice A.ua g.us.length A.uc, .slice A.sa g.ss.length A.sc, .slice A.fa g.fs.length A.fc, .slice A.ra g.es.length A.rc, .int .i64 g.nx, .slice A.la g.fl.length A.lc, .slice A.ca g.co.length A.cc, .int .i64 g.nw, .int .i64 g.dr, .int .i64 g.sn]) :
    Calls Tryz.prog 157 #[.agg #[.int .i64 f.pr, .string f.mc, .int .i64 f.si, .int .i64 f.sp, .int .i64 f.di, .int .i64 f.dp, .int .i64 f.st, .int .i64 f.un, .int .i64 f.ow], .pointer (some ⟨B, 0, none⟩)] w fun e w' => e = .returned (.bool (owP g.ss f)) ∧ Grw w w' := by
  have HX : Hid (∀ W, Grw w W → Calls Tryz.prog 158 #[.agg #[.slice A.ua g.us.length A.uc, .slice A.sa g.ss.length A.sc, .slice A.fa g.fs.length A.fc, .slice A.ra g.es.length A.rc, .int .i64 g.nx], .agg #[.int .i64 f.pr, .string f.mc, .int .i64 f.si, .int .i64 f.sp, .int .i64 f.di, .int .i64 f.dp, .int .i64 f.st, .int .i64 f.un, .int .i64 f.ow]] W fun e w' => e = .returned (.bool (owP g.ss f)) ∧ Grw W w') := fun W gw => ownerGone_any A g f W (h.keep SeR.kp gw.below) hn
  have HB : Hid (Bx (w.alloc (.cells #[.int .i64 f.pr, .string f.mc, .int .i64 f.si, .int .i64 f.sp, .int .i64 f.di, .int .i64 f.dp, .int .i64 f.st, .int .i64 f.un, .int .i64 f.ow] 122)) B [.int .i64 g.ip, .int .i64 g.b, .int .i64 g.gt, .string g.gm, .string g.wm, .int .i64 g.rs, .slice A.x g.ps.length A.xc, .slice A.y g.ros.length A.yc, .slice A.ua g.us.length A.uc, .slice A.sa g.ss.length A.sc, .slice A.fa g.fs.length A.fc, .slice A.ra g.es.length A.rc, .int .i64 g.nx, .slice A.la g.fl.length A.lc, .slice A.ca g.co.length A.cc, .int .i64 g.nw, .int .i64 g.dr, .int .i64 g.sn]) := hb.below ((Below.refl _ _).alloc (Nat.le_refl _) _)
  clear h hb
  generalize owP g.ss f = r at HX ⊢
  go_enter Tryz.func157, Tryz.ntmps157
  go_wp2_with (first | (refine wpl_getO 46 rfl _ rfl B 8 [.slice A.ua g.us.length A.uc, .slice A.sa g.ss.length A.sc, .slice A.fa g.fs.length A.fc, .slice A.ra g.es.length A.rc, .int .i64 g.nx] rfl HB.out rfl _ Tryz.underlying46 rfl rfl ?_) | (go_at_call 158; refine (HX.out _ ((Grw.refl w).alloc _)).mono ?_; rintro e w' ⟨rfl, g1⟩) | fail)
  go_ret
  exact ⟨rfl, ((Grw.refl w).alloc _).trans g1⟩
set_option maxHeartbeats 2000000 in
theorem ownersOK_any (A : GtA) (g : GtV) (w : World) (h : Rw SeR 10 w A.sa g.ss) (h2 : Rw FlR 9 w A.la g.fl) (hn : g.ss.length ≤ 1048576) (hf : g.fl.length ≤ 1048576) :
    Calls Tryz.prog 82 #[.agg #[.int .i64 g.ip, .int .i64 g.b, .int .i64 g.gt, .string g.gm, .string g.wm, .int .i64 g.rs, .slice A.x g.ps.length A.xc, .slice A.y g.ros.length A.yc, .slice A.ua g.us.length A.uc, .slice A.sa g.ss.length A.sc, .slice A.fa g.fs.length A.fc, .slice A.ra g.es.length A.rc, .int .i64 g.nx, .slice A.la g.fl.length A.lc, .slice A.ca g.co.length A.cc, .int .i64 g.nw, .int .i64 g.dr, .int .i64 g.sn]] w fun e w' => e = .returned (.bool (owB g.ss g.fl)) ∧ Grw w w' := by
  have HX : Hid (∀ W B, Grw w W → Bx W B [.int .i64 g.ip, .int .i64 g.b, .int .i64 g.gt, .string g.gm, .string g.wm, .int .i64 g.rs, .slice A.x g.ps.length A.xc, .slice A.y g.ros.length A.yc, .slice A.ua g.us.length A.uc, .slice A.sa g.ss.length A.sc, .slice A.fa g.fs.length A.fc, .slice A.ra g.es.length A.rc, .int .i64 g.nx, .slice A.la g.fl.length A.lc, .slice A.ca g.co.length A.cc, .int .i64 g.nw, .int .i64 g.dr, .int .i64 g.sn] → Calls Tryz.prog 208 #[.slice A.la g.fl.length A.lc, .func (.func 157) #[] #[.pointer (some ⟨B, 0, none⟩)]] W fun e w' => e = .returned (.int .i64 (ixI (owP g.ss) g.fl)) ∧ Grw W w') := fun W B gw hc => idxFlow_any A.la g.fl.length A.lc g.fl (owP g.ss) B W (h2.keep FR.kp gw.below) rfl (by omega) (fun z _ W2 b2 => owners1_any A g z B W2 (h.keep SeR.kp (gw.below.trans (b2.mono gw.below.size))) hn (hc.below b2))
  clear h h2
  have hi := ixI_pos (p := owP g.ss) (xs := g.fl)
  unfold owB
  rw [← hi]
  clear hi
  generalize ixI (owP g.ss) g.fl = r at HX ⊢
  have HQ : Hid (∀ W B, Grw w W → Bx W B [.int .i64 g.ip, .int .i64 g.b, .int .i64 g.gt, .string g.gm, .string g.wm, .int .i64 g.rs, .slice A.x g.ps.length A.xc, .slice A.y g.ros.length A.yc, .slice A.ua g.us.length A.uc, .slice A.sa g.ss.length A.sc, .slice A.fa g.fs.length A.fc, .slice A.ra g.es.length A.rc, .int .i64 g.nx, .slice A.la g.fl.length A.lc, .slice A.ca g.co.length A.cc, .int .i64 g.nw, .int .i64 g.dr, .int .i64 g.sn] → Calls Tryz.prog 156 #[.slice A.la g.fl.length A.lc, .func (.func 157) #[] #[.pointer (some ⟨B, 0, none⟩)]] W fun e w' => e = .returned (.bool (decide (0 ≤ r))) ∧ Grw W w') := by
    intro W B gw hb
    have HX2 := HX.out W B gw hb
    clear HX hb
    go_enter Tryz.func156, Tryz.ntmps156
    go_wp2_with (go_at_call 208; refine HX2.mono ?_; rintro e w' ⟨rfl, g1⟩)
    go_ret
    exact ⟨rfl, g1⟩
  clear HX
  have HB : Hid (Bx (w.alloc (.cells #[.int .i64 g.ip, .int .i64 g.b, .int .i64 g.gt, .string g.gm, .string g.wm, .int .i64 g.rs, .slice A.x g.ps.length A.xc, .slice A.y g.ros.length A.yc, .slice A.ua g.us.length A.uc, .slice A.sa g.ss.length A.sc, .slice A.fa g.fs.length A.fc, .slice A.ra g.es.length A.rc, .int .i64 g.nx, .slice A.la g.fl.length A.lc, .slice A.ca g.co.length A.cc, .int .i64 g.nw, .int .i64 g.dr, .int .i64 g.sn] 50)) w.heap.size [.int .i64 g.ip, .int .i64 g.b, .int .i64 g.gt, .string g.gm, .string g.wm, .int .i64 g.rs, .slice A.x g.ps.length A.xc, .slice A.y g.ros.length A.yc, .slice A.ua g.us.length A.uc, .slice A.sa g.ss.length A.sc, .slice A.fa g.fs.length A.fc, .slice A.ra g.es.length A.rc, .int .i64 g.nx, .slice A.la g.fl.length A.lc, .slice A.ca g.co.length A.cc, .int .i64 g.nw, .int .i64 g.dr, .int .i64 g.sn]) := Bx.new w #[.int .i64 g.ip, .int .i64 g.b, .int .i64 g.gt, .string g.gm, .string g.wm, .int .i64 g.rs, .slice A.x g.ps.length A.xc, .slice A.y g.ros.length A.yc, .slice A.ua g.us.length A.uc, .slice A.sa g.ss.length A.sc, .slice A.fa g.fs.length A.fc, .slice A.ra g.es.length A.rc, .int .i64 g.nx, .slice A.la g.fl.length A.lc, .slice A.ca g.co.length A.cc, .int .i64 g.nw, .int .i64 g.dr, .int .i64 g.sn] 50
  go_enter Tryz.func82, Tryz.ntmps82
  go_wp2_with (go_at_call 156; refine (HQ.out _ _ ((Grw.refl w).alloc _) HB.out).mono ?_; rintro e w' ⟨rfl, g1⟩)
  go_ret
  exact ⟨rfl, ((Grw.refl w).alloc _).trans g1⟩
theorem rw_take {α : Type} {R : World → α → List Value → Prop} {K : Nat} {w : World} {a : Option Addr} {xs : List α} (h : Rw R K w a xs) (k : Nat) : Rw R K w a (xs.take k) := by
  intro h0
  obtain ⟨b, off, rfl, hlt, hc⟩ := h (by simp at h0; omega)
  refine ⟨b, off, rfl, hlt, fun i x hx => ?_⟩
  have hi : i < k := by
    have := (List.getElem?_eq_some_iff.1 hx).1
    simp at this; omega
  rw [List.getElem?_take_of_lt hi] at hx
  exact hc i x hx
set_option maxHeartbeats 2000000 in
theorem idxConn_any (y : Option Addr) (n c : Nat) (xs : List ConnV) (p : ConnV → Bool) (B0 : Nat) (B1 : Nat) (B2 : Nat) (w : World) (h : Rw CnR 11 w y xs) (hl : xs.length = n) (hn : n ≤ 9223372036854775807)
    (hp : ∀ z, z ∈ xs → ∀ W, Below w.heap.size w W → Calls Tryz.prog 215 #[.agg #[.string z.mc, .int .i64 z.ip, .int .i64 z.po, .int .i64 z.di, .int .i64 z.st, .int .i64 z.un, .int .i64 z.nx, .int .i64 z.wa, .string z.inn, .string z.out, .bool z.fin], .pointer (some ⟨B0, 0, none⟩), .pointer (some ⟨B1, 0, none⟩), .pointer (some ⟨B2, 0, none⟩)] W fun e w' => e = .returned (.bool (p z)) ∧ Grw W w') :
    Calls Tryz.prog 214 #[.slice y n c, .func (.func 215) #[] #[.pointer (some ⟨B0, 0, none⟩), .pointer (some ⟨B1, 0, none⟩), .pointer (some ⟨B2, 0, none⟩)]] w fun e w' => e = .returned (.int .i64 (ixI p xs)) ∧ Grw w w' := by
  have RY : Hid (Rw CnR 11 w y xs) := h
  have HP0 : Hid (∀ z, z ∈ xs → ∀ W, Below w.heap.size w W → Calls Tryz.prog 215 #[.agg #[.string z.mc, .int .i64 z.ip, .int .i64 z.po, .int .i64 z.di, .int .i64 z.st, .int .i64 z.un, .int .i64 z.nx, .int .i64 z.wa, .string z.inn, .string z.out, .bool z.fin], .pointer (some ⟨B0, 0, none⟩), .pointer (some ⟨B1, 0, none⟩), .pointer (some ⟨B2, 0, none⟩)] W fun e w' => e = .returned (.bool (p z)) ∧ Grw W w') := hp
  clear h hp
  have eg : ∀ args w, (callFunc 215 args).run Tryz.prog w = .ok (.enter 215 args) w := enters_of Tryz.func215 (by kernel_rfl) rfl
  go_enter Tryz.func214, Tryz.ntmps214
  go_wp2
  go_loopw [8] (fun u wr => ∃ k : Nat, k ≤ n ∧ u = .int .i64 k ∧ Hid ((xs.take k).find? p = none) ∧ Hid (Grw w wr)) (fun u _ => n - (intOf u).toNat)
  case atStart => exact ⟨0, Nat.zero_le _, rfl, rfl, Grw.refl _⟩
  case round =>
    obtain ⟨k, hk, rfl, HO, HG⟩ := hrel
    by_cases hlt : k < n
    · obtain ⟨z, hx⟩ := at_of hl hlt
      obtain ⟨bk, off, vs, rfl, hb, hvl, hR, hc⟩ := RY.out.at FR.kp HG.out.below hx
      have HY : Hid (p z = true → ixI p xs = k) := fun h => ixI_at hx HO.out h
      have HN : Hid (p z = false → (xs.take (k + 1)).find? p = none) := fun h => ixI_no hx HO.out h
      obtain ⟨rfl, -⟩ := hR
      have q0 : wr.cell? ⟨bk, off + k * 11, none⟩ = some (.string z.mc) := hc 0 _ rfl
      have q1 : wr.cell? ⟨bk, off + k * 11 + 1, none⟩ = some (.int .i64 z.ip) := hc 1 _ rfl
      have q2 : wr.cell? ⟨bk, off + k * 11 + 2, none⟩ = some (.int .i64 z.po) := hc 2 _ rfl
      have q3 : wr.cell? ⟨bk, off + k * 11 + 3, none⟩ = some (.int .i64 z.di) := hc 3 _ rfl
      have q4 : wr.cell? ⟨bk, off + k * 11 + 4, none⟩ = some (.int .i64 z.st) := hc 4 _ rfl
      have q5 : wr.cell? ⟨bk, off + k * 11 + 5, none⟩ = some (.int .i64 z.un) := hc 5 _ rfl
      have q6 : wr.cell? ⟨bk, off + k * 11 + 6, none⟩ = some (.int .i64 z.nx) := hc 6 _ rfl
      have q7 : wr.cell? ⟨bk, off + k * 11 + 7, none⟩ = some (.int .i64 z.wa) := hc 7 _ rfl
      have q8 : wr.cell? ⟨bk, off + k * 11 + 8, none⟩ = some (.string z.inn) := hc 8 _ rfl
      have q9 : wr.cell? ⟨bk, off + k * 11 + 9, none⟩ = some (.string z.out) := hc 9 _ rfl
      have q10 : wr.cell? ⟨bk, off + k * 11 + 10, none⟩ = some (.bool z.fin) := hc 10 _ rfl
      have hltz : (k : Int) < (n : Int) := by omega
      have HP : Hid (∀ W, Grw w W → Calls Tryz.prog 215 #[.agg #[.string z.mc, .int .i64 z.ip, .int .i64 z.po, .int .i64 z.di, .int .i64 z.st, .int .i64 z.un, .int .i64 z.nx, .int .i64 z.wa, .string z.inn, .string z.out, .bool z.fin], .pointer (some ⟨B0, 0, none⟩), .pointer (some ⟨B1, 0, none⟩), .pointer (some ⟨B2, 0, none⟩)] W fun e w' => e = .returned (.bool (p z)) ∧ Grw W w') := fun W g => HP0.out z (List.mem_of_getElem? hx) W g.below
      generalize p z = u at HY HN HP
      clear hc hvl hx
      cases u with
      | false =>
        have HN' : Hid ((xs.take (k + 1)).find? p = none) := HN.out rfl
        clear HY HN
        go_wp2_with (go_at_fn 215; refine (HP.out _ HG.out).mono ?_; rintro e w' ⟨rfl, g1⟩)
        have HG1 : Hid (Grw w _) := HG.out.trans g1
        clear g1 HG
        go_roundw
        case rel => exact ⟨k + 1, by omega, by go_num, HN', HG1⟩
        case measure => simp [intOf]; omega
      | true =>
        have HY' : Hid (ixI p xs = k) := HY.out rfl
        clear HY HN
        go_wp2_with (go_at_fn 215; refine (HP.out _ HG.out).mono ?_; rintro e w' ⟨rfl, g1⟩)
        go_ret
        exact ⟨by rw [HY'.out]; rfl, HG.out.trans g1⟩
    · obtain rfl : k = n := by omega
      have hd : Hid (ixI p xs = -1) := ixI_end hl HO.out
      go_wp2
      go_ret
      exact ⟨by rw [hd.out]; rfl, HG.out⟩

set_option maxHeartbeats 1000000 in
theorem connPlace1_any (z : ConnV) (ip po di : Int) (B0 B1 B2 : Nat) (w : World) (h0 : w.cell? ⟨B0, 0, none⟩ = some (.int .i64 ip)) (h1 : w.cell? ⟨B1, 0, none⟩ = some (.int .i64 po)) (h2 : w.cell? ⟨B2, 0, none⟩ = some (.int .i64 di)) :
    Calls Tryz.prog 215 #[.agg #[.string z.mc, .int .i64 z.ip, .int .i64 z.po, .int .i64 z.di, .int .i64 z.st, .int .i64 z.un, .int .i64 z.nx, .int .i64 z.wa, .string z.inn, .string z.out, .bool z.fin], .pointer (some ⟨B0, 0, none⟩), .pointer (some ⟨B1, 0, none⟩), .pointer (some ⟨B2, 0, none⟩)] w fun e w' => e = .returned (.bool (cnP ip po di z)) ∧ Grw w w' := by
  have c0 := acell h0 (.cells #[.string z.mc, .int .i64 z.ip, .int .i64 z.po, .int .i64 z.di, .int .i64 z.st, .int .i64 z.un, .int .i64 z.nx, .int .i64 z.wa, .string z.inn, .string z.out, .bool z.fin] 206)
  have c1 := acell h1 (.cells #[.string z.mc, .int .i64 z.ip, .int .i64 z.po, .int .i64 z.di, .int .i64 z.st, .int .i64 z.un, .int .i64 z.nx, .int .i64 z.wa, .string z.inn, .string z.out, .bool z.fin] 206)
  have c2 := acell h2 (.cells #[.string z.mc, .int .i64 z.ip, .int .i64 z.po, .int .i64 z.di, .int .i64 z.st, .int .i64 z.un, .int .i64 z.nx, .int .i64 z.wa, .string z.inn, .string z.out, .bool z.fin] 206)
  have EQ : Hid (cnP ip po di z = ((z.ip == ip) && ((z.po == po) && (z.di == di)))) := rfl
  rw [EQ.out]
  clear h0 h1 h2 EQ
  obtain ⟨u0, hu0⟩ : ∃ u, (z.ip == ip) = u := ⟨_, rfl⟩
  obtain ⟨u1, hu1⟩ : ∃ u, (z.po == po) = u := ⟨_, rfl⟩
  obtain ⟨u2, hu2⟩ : ∃ u, (z.di == di) = u := ⟨_, rfl⟩
  rw [hu0, hu1, hu2]
  cases u0 <;> cases u1 <;> cases u2 <;>
  · go_enter Tryz.func215, Tryz.ntmps215
    go_wp2
    go_ret
    exact ⟨by first | rfl | (simp [*]; done), (Grw.refl _).alloc _⟩
set_option maxHeartbeats 1000000 in
theorem connPlace_any (a : Option Addr) (n c : Nat) (co : List ConnV) (ip po di : Int) (w : World) (h : Rw CnR 11 w a co) (hl : co.length = n) (hn : n ≤ 9223372036854775807) :
    Calls Tryz.prog 160 #[.slice a n c, .int .i64 ip, .int .i64 po, .int .i64 di] w fun e w' => e = .returned (.int .i64 (ixI (cnP ip po di) co)) ∧ Grw w w' := by
  have HX : Hid (∀ W B0 B1 B2, Grw w W → W.cell? ⟨B0, 0, none⟩ = some (.int .i64 ip) → W.cell? ⟨B1, 0, none⟩ = some (.int .i64 po) → W.cell? ⟨B2, 0, none⟩ = some (.int .i64 di) → Calls Tryz.prog 214 #[.slice a n c, .func (.func 215) #[] #[.pointer (some ⟨B0, 0, none⟩), .pointer (some ⟨B1, 0, none⟩), .pointer (some ⟨B2, 0, none⟩)]] W fun e w' => e = .returned (.int .i64 (ixI (cnP ip po di) co)) ∧ Grw W w') := fun W B0 B1 B2 g h0 h1 h2 => idxConn_any a n c co (cnP ip po di) B0 B1 B2 W (h.keep FR.kp g.below) hl hn (fun z _ W2 b2 => connPlace1_any z ip po di B0 B1 B2 W2 (bkeep b2 h0) (bkeep b2 h1) (bkeep b2 h2))
  clear h
  generalize ixI (cnP ip po di) co = r at HX ⊢
  go_enter Tryz.func160, Tryz.ntmps160
  go_wp2_with (go_at_call 214; refine (HX.out _ _ _ _ ((((Grw.refl w).alloc _).alloc _).alloc _) (by simp [go_sem]) (by simp [go_sem]) (by simp [go_sem])).mono ?_; rintro e w' ⟨rfl, g1⟩)
  go_ret
  exact ⟨rfl, ((((Grw.refl w).alloc _).alloc _).alloc _).trans g1⟩
set_option maxHeartbeats 4000000 in
theorem connsOK_any (a : Option Addr) (n c : Nat) (co : List ConnV) (w : World) (h : Rw CnR 11 w a co) (hl : co.length = n) (hn : n ≤ 1048576) (hcap : n ≤ c) (hsz : ∀ x, x ∈ co → (x.mc.size : Int) ≤ 1048576 ∧ (x.inn.size : Int) ≤ 1048576 ∧ (x.out.size : Int) ≤ 1048576) :
    Calls Tryz.prog 83 #[.slice a n c] w fun e w' => e = .returned (.bool (cnB co)) ∧ Grw w w' := by
  have RW : Hid (Rw CnR 11 w a co) := h
  have SZ : Hid (∀ x, x ∈ co → (x.mc.size : Int) ≤ 1048576 ∧ (x.inn.size : Int) ≤ 1048576 ∧ (x.out.size : Int) ≤ 1048576) := hsz
  have hmix : Tryz.prog.follows .mixedOrders = true := by kernel_rfl
  clear h hsz
  by_cases h3 : 3 < n
  · have hz : (3 : Int) < (n : Int) := by omega
    have hd : Hid (cnB co = false) := cnB_long (by omega)
    go_enter Tryz.func83, Tryz.ntmps83
    go_wp2
    go_ret
    exact ⟨by rw [hd.out]; rfl, Grw.refl _⟩
  have h3z : decide ((3 : Int) < (n : Int)) = false := by simp; omega
  have hle : decide ((n : Int) ≤ 3) = true := by simp; omega
  go_enter Tryz.func83, Tryz.ntmps83
  go_wp2
  go_loopw [10] (fun x wr => ∃ k : Nat, k ≤ n ∧ x = .int .i64 k ∧ Hid (cnOk co k) ∧ Hid (Grw w wr)) (fun x _ => n - (intOf x).toNat)
  case atStart => exact ⟨0, Nat.zero_le _, rfl, cnOk_zero co, Grw.refl _⟩
  case round =>
    obtain ⟨k, hk, rfl, HO, HG⟩ := hrel
    by_cases hlt : k < n
    · obtain ⟨x, hx⟩ := at_of hl hlt
      have hltz : (k : Int) < (n : Int) := by omega
      have hkc : (k : Int) ≤ (c : Int) := by omega
      have hk0 : (0 : Int) ≤ (k : Int) := by omega
      obtain ⟨b, off, vs, rfl, hb, hvl, hR, hc⟩ := RW.out.at FR.kp HG.out.below hx
      have SX := SZ.out _ (List.mem_of_getElem? hx)
      have HN : Hid (cnAt co k x = false → cnB co = false) := fun h => cnB_no hx h
      have HY : Hid (cnAt co k x = true → cnOk co (k + 1)) := fun h => cnOk_step HO.out hx h
      have RT : Hid (Rw CnR 11 w (some ⟨b, off, none⟩) (co.take k)) := rw_take RW.out k
      have LT : (co.take k).length = k := by rw [List.length_take]; omega
      obtain ⟨mc, ip, po, di, st, un, nx, wa, inn, out, fin⟩ := x
      obtain ⟨rfl, hok⟩ := hR
      have E : Hid (cnAt co k ⟨mc, ip, po, di, st, un, nx, wa, inn, out, fin⟩ = (okB ⟨mc, ip, po, di, st, un, nx, wa, inn, out, fin⟩ && (!(st == 4) && !((co.take k).any (cnP ip po di))))) := rfl
      rw [E.out] at HN HY
      clear E
      have q0 : wr.cell? ⟨b, off + k * 11, none⟩ = some (.string mc) := hc 0 _ rfl
      have q1 : wr.cell? ⟨b, off + k * 11 + 1, none⟩ = some (.int .i64 ip) := hc 1 _ rfl
      have q2 : wr.cell? ⟨b, off + k * 11 + 2, none⟩ = some (.int .i64 po) := hc 2 _ rfl
      have q3 : wr.cell? ⟨b, off + k * 11 + 3, none⟩ = some (.int .i64 di) := hc 3 _ rfl
      have q4 : wr.cell? ⟨b, off + k * 11 + 4, none⟩ = some (.int .i64 st) := hc 4 _ rfl
      have q5 : wr.cell? ⟨b, off + k * 11 + 5, none⟩ = some (.int .i64 un) := hc 5 _ rfl
      have q6 : wr.cell? ⟨b, off + k * 11 + 6, none⟩ = some (.int .i64 nx) := hc 6 _ rfl
      have q7 : wr.cell? ⟨b, off + k * 11 + 7, none⟩ = some (.int .i64 wa) := hc 7 _ rfl
      have q8 : wr.cell? ⟨b, off + k * 11 + 8, none⟩ = some (.string inn) := hc 8 _ rfl
      have q9 : wr.cell? ⟨b, off + k * 11 + 9, none⟩ = some (.string out) := hc 9 _ rfl
      have q10 : wr.cell? ⟨b, off + k * 11 + 10, none⟩ = some (.bool fin) := hc 10 _ rfl
      have wpo : po ≤ 9223372036854775807 := (bounds_i64 hok.2.2.1).2
      clear hc hvl hok
      have HF : Hid (∀ w, Calls Tryz.prog 159 #[.agg #[.string mc, .int .i64 ip, .int .i64 po, .int .i64 di, .int .i64 st, .int .i64 un, .int .i64 nx, .int .i64 wa, .string inn, .string out, .bool fin]] w fun e w' => e = .returned (.bool (okB ⟨mc, ip, po, di, st, un, nx, wa, inn, out, fin⟩)) ∧ Grw w w') := fun w => implConOK_any mc ip po di st un nx wa inn out fin w wpo (by have := SX.1; dsimp only at this; omega) (by have := SX.2.1; dsimp only at this; omega) (by have := SX.2.2; dsimp only at this; omega)
      have HP : Hid (∀ W, Grw w W → Calls Tryz.prog 160 #[.slice (some ⟨b, off, none⟩) k c, .int .i64 ip, .int .i64 po, .int .i64 di] W fun e w' => e = .returned (.int .i64 (ixI (cnP ip po di) (co.take k))) ∧ Grw W w') := fun W g => connPlace_any _ k c (co.take k) ip po di W (RT.out.keep FR.kp g.below) LT (by omega)
      have hip := ixI_pos (p := cnP ip po di) (xs := co.take k)
      rw [← hip] at HN HY
      clear hip RT LT SX
      generalize okB ⟨mc, ip, po, di, st, un, nx, wa, inn, out, fin⟩ = z1 at HF HN HY
      generalize ixI (cnP ip po di) (co.take k) = r at HP HN HY
      clear hx HO
      have m0 : ∀ n os, (grow ((wr.alloc (.cells #[.string mc, .int .i64 ip, .int .i64 po, .int .i64 di, .int .i64 st, .int .i64 un, .int .i64 nx, .int .i64 wa, .string inn, .string out, .bool fin] 206)).drewN n) os).cell? ⟨wr.heap.size, 0, none⟩ = some (.string mc) := fun n os => cell_grown (by simp) (by simp [go_sem]) n os
      have m1 : ∀ n os, (grow ((wr.alloc (.cells #[.string mc, .int .i64 ip, .int .i64 po, .int .i64 di, .int .i64 st, .int .i64 un, .int .i64 nx, .int .i64 wa, .string inn, .string out, .bool fin] 206)).drewN n) os).cell? ⟨wr.heap.size, 1, none⟩ = some (.int .i64 ip) := fun n os => cell_grown (by simp) (by simp [go_sem]) n os
      have m2 : ∀ n os, (grow ((wr.alloc (.cells #[.string mc, .int .i64 ip, .int .i64 po, .int .i64 di, .int .i64 st, .int .i64 un, .int .i64 nx, .int .i64 wa, .string inn, .string out, .bool fin] 206)).drewN n) os).cell? ⟨wr.heap.size, 2, none⟩ = some (.int .i64 po) := fun n os => cell_grown (by simp) (by simp [go_sem]) n os
      have m3 : ∀ n os, (grow ((wr.alloc (.cells #[.string mc, .int .i64 ip, .int .i64 po, .int .i64 di, .int .i64 st, .int .i64 un, .int .i64 nx, .int .i64 wa, .string inn, .string out, .bool fin] 206)).drewN n) os).cell? ⟨wr.heap.size, 3, none⟩ = some (.int .i64 di) := fun n os => cell_grown (by simp) (by simp [go_sem]) n os
      have m4 : ∀ n os, (grow ((wr.alloc (.cells #[.string mc, .int .i64 ip, .int .i64 po, .int .i64 di, .int .i64 st, .int .i64 un, .int .i64 nx, .int .i64 wa, .string inn, .string out, .bool fin] 206)).drewN n) os).cell? ⟨wr.heap.size, 4, none⟩ = some (.int .i64 st) := fun n os => cell_grown (by simp) (by simp [go_sem]) n os
      have m5 : ∀ n os, (grow ((wr.alloc (.cells #[.string mc, .int .i64 ip, .int .i64 po, .int .i64 di, .int .i64 st, .int .i64 un, .int .i64 nx, .int .i64 wa, .string inn, .string out, .bool fin] 206)).drewN n) os).cell? ⟨wr.heap.size, 5, none⟩ = some (.int .i64 un) := fun n os => cell_grown (by simp) (by simp [go_sem]) n os
      have m6 : ∀ n os, (grow ((wr.alloc (.cells #[.string mc, .int .i64 ip, .int .i64 po, .int .i64 di, .int .i64 st, .int .i64 un, .int .i64 nx, .int .i64 wa, .string inn, .string out, .bool fin] 206)).drewN n) os).cell? ⟨wr.heap.size, 6, none⟩ = some (.int .i64 nx) := fun n os => cell_grown (by simp) (by simp [go_sem]) n os
      have m7 : ∀ n os, (grow ((wr.alloc (.cells #[.string mc, .int .i64 ip, .int .i64 po, .int .i64 di, .int .i64 st, .int .i64 un, .int .i64 nx, .int .i64 wa, .string inn, .string out, .bool fin] 206)).drewN n) os).cell? ⟨wr.heap.size, 7, none⟩ = some (.int .i64 wa) := fun n os => cell_grown (by simp) (by simp [go_sem]) n os
      have m8 : ∀ n os, (grow ((wr.alloc (.cells #[.string mc, .int .i64 ip, .int .i64 po, .int .i64 di, .int .i64 st, .int .i64 un, .int .i64 nx, .int .i64 wa, .string inn, .string out, .bool fin] 206)).drewN n) os).cell? ⟨wr.heap.size, 8, none⟩ = some (.string inn) := fun n os => cell_grown (by simp) (by simp [go_sem]) n os
      have m9 : ∀ n os, (grow ((wr.alloc (.cells #[.string mc, .int .i64 ip, .int .i64 po, .int .i64 di, .int .i64 st, .int .i64 un, .int .i64 nx, .int .i64 wa, .string inn, .string out, .bool fin] 206)).drewN n) os).cell? ⟨wr.heap.size, 9, none⟩ = some (.string out) := fun n os => cell_grown (by simp) (by simp [go_sem]) n os
      have m10 : ∀ n os, (grow ((wr.alloc (.cells #[.string mc, .int .i64 ip, .int .i64 po, .int .i64 di, .int .i64 st, .int .i64 un, .int .i64 nx, .int .i64 wa, .string inn, .string out, .bool fin] 206)).drewN n) os).cell? ⟨wr.heap.size, 10, none⟩ = some (.bool fin) := fun n os => cell_grown (by simp) (by simp [go_sem]) n os
      have HGA : Hid (Grw w (wr.alloc (.cells #[.string mc, .int .i64 ip, .int .i64 po, .int .i64 di, .int .i64 st, .int .i64 un, .int .i64 nx, .int .i64 wa, .string inn, .string out, .bool fin] 206))) := HG.out.alloc _
      cases z1 with
      | false =>
        have hd : Hid (cnB co = false) := HN.out rfl
        clear HN HY HG
        go_wp2_with fail
        refine wp_region_quiet_grown (by assumption) (by kernel_rfl) ?_
        repeat (go_big_quiet_step (first | fail | (first | (go_at_call 159; exact Calls.grown_of (HF.out _)) | (go_at_call 160; exact Calls.grown_of (HP.out _ (HGA.out.trans ⟨_, _, rfl⟩))))))
        refine wpQuiet_nil ?_
        intro _ hw'
        obtain ⟨⟨nq, osq⟩, hw''⟩ := hw'
        subst hw''
        go_wp2
        go_ret
        exact ⟨by rw [hd.out]; rfl, HGA.out.trans ⟨nq, osq, rfl⟩⟩
      | true =>
        by_cases h4 : st = 4
        · have h4z : (st == 4) = true := by simp [h4]
          rw [h4z] at HN
          have hd : Hid (cnB co = false) := HN.out rfl
          clear HN HY h4 HG
          go_wp2_with fail
          refine wp_region_quiet_grown (by assumption) (by kernel_rfl) ?_
          repeat (go_big_quiet_step (first | fail | (first | (go_at_call 159; exact Calls.grown_of (HF.out _)) | (go_at_call 160; exact Calls.grown_of (HP.out _ (HGA.out.trans ⟨_, _, rfl⟩))))))
          refine wpQuiet_nil ?_
          intro _ hw'
          obtain ⟨⟨nq, osq⟩, hw''⟩ := hw'
          subst hw''
          go_wp2
          go_ret
          exact ⟨by rw [hd.out]; rfl, HGA.out.trans ⟨nq, osq, rfl⟩⟩
        have h4z : (st == 4) = false := by simp [h4]
        rw [h4z] at HN HY
        clear h4
        by_cases hr : 0 ≤ r
        · have hd : Hid (cnB co = false) := HN.out (by simp [hr])
          have hrz : decide (0 ≤ r) = true := by simp [hr]
          clear HN HY HG
          go_wp2_with fail
          refine wp_region_quiet_grown (by assumption) (by kernel_rfl) ?_
          repeat (go_big_quiet_step (first | fail | (first | (go_at_call 159; exact Calls.grown_of (HF.out _)) | (go_at_call 160; exact Calls.grown_of (HP.out _ (HGA.out.trans ⟨_, _, rfl⟩))))))
          refine wpQuiet_nil ?_
          intro _ hw'
          obtain ⟨⟨nq, osq⟩, hw''⟩ := hw'
          subst hw''
          go_wp2
          go_ret
          exact ⟨by rw [hd.out]; rfl, HGA.out.trans ⟨nq, osq, rfl⟩⟩
        have HO2 : Hid (cnOk co (k + 1)) := HY.out (by simp; omega)
        have hrz : decide (0 ≤ r) = false := by simp; omega
        clear HN HY HG
        go_wp2_with fail
        refine wp_region_quiet_grown (by assumption) (by kernel_rfl) ?_
        repeat (go_big_quiet_step (first | fail | (first | (go_at_call 159; exact Calls.grown_of (HF.out _)) | (go_at_call 160; exact Calls.grown_of (HP.out _ (HGA.out.trans ⟨_, _, rfl⟩))))))
        refine wpQuiet_nil ?_
        intro _ hw'
        obtain ⟨⟨nq, osq⟩, hw''⟩ := hw'
        subst hw''
        have HG2 : Hid (Grw w (grow ((wr.alloc (.cells #[.string mc, .int .i64 ip, .int .i64 po, .int .i64 di, .int .i64 st, .int .i64 un, .int .i64 nx, .int .i64 wa, .string inn, .string out, .bool fin] 206)).drewN nq) osq)) := HGA.out.trans ⟨nq, osq, rfl⟩
        clear HGA HP HF
        go_wp2
        go_roundw
        case rel => exact ⟨k + 1, by omega, by go_num, HO2, HG2⟩
        case measure => simp [intOf]; omega
    · obtain rfl : k = n := by omega
      have hd : Hid (cnB co = true) := by show _ = _; rw [cnB_of hl HO.out, hle]
      clear HO
      go_wp2
      go_ret
      exact ⟨by rw [hd.out]; rfl, HG.out⟩
end Go.Proofs.YtlebblmlbhnppaaGreat

namespace Go.Proofs.YtlebblmlbhnppaaGreat
open Go.RowKit Go.PlainAid Go.Proofs.YtlebblmlbhnppaaGreat.Bt Go.Sort
set_option linter.unusedVariables false
set_option maxRecDepth 20000
theorem flok_of {w : World} {a : Option Addr} {fl : List FlowV} (h : Rw FlR 9 w a fl) : ∀ x, x ∈ fl → FlRok x := by
  intro x hx
  obtain ⟨i, hi⟩ := List.getElem?_of_mem hx
  obtain ⟨b, off, vs, _, _, _, h2, _⟩ := h.at FR.kp (Below.refl _ _) hi
  exact h2.2
theorem szU_of {us : List UserV} {n : Int} (h : szL wtUser us ≤ n) (hn : n ≤ 1048576) : SzU us := by
  intro u hu
  have := szL_mem wtUser_nn us u hu
  have e : wtUser u = (u.nm.size : Int) + u.sa.size + u.ha.size + u.ro.size := rfl
  rw [e] at this
  omega
end Go.Proofs.YtlebblmlbhnppaaGreat

namespace Go.Proofs.YtlebblmlbhnppaaGreat
open Go.RowKit Go.PlainAid Go.Proofs.YtlebblmlbhnppaaGreat.Bt Go.Sort
set_option linter.unusedVariables false
set_option maxRecDepth 20000
set_option maxHeartbeats 4000000 in
theorem implGate_any (A : GtA) (g : GtV) (w : World) (h : GtR w A g) (hs : GtS g) :
    Calls Tryz.prog 24 #[.agg #[.int .i64 g.ip, .int .i64 g.b, .int .i64 g.gt, .string g.gm, .string g.wm, .int .i64 g.rs, .slice A.x g.ps.length A.xc, .slice A.y g.ros.length A.yc, .slice A.ua g.us.length A.uc, .slice A.sa g.ss.length A.sc, .slice A.fa g.fs.length A.fc, .slice A.ra g.es.length A.rc, .int .i64 g.nx, .slice A.la g.fl.length A.lc, .slice A.ca g.co.length A.cc, .int .i64 g.nw, .int .i64 g.dr, .int .i64 g.sn]] w fun e w' => e = .returned (.bool (gtB g)) ∧ Below w.heap.size w w' := by
  have GR : Hid (GtR w A g) := h
  have hok : Hid (∀ x, x ∈ g.fl → FlRok x) := flok_of h.fl
  have H1 : Hid (∀ w, GtR w A g → Calls Tryz.prog 49 #[.agg #[.int .i64 g.ip, .int .i64 g.b, .int .i64 g.gt, .string g.gm, .string g.wm, .int .i64 g.rs, .slice A.x g.ps.length A.xc, .slice A.y g.ros.length A.yc], .agg #[.slice A.ua g.us.length A.uc, .slice A.sa g.ss.length A.sc, .slice A.fa g.fs.length A.fc, .slice A.ra g.es.length A.rc, .int .i64 g.nx]] w fun e w' => e = .returned (.bool (gokB g.ip g.b g.gt g.gm g.wm g.rs g.ps g.ros g.us g.ss g.fs g.es g.nx)) ∧ Below w.heap.size w w') := fun w h => implGuests_any _ _ _ _ _ _ _ _ _ _ _ _ g.ps g.ros _ _ _ _ _ _ _ _ _ _ _ _ g.us g.ss g.fs g.es g.nx w h.ps rfl h.ros rfl hs.szr hs.ros h.us rfl h.ss rfl h.fs rfl h.es rfl (szU_of hs.szu (Int.le_refl _)) hs.us
  have H2 : Hid (∀ w, GtR w A g → Calls Tryz.prog 81 #[.slice A.la g.fl.length A.lc] w fun e w' => e = .returned (.bool (foB g.fl)) ∧ Below w.heap.size w w') := fun w h => implFlowsOK_any _ _ _ g.fl w h.fl hok.out rfl hs.fl
  have H3 : Hid (∀ w, GtR w A g → Calls Tryz.prog 82 #[.agg #[.int .i64 g.ip, .int .i64 g.b, .int .i64 g.gt, .string g.gm, .string g.wm, .int .i64 g.rs, .slice A.x g.ps.length A.xc, .slice A.y g.ros.length A.yc, .slice A.ua g.us.length A.uc, .slice A.sa g.ss.length A.sc, .slice A.fa g.fs.length A.fc, .slice A.ra g.es.length A.rc, .int .i64 g.nx, .slice A.la g.fl.length A.lc, .slice A.ca g.co.length A.cc, .int .i64 g.nw, .int .i64 g.dr, .int .i64 g.sn]] w fun e w' => e = .returned (.bool (owB g.ss g.fl)) ∧ Below w.heap.size w w') := fun w h => (ownersOK_any A g w h.ss h.fl hs.ss hs.fl).mono fun e w' h => ⟨h.1, h.2.below⟩
  have H4 : Hid (∀ w, GtR w A g → Calls Tryz.prog 83 #[.slice A.ca g.co.length A.cc] w fun e w' => e = .returned (.bool (cnB g.co)) ∧ Below w.heap.size w w') := fun w h => (connsOK_any _ _ _ g.co w h.co rfl hs.co h.kc hs.szc).mono fun e w' h => ⟨h.1, h.2.below⟩
  have H5 : Hid (∀ w, GtR w A g → Calls Tryz.prog 84 #[.int .i64 g.nw] w fun e w' => e = .returned (.bool (dec (0 ≤ g.nw ∧ g.nw ≤ 100000))) ∧ Below w.heap.size w w') := fun w h => (timeOK_any g.nw w).mono fun e w' h => ⟨h.1, by rw [h.2]; exact Below.refl _ _⟩
  have H6 : Hid (∀ w, GtR w A g → Calls Tryz.prog 85 #[.int .i64 g.dr, .int .i64 0, .int .i64 1000000] w fun e w' => e = .returned (.bool (dec (0 ≤ g.dr ∧ g.dr ≤ 1000000))) ∧ Below w.heap.size w w') := fun w h => (between_any g.dr 0 1000000 w).mono fun e w' h => ⟨h.1, by rw [h.2]; exact Below.refl _ _⟩
  have H7 : Hid (∀ w, GtR w A g → Calls Tryz.prog 86 #[.int .i64 g.sn] w fun e w' => e = .returned (.bool (dec (0 ≤ g.sn ∧ g.sn ≤ 4294967295))) ∧ Below w.heap.size w w') := fun w h => (seqOK_any g.sn w).mono fun e w' h => ⟨h.1, by rw [h.2]; exact Below.refl _ _⟩
  have E : Hid (gtB g = (gokB g.ip g.b g.gt g.gm g.wm g.rs g.ps g.ros g.us g.ss g.fs g.es g.nx && (foB g.fl && (owB g.ss g.fl && (cnB g.co && (dec (0 ≤ g.nw ∧ g.nw ≤ 100000) && (dec (0 ≤ g.dr ∧ g.dr ≤ 1000000) && dec (0 ≤ g.sn ∧ g.sn ≤ 4294967295)))))))) := rfl
  rw [E.out]
  clear E h hs hok
  generalize gokB g.ip g.b g.gt g.gm g.wm g.rs g.ps g.ros g.us g.ss g.fs g.es g.nx = q1 at H1 ⊢
  generalize foB g.fl = q2 at H2 ⊢
  generalize owB g.ss g.fl = q3 at H3 ⊢
  generalize cnB g.co = q4 at H4 ⊢
  generalize dec (0 ≤ g.nw ∧ g.nw ≤ 100000) = q5 at H5 ⊢
  generalize dec (0 ≤ g.dr ∧ g.dr ≤ 1000000) = q6 at H6 ⊢
  generalize dec (0 ≤ g.sn ∧ g.sn ≤ 4294967295) = q7 at H7 ⊢
  have G0 : Hid (Bx (w.alloc (.cells #[.int .i64 g.ip, .int .i64 g.b, .int .i64 g.gt, .string g.gm, .string g.wm, .int .i64 g.rs, .slice A.x g.ps.length A.xc, .slice A.y g.ros.length A.yc, .slice A.ua g.us.length A.uc, .slice A.sa g.ss.length A.sc, .slice A.fa g.fs.length A.fc, .slice A.ra g.es.length A.rc, .int .i64 g.nx, .slice A.la g.fl.length A.lc, .slice A.ca g.co.length A.cc, .int .i64 g.nw, .int .i64 g.dr, .int .i64 g.sn] 50)) w.heap.size [.int .i64 g.ip, .int .i64 g.b, .int .i64 g.gt, .string g.gm, .string g.wm, .int .i64 g.rs, .slice A.x g.ps.length A.xc, .slice A.y g.ros.length A.yc, .slice A.ua g.us.length A.uc, .slice A.sa g.ss.length A.sc, .slice A.fa g.fs.length A.fc, .slice A.ra g.es.length A.rc, .int .i64 g.nx, .slice A.la g.fl.length A.lc, .slice A.ca g.co.length A.cc, .int .i64 g.nw, .int .i64 g.dr, .int .i64 g.sn]) := Bx.new w #[.int .i64 g.ip, .int .i64 g.b, .int .i64 g.gt, .string g.gm, .string g.wm, .int .i64 g.rs, .slice A.x g.ps.length A.xc, .slice A.y g.ros.length A.yc, .slice A.ua g.us.length A.uc, .slice A.sa g.ss.length A.sc, .slice A.fa g.fs.length A.fc, .slice A.ra g.es.length A.rc, .int .i64 g.nx, .slice A.la g.fl.length A.lc, .slice A.ca g.co.length A.cc, .int .i64 g.nw, .int .i64 g.dr, .int .i64 g.sn] 50
  have X0 : Hid (Below w.heap.size w (w.alloc (.cells #[.int .i64 g.ip, .int .i64 g.b, .int .i64 g.gt, .string g.gm, .string g.wm, .int .i64 g.rs, .slice A.x g.ps.length A.xc, .slice A.y g.ros.length A.yc, .slice A.ua g.us.length A.uc, .slice A.sa g.ss.length A.sc, .slice A.fa g.fs.length A.fc, .slice A.ra g.es.length A.rc, .int .i64 g.nx, .slice A.la g.fl.length A.lc, .slice A.ca g.co.length A.cc, .int .i64 g.nw, .int .i64 g.dr, .int .i64 g.sn] 50))) := (Below.refl _ _).alloc (Nat.le_refl _) _
  go_enter Tryz.func24, Tryz.ntmps24
  go_wp2_with fail
  refine (H1.out _ (GR.out.below X0.out)).mono ?_
  rintro e w1 ⟨rfl, bx⟩
  have G1 : Hid (Bx w1 w.heap.size [.int .i64 g.ip, .int .i64 g.b, .int .i64 g.gt, .string g.gm, .string g.wm, .int .i64 g.rs, .slice A.x g.ps.length A.xc, .slice A.y g.ros.length A.yc, .slice A.ua g.us.length A.uc, .slice A.sa g.ss.length A.sc, .slice A.fa g.fs.length A.fc, .slice A.ra g.es.length A.rc, .int .i64 g.nx, .slice A.la g.fl.length A.lc, .slice A.ca g.co.length A.cc, .int .i64 g.nw, .int .i64 g.dr, .int .i64 g.sn]) := G0.out.below bx
  have X1 : Hid (Below w.heap.size w w1) := X0.out.trans (bx.mono X0.out.size)
  clear bx G0 X0
  cases q1 with
  | false =>
    go_wp2
    go_ret
    exact ⟨rfl, X1.out⟩
  | true =>
    have u13 := G1.out.cell 13 rfl
    go_wp2_with fail
    refine (H2.out _ (GR.out.below X1.out)).mono ?_
    rintro e w2 ⟨rfl, bx⟩
    clear u13
    have G2 : Hid (Bx w2 w.heap.size [.int .i64 g.ip, .int .i64 g.b, .int .i64 g.gt, .string g.gm, .string g.wm, .int .i64 g.rs, .slice A.x g.ps.length A.xc, .slice A.y g.ros.length A.yc, .slice A.ua g.us.length A.uc, .slice A.sa g.ss.length A.sc, .slice A.fa g.fs.length A.fc, .slice A.ra g.es.length A.rc, .int .i64 g.nx, .slice A.la g.fl.length A.lc, .slice A.ca g.co.length A.cc, .int .i64 g.nw, .int .i64 g.dr, .int .i64 g.sn]) := G1.out.below bx
    have X2 : Hid (Below w.heap.size w w2) := X1.out.trans (bx.mono X1.out.size)
    clear bx G1 X1
    cases q2 with
    | false =>
      go_wp2
      go_ret
      exact ⟨rfl, X2.out⟩
    | true =>
      have u0 := G2.out.cell 0 rfl
      have u1 := G2.out.cell 1 rfl
      have u2 := G2.out.cell 2 rfl
      have u3 := G2.out.cell 3 rfl
      have u4 := G2.out.cell 4 rfl
      have u5 := G2.out.cell 5 rfl
      have u6 := G2.out.cell 6 rfl
      have u7 := G2.out.cell 7 rfl
      have u8 := G2.out.cell 8 rfl
      have u9 := G2.out.cell 9 rfl
      have u10 := G2.out.cell 10 rfl
      have u11 := G2.out.cell 11 rfl
      have u12 := G2.out.cell 12 rfl
      have u13 := G2.out.cell 13 rfl
      have u14 := G2.out.cell 14 rfl
      have u15 := G2.out.cell 15 rfl
      have u16 := G2.out.cell 16 rfl
      have u17 := G2.out.cell 17 rfl
      go_wp2_with fail
      refine (H3.out _ (GR.out.below X2.out)).mono ?_
      rintro e w3 ⟨rfl, bx⟩
      clear u0
      clear u1
      clear u2
      clear u3
      clear u4
      clear u5
      clear u6
      clear u7
      clear u8
      clear u9
      clear u10
      clear u11
      clear u12
      clear u13
      clear u14
      clear u15
      clear u16
      clear u17
      have G3 : Hid (Bx w3 w.heap.size [.int .i64 g.ip, .int .i64 g.b, .int .i64 g.gt, .string g.gm, .string g.wm, .int .i64 g.rs, .slice A.x g.ps.length A.xc, .slice A.y g.ros.length A.yc, .slice A.ua g.us.length A.uc, .slice A.sa g.ss.length A.sc, .slice A.fa g.fs.length A.fc, .slice A.ra g.es.length A.rc, .int .i64 g.nx, .slice A.la g.fl.length A.lc, .slice A.ca g.co.length A.cc, .int .i64 g.nw, .int .i64 g.dr, .int .i64 g.sn]) := G2.out.below bx
      have X3 : Hid (Below w.heap.size w w3) := X2.out.trans (bx.mono X2.out.size)
      clear bx G2 X2
      cases q3 with
      | false =>
        go_wp2
        go_ret
        exact ⟨rfl, X3.out⟩
      | true =>
        have u14 := G3.out.cell 14 rfl
        go_wp2_with fail
        refine (H4.out _ (GR.out.below X3.out)).mono ?_
        rintro e w4 ⟨rfl, bx⟩
        clear u14
        have G4 : Hid (Bx w4 w.heap.size [.int .i64 g.ip, .int .i64 g.b, .int .i64 g.gt, .string g.gm, .string g.wm, .int .i64 g.rs, .slice A.x g.ps.length A.xc, .slice A.y g.ros.length A.yc, .slice A.ua g.us.length A.uc, .slice A.sa g.ss.length A.sc, .slice A.fa g.fs.length A.fc, .slice A.ra g.es.length A.rc, .int .i64 g.nx, .slice A.la g.fl.length A.lc, .slice A.ca g.co.length A.cc, .int .i64 g.nw, .int .i64 g.dr, .int .i64 g.sn]) := G3.out.below bx
        have X4 : Hid (Below w.heap.size w w4) := X3.out.trans (bx.mono X3.out.size)
        clear bx G3 X3
        cases q4 with
        | false =>
          go_wp2
          go_ret
          exact ⟨rfl, X4.out⟩
        | true =>
          have u15 := G4.out.cell 15 rfl
          go_wp2_with fail
          refine (H5.out _ (GR.out.below X4.out)).mono ?_
          rintro e w5 ⟨rfl, bx⟩
          clear u15
          have G5 : Hid (Bx w5 w.heap.size [.int .i64 g.ip, .int .i64 g.b, .int .i64 g.gt, .string g.gm, .string g.wm, .int .i64 g.rs, .slice A.x g.ps.length A.xc, .slice A.y g.ros.length A.yc, .slice A.ua g.us.length A.uc, .slice A.sa g.ss.length A.sc, .slice A.fa g.fs.length A.fc, .slice A.ra g.es.length A.rc, .int .i64 g.nx, .slice A.la g.fl.length A.lc, .slice A.ca g.co.length A.cc, .int .i64 g.nw, .int .i64 g.dr, .int .i64 g.sn]) := G4.out.below bx
          have X5 : Hid (Below w.heap.size w w5) := X4.out.trans (bx.mono X4.out.size)
          clear bx G4 X4
          cases q5 with
          | false =>
            go_wp2
            go_ret
            exact ⟨rfl, X5.out⟩
          | true =>
            have u16 := G5.out.cell 16 rfl
            go_wp2_with fail
            refine (H6.out _ (GR.out.below X5.out)).mono ?_
            rintro e w6 ⟨rfl, bx⟩
            clear u16
            have G6 : Hid (Bx w6 w.heap.size [.int .i64 g.ip, .int .i64 g.b, .int .i64 g.gt, .string g.gm, .string g.wm, .int .i64 g.rs, .slice A.x g.ps.length A.xc, .slice A.y g.ros.length A.yc, .slice A.ua g.us.length A.uc, .slice A.sa g.ss.length A.sc, .slice A.fa g.fs.length A.fc, .slice A.ra g.es.length A.rc, .int .i64 g.nx, .slice A.la g.fl.length A.lc, .slice A.ca g.co.length A.cc, .int .i64 g.nw, .int .i64 g.dr, .int .i64 g.sn]) := G5.out.below bx
            have X6 : Hid (Below w.heap.size w w6) := X5.out.trans (bx.mono X5.out.size)
            clear bx G5 X5
            cases q6 with
            | false =>
              go_wp2
              go_ret
              exact ⟨rfl, X6.out⟩
            | true =>
              have u17 := G6.out.cell 17 rfl
              go_wp2_with fail
              refine (H7.out _ (GR.out.below X6.out)).mono ?_
              rintro e w7 ⟨rfl, bx⟩
              clear u17
              have G7 : Hid (Bx w7 w.heap.size [.int .i64 g.ip, .int .i64 g.b, .int .i64 g.gt, .string g.gm, .string g.wm, .int .i64 g.rs, .slice A.x g.ps.length A.xc, .slice A.y g.ros.length A.yc, .slice A.ua g.us.length A.uc, .slice A.sa g.ss.length A.sc, .slice A.fa g.fs.length A.fc, .slice A.ra g.es.length A.rc, .int .i64 g.nx, .slice A.la g.fl.length A.lc, .slice A.ca g.co.length A.cc, .int .i64 g.nw, .int .i64 g.dr, .int .i64 g.sn]) := G6.out.below bx
              have X7 : Hid (Below w.heap.size w w7) := X6.out.trans (bx.mono X6.out.size)
              clear bx G6 X6
              cases q7 with
              | false =>
                go_wp2
                go_ret
                exact ⟨rfl, X7.out⟩
              | true =>
                go_wp2
                go_ret
                exact ⟨rfl, X7.out⟩
end Go.Proofs.YtlebblmlbhnppaaGreat

namespace Go.Proofs.YtlebblmlbhnppaaGreat
open Go.RowKit Go.PlainAid Go.Proofs.YtlebblmlbhnppaaGreat.Bt Go.Sort
set_option linter.unusedVariables false
set_option maxRecDepth 20000
theorem marks1_any (z : RecV) (q : Int) (B : Nat) (w : World) (hc : w.cell? ⟨B, 0, none⟩ = some (.int .i64 q)) :
    Calls Tryz.prog 176 #[.agg #[.int .i64 z.id, .int .i64 z.tm, .int .i64 z.ca, .int .i64 z.bt, .bool z.st], .pointer (some ⟨B, 0, none⟩)] w fun e w' => e = .returned (.bool (z.id == q)) ∧ Below w.heap.size w w' := by
  have hc2 := acell hc (.cells #[.int .i64 z.id, .int .i64 z.tm, .int .i64 z.ca, .int .i64 z.bt, .bool z.st] 163)
  obtain ⟨u, hu⟩ : ∃ u, (z.id == q) = u := ⟨_, rfl⟩
  rw [hu]
  go_enter Tryz.func176, Tryz.ntmps176
  go_wp2
  go_ret
  exact ⟨by first | rfl | (rw [hu]; rfl), (Below.refl _ _).alloc (Nat.le_refl _) _⟩
set_option maxHeartbeats 4000000 in
theorem marksOf_any (a : Option Addr) (n c : Nat) (es : List RecV) (q : Int) (w : World) (h : Rw ReR 5 w a es) (hl : es.length = n) (hn : n ≤ 1048576) :
    Calls Tryz.prog 103 #[.slice a n c, .int .i64 q] w fun e w' => e = .returned (.int .i64 (mrN (begB es q) (endB es q))) ∧ Below w.heap.size w w' := by
  have HX : Hid (∀ W, Below w.heap.size w W → W.cell? ⟨w.heap.size, 0, none⟩ = some (.int .i64 q) → Calls Tryz.prog 175 #[.slice a n c, .func (.func 176) #[] #[.pointer (some ⟨w.heap.size, 0, none⟩)]] W fun e w' => ∃ v, e = .returned v ∧ OwnS evG 5 163 w' W.heap.size v (es.filter (fun r => r.id == q)) ∧ Below W.heap.size W w') := fun W b hc => filtRec_any a n c es 176 _ (fun r => r.id == q) W (h.keep ReR.kp b) hl hn (enters_of Tryz.func176 (by kernel_rfl) rfl) (fun z hz W2 b2 => marks1_any z q _ W2 (bkeep b2 hc))
  have HK : Hid (∀ x, x ∈ es → ReRok x) := by
    intro x hx
    obtain ⟨i, hi⟩ := List.getElem?_of_mem hx
    obtain ⟨b, off, vs, _, _, _, h2, _⟩ := h.at ReR.kp (Below.refl _ _) hi
    exact h2.2
  have EQ : Hid (mrN (begB es q) (endB es q) = mrN ((es.filter (fun r => r.id == q)).any (fun r => !r.st)) ((es.filter (fun r => r.id == q)).any (fun r => r.st))) := by
    show _ = _
    rw [List.any_filter, List.any_filter]; rfl
  rw [EQ.out]
  have hle : (es.filter (fun r => r.id == q)).length ≤ 1048576 := Nat.le_trans (List.length_filter_le _ _) (by omega)
  have HKf : Hid (∀ x, x ∈ es.filter (fun r => r.id == q) → ReRok x) := fun x hx => HK.out x (List.mem_filter.1 hx).1
  clear h EQ HK
  generalize es.filter (fun r => r.id == q) = L at HX HKf hle ⊢
  go_enter Tryz.func103, Tryz.ntmps103
  go_wp2_with (go_at_call 175; refine (HX.out _ ((Below.refl _ _).alloc (Nat.le_refl _) _) (by simp [go_sem])).mono ?_; rintro e w1 ⟨v, rfl, o1, b1⟩; obtain ⟨ax, cx, rfl, -⟩ := o1.slice; have RW : Hid (Rw ReR 5 w1 ax L) := o1.rw (ok := ReRok) (fun _ => rfl) HKf.out; have B1 : Hid (Below w.heap.size w w1) := ((Below.refl _ _).alloc (Nat.le_refl _) _).trans (b1.mono (by simp)); clear o1 b1 HX HKf)
  go_loopw [5, 12] (fun m u wr => ∃ k : Nat, k ≤ L.length ∧ u = .int .i64 k ∧ m = .int .i64 (mrN ((L.take k).any (fun r => !r.st)) ((L.take k).any (fun r => r.st))) ∧ Hid (Below w1.heap.size w1 wr)) (fun _ u _ => L.length - (intOf u).toNat)
  case atStart => exact ⟨0, Nat.zero_le _, rfl, rfl, Below.refl _ _⟩
  case round =>
    obtain ⟨k, hk, rfl, rfl, X⟩ := hrel
    by_cases hlt : k < L.length
    · obtain ⟨z, hx⟩ := at_of rfl hlt
      have hltz : (k : Int) < (L.length : Int) := by omega
      obtain ⟨b, off, vs, rfl, hb, hvl, hR, hc⟩ := RW.out.at ReR.kp X.out hx
      have s1 := any_take_step (p := fun r : RecV => !r.st) hx
      have s2 := any_take_step (p := fun r : RecV => r.st) hx
      obtain ⟨rfl, -⟩ := hR
      have q0 : wr.cell? ⟨b, off + k * 5, none⟩ = some (.int .i64 z.id) := hc 0 _ rfl
      have q1 : wr.cell? ⟨b, off + k * 5 + 1, none⟩ = some (.int .i64 z.tm) := hc 1 _ rfl
      have q2 : wr.cell? ⟨b, off + k * 5 + 2, none⟩ = some (.int .i64 z.ca) := hc 2 _ rfl
      have q3 : wr.cell? ⟨b, off + k * 5 + 3, none⟩ = some (.int .i64 z.bt) := hc 3 _ rfl
      have q4 : wr.cell? ⟨b, off + k * 5 + 4, none⟩ = some (.bool z.st) := hc 4 _ rfl
      generalize (L.take k).any (fun r => !r.st) = c1 at s1 ⊢
      generalize (L.take k).any (fun r => r.st) = c2 at s2 ⊢
      obtain ⟨zs, hzs⟩ : ∃ b, z.st = b := ⟨_, rfl⟩
      rw [hzs] at q4 s1 s2
      clear hc hvl hx
      cases zs with
      | false =>
        have E1 : Hid ((L.take (k + 1)).any (fun r => !r.st) = true) := by show _ = _; rw [s1]; simp
        have E2 : Hid ((L.take (k + 1)).any (fun r => r.st) = c2) := by show _ = _; rw [s2]; simp
        have hor := mk_or1 c1 c2
        have X2 : Hid (Below w1.heap.size w1 (wr.alloc (.cells #[.int .i64 z.id, .int .i64 z.tm, .int .i64 z.ca, .int .i64 z.bt, .bool false] 163))) := X.out.alloc X.out.size _
        clear s1 s2 X
        obtain ⟨m0, hm0⟩ : ∃ m, mrN c1 c2 = m := ⟨_, rfl⟩
        obtain ⟨m1, hm1⟩ : ∃ m, mrN true c2 = m := ⟨_, rfl⟩
        rw [hm0, hm1] at hor
        rw [hm0]
        go_wp2
        go_roundw
        case rel => exact ⟨k + 1, by omega, by go_num, by rw [E1.out, E2.out, hm1], X2⟩
        case measure => simp [intOf]; omega
      | true =>
        have E1 : Hid ((L.take (k + 1)).any (fun r => !r.st) = c1) := by show _ = _; rw [s1]; simp
        have E2 : Hid ((L.take (k + 1)).any (fun r => r.st) = true) := by show _ = _; rw [s2]; simp
        have hor := mk_or2 c1 c2
        have X2 : Hid (Below w1.heap.size w1 (wr.alloc (.cells #[.int .i64 z.id, .int .i64 z.tm, .int .i64 z.ca, .int .i64 z.bt, .bool true] 163))) := X.out.alloc X.out.size _
        clear s1 s2 X
        obtain ⟨m0, hm0⟩ : ∃ m, mrN c1 c2 = m := ⟨_, rfl⟩
        obtain ⟨m1, hm1⟩ : ∃ m, mrN c1 true = m := ⟨_, rfl⟩
        rw [hm0, hm1] at hor
        rw [hm0]
        go_wp2
        go_roundw
        case rel => exact ⟨k + 1, by omega, by go_num, by rw [E1.out, E2.out, hm1], X2⟩
        case measure => simp [intOf]; omega
    · obtain rfl : k = L.length := by omega
      rw [any_take_all (Nat.le_refl _)]
      go_wp2
      go_ret
      exact ⟨rfl, B1.out.trans (X.out.mono B1.out.size)⟩
set_option maxHeartbeats 2000000 in
theorem bh1_any (A : GtA) (g : GtV) (z : SessV) (B : Nat) (w : World) (h : Rw ReR 5 w A.ra g.es) (hn : g.es.length ≤ 1048576) (hb : Bx w B [.int .i64 g.ip, .int .i64 g.b, .int .i64 g.gt, .string g.gm, .string g.wm, .int .i64 g.rs, .slice A.x g.ps.length A.xc, .slice A.y g.ros.length A.yc, .slice A.ua g.us.length A.uc, .slice A.sa g.ss.length A.sc, .slice A.fa g.fs.length A.fc, .slice A.ra g.es.length A.rc, .int .i64 g.nx, .slice A.la g.fl.length A.lc, .slice A.ca g.co.length A.cc, .int .i64 g.nw, .int .i64 g.dr, .int .i64 g.sn]) :
    Calls Tryz.prog 102 #[.agg #[.int .i64 z.id, .int .i64 z.us, .string z.mc, .int .i64 z.ip, .int .i64 z.be, .int .i64 z.la, .int .i64 z.ud, .int .i64 z.qu, .int .i64 z.un, .int .i64 z.il], .pointer (some ⟨B, 0, none⟩)] w fun e w' => e = .returned (.bool (mrN (begB g.es z.id) (endB g.es z.id) != 1)) ∧ Below w.heap.size w w' := by
  have HX : Hid (∀ W, Below w.heap.size w W → Calls Tryz.prog 103 #[.slice A.ra g.es.length A.rc, .int .i64 z.id] W fun e w' => e = .returned (.int .i64 (mrN (begB g.es z.id) (endB g.es z.id))) ∧ Below W.heap.size W w') := fun W b => marksOf_any _ _ _ g.es z.id W (h.keep ReR.kp b) rfl hn
  have hc := (hb.below ((Below.refl _ _).alloc (Nat.le_refl _) (.cells #[.int .i64 z.id, .int .i64 z.us, .string z.mc, .int .i64 z.ip, .int .i64 z.be, .int .i64 z.la, .int .i64 z.ud, .int .i64 z.qu, .int .i64 z.un, .int .i64 z.il] 137))).cell 11 rfl
  clear h hb
  generalize mrN (begB g.es z.id) (endB g.es z.id) = m at HX ⊢
  go_enter Tryz.func102, Tryz.ntmps102
  go_wp2_with fail
  refine (HX.out _ ((Below.refl _ _).alloc (Nat.le_refl _) _)).mono ?_
  rintro e w1 ⟨rfl, b1⟩
  have B1 : Hid (Below w.heap.size w w1) := ((Below.refl _ _).alloc (Nat.le_refl _) _).trans (b1.mono (by simp))
  clear b1
  go_wp2
  go_ret
  exact ⟨rfl, B1.out⟩
set_option maxHeartbeats 4000000 in
theorem implBytesHold_any (A : GtA) (g : GtV) (w : World) (h : GtR w A g) (hs : GtS g) :
    Calls Tryz.prog 33 #[.agg #[.int .i64 g.ip, .int .i64 g.b, .int .i64 g.gt, .string g.gm, .string g.wm, .int .i64 g.rs, .slice A.x g.ps.length A.xc, .slice A.y g.ros.length A.yc, .slice A.ua g.us.length A.uc, .slice A.sa g.ss.length A.sc, .slice A.fa g.fs.length A.fc, .slice A.ra g.es.length A.rc, .int .i64 g.nx, .slice A.la g.fl.length A.lc, .slice A.ca g.co.length A.cc, .int .i64 g.nw, .int .i64 g.dr, .int .i64 g.sn]] w fun e w' => e = .returned (.tuple #[.bool (bhB g), .int .i64 (bhC g)]) ∧ Below w.heap.size w w' := by
  have GR : Hid (GtR w A g) := h
  have HG : Hid (∀ w, GtR w A g → Calls Tryz.prog 24 #[.agg #[.int .i64 g.ip, .int .i64 g.b, .int .i64 g.gt, .string g.gm, .string g.wm, .int .i64 g.rs, .slice A.x g.ps.length A.xc, .slice A.y g.ros.length A.yc, .slice A.ua g.us.length A.uc, .slice A.sa g.ss.length A.sc, .slice A.fa g.fs.length A.fc, .slice A.ra g.es.length A.rc, .int .i64 g.nx, .slice A.la g.fl.length A.lc, .slice A.ca g.co.length A.cc, .int .i64 g.nw, .int .i64 g.dr, .int .i64 g.sn]] w fun e w' => e = .returned (.bool (gtB g)) ∧ Below w.heap.size w w') := fun w h => implGate_any A g w h hs
  have HR : Hid (gtB g = true → ∀ w, GtR w A g → Calls Tryz.prog 101 #[.slice A.ra g.es.length A.rc] w fun e w' => e = .returned (.tuple #[.bool (recB g.es), .int .i64 0]) ∧ Below w.heap.size w w') := fun hg w h => implRecordsHold_any _ _ _ g.es w h.es rfl (by have := (gt_lens hg).2.2; omega)
  have HF : Hid (∀ W B, GtR W A g → Bx W B [.int .i64 g.ip, .int .i64 g.b, .int .i64 g.gt, .string g.gm, .string g.wm, .int .i64 g.rs, .slice A.x g.ps.length A.xc, .slice A.y g.ros.length A.yc, .slice A.ua g.us.length A.uc, .slice A.sa g.ss.length A.sc, .slice A.fa g.fs.length A.fc, .slice A.ra g.es.length A.rc, .int .i64 g.nx, .slice A.la g.fl.length A.lc, .slice A.ca g.co.length A.cc, .int .i64 g.nw, .int .i64 g.dr, .int .i64 g.sn] → Calls Tryz.prog 97 #[.slice A.sa g.ss.length A.sc, .func (.func 102) #[] #[.pointer (some ⟨B, 0, none⟩)]] W fun e w' => ∃ v, e = .returned v ∧ OwnS svG 10 137 w' W.heap.size v (g.ss.filter (fun s => mrN (begB g.es s.id) (endB g.es s.id) != 1)) ∧ Below W.heap.size W w') := fun W B h hb => filtSess_any _ _ _ g.ss 102 _ (fun s => mrN (begB g.es s.id) (endB g.es s.id) != 1) W h.ss rfl hs.ss (enters_of Tryz.func102 (by kernel_rfl) rfl) (fun z hz W2 b2 => bh1_any A g z B W2 (h.below b2).es hs.es (hb.below b2))
  have EL : Hid (recB g.es = true → (((g.ss.filter (fun s => mrN (begB g.es s.id) (endB g.es s.id) != 1)).length : Int) == 0) = g.ss.all (fun s => opnB g.es s.id)) := fun hr => flt_astray (fun s _ => by show (mrN (begB g.es s.id) (endB g.es s.id) != 1) = !(opnB g.es s.id); rw [mk_one, opn_marks hr])
  have EB : Hid (bhB g = (gtB g && (recB g.es && g.ss.all (fun s => opnB g.es s.id)))) := rfl
  have EC : Hid (bhC g = if gtB g = true then 0 else 1) := rfl
  have G0 : Hid (Bx (w.alloc (.cells #[.int .i64 g.ip, .int .i64 g.b, .int .i64 g.gt, .string g.gm, .string g.wm, .int .i64 g.rs, .slice A.x g.ps.length A.xc, .slice A.y g.ros.length A.yc, .slice A.ua g.us.length A.uc, .slice A.sa g.ss.length A.sc, .slice A.fa g.fs.length A.fc, .slice A.ra g.es.length A.rc, .int .i64 g.nx, .slice A.la g.fl.length A.lc, .slice A.ca g.co.length A.cc, .int .i64 g.nw, .int .i64 g.dr, .int .i64 g.sn] 50)) w.heap.size [.int .i64 g.ip, .int .i64 g.b, .int .i64 g.gt, .string g.gm, .string g.wm, .int .i64 g.rs, .slice A.x g.ps.length A.xc, .slice A.y g.ros.length A.yc, .slice A.ua g.us.length A.uc, .slice A.sa g.ss.length A.sc, .slice A.fa g.fs.length A.fc, .slice A.ra g.es.length A.rc, .int .i64 g.nx, .slice A.la g.fl.length A.lc, .slice A.ca g.co.length A.cc, .int .i64 g.nw, .int .i64 g.dr, .int .i64 g.sn]) := Bx.new w #[.int .i64 g.ip, .int .i64 g.b, .int .i64 g.gt, .string g.gm, .string g.wm, .int .i64 g.rs, .slice A.x g.ps.length A.xc, .slice A.y g.ros.length A.yc, .slice A.ua g.us.length A.uc, .slice A.sa g.ss.length A.sc, .slice A.fa g.fs.length A.fc, .slice A.ra g.es.length A.rc, .int .i64 g.nx, .slice A.la g.fl.length A.lc, .slice A.ca g.co.length A.cc, .int .i64 g.nw, .int .i64 g.dr, .int .i64 g.sn] 50
  have X0 : Hid (Below w.heap.size w (w.alloc (.cells #[.int .i64 g.ip, .int .i64 g.b, .int .i64 g.gt, .string g.gm, .string g.wm, .int .i64 g.rs, .slice A.x g.ps.length A.xc, .slice A.y g.ros.length A.yc, .slice A.ua g.us.length A.uc, .slice A.sa g.ss.length A.sc, .slice A.fa g.fs.length A.fc, .slice A.ra g.es.length A.rc, .int .i64 g.nx, .slice A.la g.fl.length A.lc, .slice A.ca g.co.length A.cc, .int .i64 g.nw, .int .i64 g.dr, .int .i64 g.sn] 50))) := (Below.refl _ _).alloc (Nat.le_refl _) _
  rw [EB.out, EC.out]
  clear EB EC h hs
  generalize gtB g = z at HG HR ⊢
  generalize hL : g.ss.filter (fun s => mrN (begB g.es s.id) (endB g.es s.id) != 1) = L at HF EL
  clear hL
  generalize g.ss.all (fun s => opnB g.es s.id) = za at EL ⊢
  generalize recB g.es = zr at HR EL ⊢
  go_enter Tryz.func33, Tryz.ntmps33
  go_wp2_with (first | (refine wpl_getO 50 rfl _ rfl w.heap.size 0 [.int .i64 g.ip, .int .i64 g.b, .int .i64 g.gt, .string g.gm, .string g.wm, .int .i64 g.rs, .slice A.x g.ps.length A.xc, .slice A.y g.ros.length A.yc, .slice A.ua g.us.length A.uc, .slice A.sa g.ss.length A.sc, .slice A.fa g.fs.length A.fc, .slice A.ra g.es.length A.rc, .int .i64 g.nx, .slice A.la g.fl.length A.lc, .slice A.ca g.co.length A.cc, .int .i64 g.nw, .int .i64 g.dr, .int .i64 g.sn] rfl G0.out rfl _ Tryz.underlying50 rfl rfl ?_) | fail)
  refine (HG.out _ (GR.out.below X0.out)).mono ?_
  rintro e w1 ⟨rfl, bx⟩
  have G1 : Hid (Bx w1 w.heap.size [.int .i64 g.ip, .int .i64 g.b, .int .i64 g.gt, .string g.gm, .string g.wm, .int .i64 g.rs, .slice A.x g.ps.length A.xc, .slice A.y g.ros.length A.yc, .slice A.ua g.us.length A.uc, .slice A.sa g.ss.length A.sc, .slice A.fa g.fs.length A.fc, .slice A.ra g.es.length A.rc, .int .i64 g.nx, .slice A.la g.fl.length A.lc, .slice A.ca g.co.length A.cc, .int .i64 g.nw, .int .i64 g.dr, .int .i64 g.sn]) := G0.out.below bx
  have X1 : Hid (Below w.heap.size w w1) := X0.out.trans (bx.mono X0.out.size)
  clear bx G0 X0 HG
  cases z with
  | false =>
    go_wp2
    go_ret2
    exact ⟨rfl, X1.out⟩
  | true =>
    have HR2 : Hid (∀ w, GtR w A g → Calls Tryz.prog 101 #[.slice A.ra g.es.length A.rc] w fun e w' => e = .returned (.tuple #[.bool zr, .int .i64 0]) ∧ Below w.heap.size w w') := HR.out (by simp)
    clear HR
    have u11 := G1.out.cell 11 rfl
    go_wp2_with fail
    refine (HR2.out _ (GR.out.below X1.out)).mono ?_
    rintro e w2 ⟨rfl, bx⟩
    have G2 : Hid (Bx w2 w.heap.size [.int .i64 g.ip, .int .i64 g.b, .int .i64 g.gt, .string g.gm, .string g.wm, .int .i64 g.rs, .slice A.x g.ps.length A.xc, .slice A.y g.ros.length A.yc, .slice A.ua g.us.length A.uc, .slice A.sa g.ss.length A.sc, .slice A.fa g.fs.length A.fc, .slice A.ra g.es.length A.rc, .int .i64 g.nx, .slice A.la g.fl.length A.lc, .slice A.ca g.co.length A.cc, .int .i64 g.nw, .int .i64 g.dr, .int .i64 g.sn]) := G1.out.below bx
    have X2 : Hid (Below w.heap.size w w2) := X1.out.trans (bx.mono X1.out.size)
    clear bx G1 X1 HR2 u11
    cases zr with
    | false =>
      have u9 := G2.out.cell 9 rfl
      go_wp2_with (go_at_call 97; refine (HF.out _ _ (GR.out.below X2.out) G2.out).mono ?_; rintro e w3 ⟨v, rfl, o3, bx⟩; obtain ⟨ax, cx, rfl, -⟩ := o3.slice; have X3 : Hid (Below w.heap.size w w3) := X2.out.trans (bx.mono X2.out.size); clear bx o3 G2 X2 u9 HF)
      go_ret2
      exact ⟨by first | rfl | simp, X3.out⟩
    | true =>
      have EL2 : Hid (((L.length : Int) == 0) = za) := EL.out (by simp)
      have u9 := G2.out.cell 9 rfl
      go_wp2_with (go_at_call 97; refine (HF.out _ _ (GR.out.below X2.out) G2.out).mono ?_; rintro e w3 ⟨v, rfl, o3, bx⟩; obtain ⟨ax, cx, rfl, -⟩ := o3.slice; have X3 : Hid (Below w.heap.size w w3) := X2.out.trans (bx.mono X2.out.size); clear bx o3 G2 X2 u9 HF)
      go_ret2
      exact ⟨by rw [← EL2.out]; rfl, X3.out⟩
end Go.Proofs.YtlebblmlbhnppaaGreat

namespace Go.Proofs.YtlebblmlbhnppaaGreat
open Go.RowKit Go.PlainAid Go.Proofs.YtlebblmlbhnppaaGreat.Bt Go.Sort
set_option linter.unusedVariables false
set_option maxRecDepth 20000

set_option maxHeartbeats 2000000 in
theorem l08Role_any (ip b gt : Int) (gm wm : ByteArray) (rs : Int) (x y : Option Addr) (lenx capx leny capy : Nat) (ros : List RoleV) (nm2 : ByteArray) (w : World) (h : Rw (RoR 0) 5 w y ros) (hl : ros.length = leny) (hl9 : leny ≤ 1048576) :
    Calls Tryz.prog 92 #[.agg #[.int .i64 ip, .int .i64 b, .int .i64 gt, .string gm, .string wm, .int .i64 rs, .slice x lenx capx, .slice y leny capy], .string nm2] w fun e w' => e = .returned (.int .i64 (roI ros nm2)) ∧ Grw w w' := by
  have RY : Hid (Rw (RoR 0) 5 w y ros) := h
  clear h
  go_enter Tryz.func92, Tryz.ntmps92
  go_wp2
  go_loopw [5] (fun u wr => ∃ k : Nat, k ≤ leny ∧ u = .int .i64 k ∧ Hid ((ros.take k).find? (rfP nm2) = none) ∧ Hid (Grw w wr ∧ wr.cell? ⟨w.heap.size, 7, none⟩ = some (.slice y leny capy))) (fun u _ => leny - (intOf u).toNat)
  case atStart => exact ⟨0, Nat.zero_le _, rfl, rfl, (Grw.refl _).alloc _, by simp [go_sem]⟩
  case round =>
    obtain ⟨k, hk, rfl, HO, HG⟩ := hrel
    have gs := HG.out.2
    by_cases hlt : k < leny
    · obtain ⟨z, hx⟩ := at_of hl hlt
      obtain ⟨bk, off, vs, rfl, hb, hvl, hR, hc⟩ := RY.out.at (RoR.kp 0) HG.out.1.below hx
      have HY : Hid (rfP nm2 z = true → roI ros nm2 = k) := fun h => by unfold roI; rw [bfind_yes hx HO.out h, bfind_at hx HO.out h]
      have HN : Hid (rfP nm2 z = false → (ros.take (k + 1)).find? (rfP nm2) = none) := fun h => bfind_no hx HO.out h
      have HX : Hid (ros[k]? = some z) := hx
      clear hx
      obtain ⟨nm, rrs, rq, rm, ri⟩ := z
      obtain ⟨ra, rc, rfl, -⟩ := hR
      have q0 : wr.cell? ⟨bk, off + k * 5, none⟩ = some (.string nm) := hc 0 _ rfl
      have hltz : (k : Int) < (leny : Int) := by omega
      have he : rfP nm2 ⟨nm, rrs, rq, rm, ri⟩ = (nm.toList == nm2.toList) := rfl
      rw [he] at HY HN
      obtain ⟨u, hu⟩ : ∃ u, (nm.toList == nm2.toList) = u := ⟨_, rfl⟩
      rw [hu] at HY HN
      clear hc hvl he
      cases u with
      | false =>
        have HN' : Hid ((ros.take (k + 1)).find? (rfP nm2) = none) := HN.out rfl
        clear HY HN
        go_wp2
        go_roundw
        case rel => exact ⟨k + 1, by omega, by go_num, HN', HG⟩
        case measure => simp [intOf]; omega
      | true =>
        have HY' : Hid (roI ros nm2 = k) := HY.out rfl
        clear HY HN
        go_wp2
        go_ret
        exact ⟨by rw [HY'.out]; rfl, HG.out.1⟩
    · obtain rfl : k = leny := by omega
      have hd : Hid (roI ros nm2 = -1) := by show roI ros nm2 = -1; unfold roI; rw [bfind_end hl HO.out]
      go_wp2
      go_ret
      exact ⟨by rw [hd.out]; rfl, HG.out.1⟩
set_option maxHeartbeats 8000000 in
theorem l08Users_any (ip b gt : Int) (gm wm : ByteArray) (rs : Int) (x y : Option Addr) (lenx capx leny capy : Nat) (ros : List RoleV) (a : Option Addr) (len cap : Nat) (us : List UserV) (w : World) (h : Rw (RoR 0) 5 w y ros) (hl2 : ros.length = leny) (hu : Rw UsR 6 w a us) (hl : us.length = len) (hsz : SzU us) (hl9 : leny ≤ 1048576) (hl8 : len ≤ 1048576) :
    Calls Tryz.prog 109 #[.agg #[.int .i64 ip, .int .i64 b, .int .i64 gt, .string gm, .string wm, .int .i64 rs, .slice x lenx capx, .slice y leny capy], .slice a len cap] w fun e w' => e = .returned (.bool (usB ros us)) ∧ Grw w w' := by
  have RY : Hid (Rw (RoR 0) 5 w y ros) := h
  have RW : Hid (Rw UsR 6 w a us) := hu
  have SZ : Hid (SzU us) := hsz
  clear h hu hsz
  go_enter Tryz.func109, Tryz.ntmps109
  go_wp2
  go_loopw [5] (fun u wr => ∃ k : Nat, k ≤ len ∧ u = .int .i64 k ∧ Hid ((List.range k).all (risAt (uB ros) ltU us) = true) ∧ Hid (Grw w wr ∧ wr.cell? ⟨w.heap.size, 0, none⟩ = some (.int .i64 ip) ∧ wr.cell? ⟨w.heap.size, 1, none⟩ = some (.int .i64 b) ∧ wr.cell? ⟨w.heap.size, 2, none⟩ = some (.int .i64 gt) ∧ wr.cell? ⟨w.heap.size, 3, none⟩ = some (.string gm) ∧ wr.cell? ⟨w.heap.size, 4, none⟩ = some (.string wm) ∧ wr.cell? ⟨w.heap.size, 5, none⟩ = some (.int .i64 rs) ∧ wr.cell? ⟨w.heap.size, 6, none⟩ = some (.slice x lenx capx) ∧ wr.cell? ⟨w.heap.size, 7, none⟩ = some (.slice y leny capy))) (fun u _ => len - (intOf u).toNat)
  case atStart => exact ⟨0, Nat.zero_le _, rfl, rfl, (Grw.refl _).alloc _, by simp [go_sem], by simp [go_sem], by simp [go_sem], by simp [go_sem], by simp [go_sem], by simp [go_sem], by simp [go_sem], by simp [go_sem]⟩
  case round =>
    obtain ⟨k, hk, rfl, HO, HG⟩ := hrel
    obtain ⟨G0, d0, d1, d2, d3, d4, d5, d6, d7⟩ := HG.out
    have GG := G0.below
    by_cases hlt : k < len
    · obtain ⟨z, hx⟩ := at_of hl hlt
      obtain ⟨bk, off, vs, rfl, hb, hvl, hR, hc⟩ := RW.out.at UsR.kp GG hx
      have hsz := SZ.out _ (List.mem_of_getElem? hx)
      have HS : Hid (risAt (uB ros) ltU us k = true → (List.range (k + 1)).all (risAt (uB ros) ltU us) = true) := fun h => ris_step HO.out h
      have HF : Hid (risAt (uB ros) ltU us k = false → risB (uB ros) ltU us = false) := fun h => ris_no (by omega) h
      obtain ⟨nm, sa, ha, ro, bl, lg⟩ := z
      obtain ⟨rfl, -⟩ := hR
      have q0 : wr.cell? ⟨bk, off + k * 6, none⟩ = some (.string nm) := hc 0 _ rfl
      have q1 : wr.cell? ⟨bk, off + k * 6 + 1, none⟩ = some (.string sa) := hc 1 _ rfl
      have q2 : wr.cell? ⟨bk, off + k * 6 + 2, none⟩ = some (.string ha) := hc 2 _ rfl
      have q3 : wr.cell? ⟨bk, off + k * 6 + 3, none⟩ = some (.string ro) := hc 3 _ rfl
      have q4 : wr.cell? ⟨bk, off + k * 6 + 4, none⟩ = some (.int .i64 bl) := hc 4 _ rfl
      have q5 : wr.cell? ⟨bk, off + k * 6 + 5, none⟩ = some (.int .i64 lg) := hc 5 _ rfl
      have HN : Hid (∀ w, Calls Tryz.prog 181 #[.string nm] w fun e w' => e = .returned (.bool (snB nm)) ∧ Grw w w') := fun w => (l08Name_any nm w hsz.1).mono fun e w' h => ⟨h.1, h.2 ▸ Grw.refl _⟩
      have HR : Hid (∀ w, Rw (RoR 0) 5 w y ros → Calls Tryz.prog 92 #[.agg #[.int .i64 ip, .int .i64 b, .int .i64 gt, .string gm, .string wm, .int .i64 rs, .slice x lenx capx, .slice y leny capy], .string ro] w fun e w' => e = .returned (.int .i64 (roI ros ro)) ∧ Grw w w') := fun w h => l08Role_any ip b gt gm wm rs x y lenx capx leny capy ros ro w h hl2 hl9
      have HB : Hid (∀ w, Calls Tryz.prog 76 #[.int .i64 bl, .int .i64 0, .int .i64 1000000] w fun e w' => e = .returned (.bool (dec (0 ≤ bl ∧ bl ≤ 1000000))) ∧ Grw w w') := fun w => (specIn_any bl 0 1000000 w).mono fun e w' h => ⟨h.1, h.2 ▸ Grw.refl _⟩
      have HL : Hid (∀ w, Calls Tryz.prog 76 #[.int .i64 lg, .int .i64 0, .int .i64 1000] w fun e w' => e = .returned (.bool (dec (0 ≤ lg ∧ lg ≤ 1000))) ∧ Grw w w') := fun w => (specIn_any lg 0 1000 w).mono fun e w' h => ⟨h.1, h.2 ▸ Grw.refl _⟩
      have hltz : (k : Int) < (len : Int) := by omega
      have hss : (sa.size : Int) ≤ 1048576 := by have := hsz.2.1; dsimp only at this; omega
      have hhs : (ha.size : Int) ≤ 1048576 := by have := hsz.2.2.1; dsimp only at this; omega
      have eu : uB ros ⟨nm, sa, ha, ro, bl, lg⟩ = (snB nm && (dec (sa.size ≤ 40) && (dec (ha.size = 32) && (roH ros ro && (dec (0 ≤ bl ∧ bl ≤ 1000000) && dec (0 ≤ lg ∧ lg ≤ 1000)))))) := rfl
      by_cases hk0 : k = 0
      · have eo : risAt (uB ros) ltU us k = uB ros ⟨nm, sa, ha, ro, bl, lg⟩ := by subst hk0; exact risAt_zero hx
        have hkd : decide (0 < k) = false := decide_eq_false (by omega)
        clear hk0
        rw [eo, eu] at HS HF
        generalize snB nm = q1 at HN HS HF
        obtain ⟨q4, hq4⟩ : ∃ q, roH ros ro = q := ⟨_, rfl⟩
        obtain ⟨r, hr⟩ : ∃ r, roI ros ro = r := ⟨_, rfl⟩
        have hrr : (q4 = false ∧ decide (r < 0) = true) ∨ (q4 = true ∧ decide (r < 0) = false) := by
          rw [← hq4, ← hr]
          unfold roH roI
          cases ros.find? (rfP ro) with
          | none => left; exact ⟨rfl, by simp⟩
          | some v => right; exact ⟨rfl, by first | (simp; done) | (simp; omega)⟩
        rw [hq4] at HS HF
        rw [hr] at HR
        clear hq4 hr
        generalize dec (0 ≤ bl ∧ bl ≤ 1000000) = q5 at HB HS HF
        generalize dec (0 ≤ lg ∧ lg ≤ 1000) = q6 at HL HS HF
        clear hc hvl hx eo eu
        have HA : Hid (Grw w (wr.alloc (.cells #[.string nm, .string sa, .string ha, .string ro, .int .i64 bl, .int .i64 lg] 144))) := G0.alloc _
        have hmix : Tryz.prog.follows .mixedOrders = true := by kernel_rfl
        have y0 : ∀ n os, (grow (World.drewN (wr.alloc (.cells #[.string nm, .string sa, .string ha, .string ro, .int .i64 bl, .int .i64 lg] 144)) n) os).cell? ⟨wr.heap.size, 0, none⟩ = some (.string nm) := fun n os => cell_grown (by simp) (by simp) n os
        have y1 : ∀ n os, (grow (World.drewN (wr.alloc (.cells #[.string nm, .string sa, .string ha, .string ro, .int .i64 bl, .int .i64 lg] 144)) n) os).cell? ⟨wr.heap.size, 1, none⟩ = some (.string sa) := fun n os => cell_grown (by simp) (by simp) n os
        have y2 : ∀ n os, (grow (World.drewN (wr.alloc (.cells #[.string nm, .string sa, .string ha, .string ro, .int .i64 bl, .int .i64 lg] 144)) n) os).cell? ⟨wr.heap.size, 2, none⟩ = some (.string ha) := fun n os => cell_grown (by simp) (by simp) n os
        have y3 : ∀ n os, (grow (World.drewN (wr.alloc (.cells #[.string nm, .string sa, .string ha, .string ro, .int .i64 bl, .int .i64 lg] 144)) n) os).cell? ⟨wr.heap.size, 3, none⟩ = some (.string ro) := fun n os => cell_grown (by simp) (by simp) n os
        have y4 : ∀ n os, (grow (World.drewN (wr.alloc (.cells #[.string nm, .string sa, .string ha, .string ro, .int .i64 bl, .int .i64 lg] 144)) n) os).cell? ⟨wr.heap.size, 4, none⟩ = some (.int .i64 bl) := fun n os => cell_grown (by simp) (by simp) n os
        have y5 : ∀ n os, (grow (World.drewN (wr.alloc (.cells #[.string nm, .string sa, .string ha, .string ro, .int .i64 bl, .int .i64 lg] 144)) n) os).cell? ⟨wr.heap.size, 5, none⟩ = some (.int .i64 lg) := fun n os => cell_grown (by simp) (by simp) n os
        have e0 : ∀ n os, (grow (World.drewN (wr.alloc (.cells #[.string nm, .string sa, .string ha, .string ro, .int .i64 bl, .int .i64 lg] 144)) n) os).cell? ⟨w.heap.size, 0, none⟩ = some (.int .i64 ip) := fun n os => (((Grw.refl wr).alloc _).trans ⟨n, os, rfl⟩).keep d0
        have e1 : ∀ n os, (grow (World.drewN (wr.alloc (.cells #[.string nm, .string sa, .string ha, .string ro, .int .i64 bl, .int .i64 lg] 144)) n) os).cell? ⟨w.heap.size, 1, none⟩ = some (.int .i64 b) := fun n os => (((Grw.refl wr).alloc _).trans ⟨n, os, rfl⟩).keep d1
        have e2 : ∀ n os, (grow (World.drewN (wr.alloc (.cells #[.string nm, .string sa, .string ha, .string ro, .int .i64 bl, .int .i64 lg] 144)) n) os).cell? ⟨w.heap.size, 2, none⟩ = some (.int .i64 gt) := fun n os => (((Grw.refl wr).alloc _).trans ⟨n, os, rfl⟩).keep d2
        have e3 : ∀ n os, (grow (World.drewN (wr.alloc (.cells #[.string nm, .string sa, .string ha, .string ro, .int .i64 bl, .int .i64 lg] 144)) n) os).cell? ⟨w.heap.size, 3, none⟩ = some (.string gm) := fun n os => (((Grw.refl wr).alloc _).trans ⟨n, os, rfl⟩).keep d3
        have e4 : ∀ n os, (grow (World.drewN (wr.alloc (.cells #[.string nm, .string sa, .string ha, .string ro, .int .i64 bl, .int .i64 lg] 144)) n) os).cell? ⟨w.heap.size, 4, none⟩ = some (.string wm) := fun n os => (((Grw.refl wr).alloc _).trans ⟨n, os, rfl⟩).keep d4
        have e5 : ∀ n os, (grow (World.drewN (wr.alloc (.cells #[.string nm, .string sa, .string ha, .string ro, .int .i64 bl, .int .i64 lg] 144)) n) os).cell? ⟨w.heap.size, 5, none⟩ = some (.int .i64 rs) := fun n os => (((Grw.refl wr).alloc _).trans ⟨n, os, rfl⟩).keep d5
        have e6 : ∀ n os, (grow (World.drewN (wr.alloc (.cells #[.string nm, .string sa, .string ha, .string ro, .int .i64 bl, .int .i64 lg] 144)) n) os).cell? ⟨w.heap.size, 6, none⟩ = some (.slice x lenx capx) := fun n os => (((Grw.refl wr).alloc _).trans ⟨n, os, rfl⟩).keep d6
        have e7 : ∀ n os, (grow (World.drewN (wr.alloc (.cells #[.string nm, .string sa, .string ha, .string ro, .int .i64 bl, .int .i64 lg] 144)) n) os).cell? ⟨w.heap.size, 7, none⟩ = some (.slice y leny capy) := fun n os => (((Grw.refl wr).alloc _).trans ⟨n, os, rfl⟩).keep d7
        have YR : Hid (∀ n os, Rw (RoR 0) 5 (grow (World.drewN (wr.alloc (.cells #[.string nm, .string sa, .string ha, .string ro, .int .i64 bl, .int .i64 lg] 144)) n) os) y ros) := fun n os => RY.out.keep (RoR.kp 0) (HA.out.trans ⟨n, os, rfl⟩).below
        cases q1 with
        | false =>
          have hd : Hid (risB (uB ros) ltU us = false) := HF.out (by simp)
          have hv : Hid (usB ros us = false) := by show usB ros us = false; unfold usB; rw [hd.out, Bool.and_false]
          go_wp2_with fail
          refine wp_region_quiet_grown (by assumption) (by kernel_rfl) ?_
          repeat (go_big_quiet_step (first | fail | (first | (go_at_call 181; exact Calls.grown_of (HN.out _)) | (go_at_call 92; exact Calls.grown_of (HR.out _ (YR.out _ _))) | (go_at_call 76; with_reducible exact Calls.grown_of (HB.out _)) | (go_at_call 76; with_reducible exact Calls.grown_of (HL.out _)))))
          refine wpQuiet_nil ?_
          intro _ hw'
          obtain ⟨⟨nq, osq⟩, hw''⟩ := hw'
          subst hw''
          have HG1 : Hid (Grw w _) := HA.out.trans ⟨nq, osq, rfl⟩
          clear y0 y1 y2 y3 y4 y5 e0 e1 e2 e3 e4 e5 e6 e7
          go_wp2
          go_ret
          exact ⟨by rw [hv.out]; rfl, HG1.out⟩
        | true =>
          by_cases hsa : sa.size ≤ 40
          rotate_left
          · rw [dec_n hsa] at HS HF
            have hsz1 : decide ((40 : Int) < (sa.size : Int)) = true := decide_eq_true (by omega)
            have hd : Hid (risB (uB ros) ltU us = false) := HF.out (by simp)
            have hv : Hid (usB ros us = false) := by show usB ros us = false; unfold usB; rw [hd.out, Bool.and_false]
            go_wp2_with fail
            refine wp_region_quiet_grown (by assumption) (by kernel_rfl) ?_
            repeat (go_big_quiet_step (first | fail | (first | (go_at_call 181; exact Calls.grown_of (HN.out _)) | (go_at_call 92; exact Calls.grown_of (HR.out _ (YR.out _ _))) | (go_at_call 76; with_reducible exact Calls.grown_of (HB.out _)) | (go_at_call 76; with_reducible exact Calls.grown_of (HL.out _)))))
            refine wpQuiet_nil ?_
            intro _ hw'
            obtain ⟨⟨nq, osq⟩, hw''⟩ := hw'
            subst hw''
            have HG1 : Hid (Grw w _) := HA.out.trans ⟨nq, osq, rfl⟩
            clear y0 y1 y2 y3 y4 y5 e0 e1 e2 e3 e4 e5 e6 e7
            go_wp2
            go_ret
            exact ⟨by rw [hv.out]; rfl, HG1.out⟩
          have hsz1 : decide ((40 : Int) < (sa.size : Int)) = false := decide_eq_false (by omega)
          rw [dec_y hsa] at HS HF
          by_cases hha : ha.size = 32
          rotate_left
          · rw [dec_n hha] at HS HF
            have hsz2 : ((ha.size : Int) != 32) = true := by simp; omega
            have hd : Hid (risB (uB ros) ltU us = false) := HF.out (by simp)
            have hv : Hid (usB ros us = false) := by show usB ros us = false; unfold usB; rw [hd.out, Bool.and_false]
            go_wp2_with fail
            refine wp_region_quiet_grown (by assumption) (by kernel_rfl) ?_
            repeat (go_big_quiet_step (first | fail | (first | (go_at_call 181; exact Calls.grown_of (HN.out _)) | (go_at_call 92; exact Calls.grown_of (HR.out _ (YR.out _ _))) | (go_at_call 76; with_reducible exact Calls.grown_of (HB.out _)) | (go_at_call 76; with_reducible exact Calls.grown_of (HL.out _)))))
            refine wpQuiet_nil ?_
            intro _ hw'
            obtain ⟨⟨nq, osq⟩, hw''⟩ := hw'
            subst hw''
            have HG1 : Hid (Grw w _) := HA.out.trans ⟨nq, osq, rfl⟩
            clear y0 y1 y2 y3 y4 y5 e0 e1 e2 e3 e4 e5 e6 e7
            go_wp2
            go_ret
            exact ⟨by rw [hv.out]; rfl, HG1.out⟩
          have hsz2 : ((ha.size : Int) != 32) = false := by simp; omega
          rw [dec_y hha] at HS HF
          rcases hrr with ⟨rfl, hr0⟩ | ⟨rfl, hr0⟩
          · have hd : Hid (risB (uB ros) ltU us = false) := HF.out (by simp)
            have hv : Hid (usB ros us = false) := by show usB ros us = false; unfold usB; rw [hd.out, Bool.and_false]
            go_wp2_with fail
            refine wp_region_quiet_grown (by assumption) (by kernel_rfl) ?_
            repeat (go_big_quiet_step (first | fail | (first | (go_at_call 181; exact Calls.grown_of (HN.out _)) | (go_at_call 92; exact Calls.grown_of (HR.out _ (YR.out _ _))) | (go_at_call 76; with_reducible exact Calls.grown_of (HB.out _)) | (go_at_call 76; with_reducible exact Calls.grown_of (HL.out _)))))
            refine wpQuiet_nil ?_
            intro _ hw'
            obtain ⟨⟨nq, osq⟩, hw''⟩ := hw'
            subst hw''
            have HG1 : Hid (Grw w _) := HA.out.trans ⟨nq, osq, rfl⟩
            clear y0 y1 y2 y3 y4 y5 e0 e1 e2 e3 e4 e5 e6 e7
            go_wp2
            go_ret
            exact ⟨by rw [hv.out]; rfl, HG1.out⟩
          · cases q5 with
            | false =>
              have hd : Hid (risB (uB ros) ltU us = false) := HF.out (by simp)
              have hv : Hid (usB ros us = false) := by show usB ros us = false; unfold usB; rw [hd.out, Bool.and_false]
              go_wp2_with fail
              refine wp_region_quiet_grown (by assumption) (by kernel_rfl) ?_
              repeat (go_big_quiet_step (first | fail | (first | (go_at_call 181; exact Calls.grown_of (HN.out _)) | (go_at_call 92; exact Calls.grown_of (HR.out _ (YR.out _ _))) | (go_at_call 76; with_reducible exact Calls.grown_of (HB.out _)) | (go_at_call 76; with_reducible exact Calls.grown_of (HL.out _)))))
              refine wpQuiet_nil ?_
              intro _ hw'
              obtain ⟨⟨nq, osq⟩, hw''⟩ := hw'
              subst hw''
              have HG1 : Hid (Grw w _) := HA.out.trans ⟨nq, osq, rfl⟩
              clear y0 y1 y2 y3 y4 y5 e0 e1 e2 e3 e4 e5 e6 e7
              go_wp2
              go_ret
              exact ⟨by rw [hv.out]; rfl, HG1.out⟩
            | true =>
              cases q6 with
              | false =>
                have hd : Hid (risB (uB ros) ltU us = false) := HF.out (by simp)
                have hv : Hid (usB ros us = false) := by show usB ros us = false; unfold usB; rw [hd.out, Bool.and_false]
                go_wp2_with fail
                refine wp_region_quiet_grown (by assumption) (by kernel_rfl) ?_
                repeat (go_big_quiet_step (first | fail | (first | (go_at_call 181; exact Calls.grown_of (HN.out _)) | (go_at_call 92; exact Calls.grown_of (HR.out _ (YR.out _ _))) | (go_at_call 76; with_reducible exact Calls.grown_of (HB.out _)) | (go_at_call 76; with_reducible exact Calls.grown_of (HL.out _)))))
                refine wpQuiet_nil ?_
                intro _ hw'
                obtain ⟨⟨nq, osq⟩, hw''⟩ := hw'
                subst hw''
                have HG1 : Hid (Grw w _) := HA.out.trans ⟨nq, osq, rfl⟩
                clear y0 y1 y2 y3 y4 y5 e0 e1 e2 e3 e4 e5 e6 e7
                go_wp2
                go_ret
                exact ⟨by rw [hv.out]; rfl, HG1.out⟩
              | true =>
                have HS' : Hid ((List.range (k + 1)).all (risAt (uB ros) ltU us) = true) := HS.out (by simp)
                clear HS HF
                go_wp2_with fail
                refine wp_region_quiet_grown (by assumption) (by kernel_rfl) ?_
                repeat (go_big_quiet_step (first | fail | (first | (go_at_call 181; exact Calls.grown_of (HN.out _)) | (go_at_call 92; exact Calls.grown_of (HR.out _ (YR.out _ _))) | (go_at_call 76; with_reducible exact Calls.grown_of (HB.out _)) | (go_at_call 76; with_reducible exact Calls.grown_of (HL.out _)))))
                refine wpQuiet_nil ?_
                intro _ hw'
                obtain ⟨⟨nq, osq⟩, hw''⟩ := hw'
                subst hw''
                have HG1 : Hid (Grw w (grow (World.drewN (wr.alloc (.cells #[.string nm, .string sa, .string ha, .string ro, .int .i64 bl, .int .i64 lg] 144)) nq) osq) ∧ (grow (World.drewN (wr.alloc (.cells #[.string nm, .string sa, .string ha, .string ro, .int .i64 bl, .int .i64 lg] 144)) nq) osq).cell? ⟨w.heap.size, 0, none⟩ = some (.int .i64 ip) ∧ (grow (World.drewN (wr.alloc (.cells #[.string nm, .string sa, .string ha, .string ro, .int .i64 bl, .int .i64 lg] 144)) nq) osq).cell? ⟨w.heap.size, 1, none⟩ = some (.int .i64 b) ∧ (grow (World.drewN (wr.alloc (.cells #[.string nm, .string sa, .string ha, .string ro, .int .i64 bl, .int .i64 lg] 144)) nq) osq).cell? ⟨w.heap.size, 2, none⟩ = some (.int .i64 gt) ∧ (grow (World.drewN (wr.alloc (.cells #[.string nm, .string sa, .string ha, .string ro, .int .i64 bl, .int .i64 lg] 144)) nq) osq).cell? ⟨w.heap.size, 3, none⟩ = some (.string gm) ∧ (grow (World.drewN (wr.alloc (.cells #[.string nm, .string sa, .string ha, .string ro, .int .i64 bl, .int .i64 lg] 144)) nq) osq).cell? ⟨w.heap.size, 4, none⟩ = some (.string wm) ∧ (grow (World.drewN (wr.alloc (.cells #[.string nm, .string sa, .string ha, .string ro, .int .i64 bl, .int .i64 lg] 144)) nq) osq).cell? ⟨w.heap.size, 5, none⟩ = some (.int .i64 rs) ∧ (grow (World.drewN (wr.alloc (.cells #[.string nm, .string sa, .string ha, .string ro, .int .i64 bl, .int .i64 lg] 144)) nq) osq).cell? ⟨w.heap.size, 6, none⟩ = some (.slice x lenx capx) ∧ (grow (World.drewN (wr.alloc (.cells #[.string nm, .string sa, .string ha, .string ro, .int .i64 bl, .int .i64 lg] 144)) nq) osq).cell? ⟨w.heap.size, 7, none⟩ = some (.slice y leny capy)) := ⟨HA.out.trans ⟨nq, osq, rfl⟩, e0 nq osq, e1 nq osq, e2 nq osq, e3 nq osq, e4 nq osq, e5 nq osq, e6 nq osq, e7 nq osq⟩
                clear y0 y1 y2 y3 y4 y5 e0 e1 e2 e3 e4 e5 e6 e7
                go_wp2
                go_roundw
                case rel => exact ⟨k + 1, by omega, by go_num, HS', HG1⟩
                case measure => simp [intOf]; omega
      · obtain ⟨j, hkj⟩ : ∃ j, k = j + 1 := ⟨k - 1, by omega⟩
        obtain ⟨z', hx'⟩ := at_of (k := j) hl (by omega)
        obtain ⟨b', off', vs', e', hb', hvl', hR', hc'⟩ := RW.out.at UsR.kp GG hx'
        cases e'
        obtain ⟨nm', sa', ha', ro', bl', lg'⟩ := z'
        obtain ⟨rfl, -⟩ := hR'
        have p0 : wr.cell? ⟨bk, off + j * 6, none⟩ = some (.string nm') := hc' 0 _ rfl
        obtain ⟨lt, hlt2⟩ : ∃ lt, Op.bytesLess nm'.toList nm.toList = lt := ⟨_, rfl⟩
        have eo : risAt (uB ros) ltU us k = (uB ros ⟨nm, sa, ha, ro, bl, lg⟩ && lt) := by subst hkj; rw [← hlt2]; exact risAt_succ hx hx'
        have hkd : decide (0 < k) = true := decide_eq_true (by omega)
        have hj : (k : Int) - 1 = (j : Int) := by omega
        have hjl : (j : Int) < (len : Int) := by omega
        clear hk0 hkj
        rw [eo, eu] at HS HF
        generalize snB nm = q1 at HN HS HF
        obtain ⟨q4, hq4⟩ : ∃ q, roH ros ro = q := ⟨_, rfl⟩
        obtain ⟨r, hr⟩ : ∃ r, roI ros ro = r := ⟨_, rfl⟩
        have hrr : (q4 = false ∧ decide (r < 0) = true) ∨ (q4 = true ∧ decide (r < 0) = false) := by
          rw [← hq4, ← hr]
          unfold roH roI
          cases ros.find? (rfP ro) with
          | none => left; exact ⟨rfl, by simp⟩
          | some v => right; exact ⟨rfl, by first | (simp; done) | (simp; omega)⟩
        rw [hq4] at HS HF
        rw [hr] at HR
        clear hq4 hr
        generalize dec (0 ≤ bl ∧ bl ≤ 1000000) = q5 at HB HS HF
        generalize dec (0 ≤ lg ∧ lg ≤ 1000) = q6 at HL HS HF
        clear hc hvl hx eo eu hc' hvl' hx'
        have HA : Hid (Grw w (wr.alloc (.cells #[.string nm, .string sa, .string ha, .string ro, .int .i64 bl, .int .i64 lg] 144))) := G0.alloc _
        have hmix : Tryz.prog.follows .mixedOrders = true := by kernel_rfl
        have y0 : ∀ n os, (grow (World.drewN (wr.alloc (.cells #[.string nm, .string sa, .string ha, .string ro, .int .i64 bl, .int .i64 lg] 144)) n) os).cell? ⟨wr.heap.size, 0, none⟩ = some (.string nm) := fun n os => cell_grown (by simp) (by simp) n os
        have y1 : ∀ n os, (grow (World.drewN (wr.alloc (.cells #[.string nm, .string sa, .string ha, .string ro, .int .i64 bl, .int .i64 lg] 144)) n) os).cell? ⟨wr.heap.size, 1, none⟩ = some (.string sa) := fun n os => cell_grown (by simp) (by simp) n os
        have y2 : ∀ n os, (grow (World.drewN (wr.alloc (.cells #[.string nm, .string sa, .string ha, .string ro, .int .i64 bl, .int .i64 lg] 144)) n) os).cell? ⟨wr.heap.size, 2, none⟩ = some (.string ha) := fun n os => cell_grown (by simp) (by simp) n os
        have y3 : ∀ n os, (grow (World.drewN (wr.alloc (.cells #[.string nm, .string sa, .string ha, .string ro, .int .i64 bl, .int .i64 lg] 144)) n) os).cell? ⟨wr.heap.size, 3, none⟩ = some (.string ro) := fun n os => cell_grown (by simp) (by simp) n os
        have y4 : ∀ n os, (grow (World.drewN (wr.alloc (.cells #[.string nm, .string sa, .string ha, .string ro, .int .i64 bl, .int .i64 lg] 144)) n) os).cell? ⟨wr.heap.size, 4, none⟩ = some (.int .i64 bl) := fun n os => cell_grown (by simp) (by simp) n os
        have y5 : ∀ n os, (grow (World.drewN (wr.alloc (.cells #[.string nm, .string sa, .string ha, .string ro, .int .i64 bl, .int .i64 lg] 144)) n) os).cell? ⟨wr.heap.size, 5, none⟩ = some (.int .i64 lg) := fun n os => cell_grown (by simp) (by simp) n os
        have e0 : ∀ n os, (grow (World.drewN (wr.alloc (.cells #[.string nm, .string sa, .string ha, .string ro, .int .i64 bl, .int .i64 lg] 144)) n) os).cell? ⟨w.heap.size, 0, none⟩ = some (.int .i64 ip) := fun n os => (((Grw.refl wr).alloc _).trans ⟨n, os, rfl⟩).keep d0
        have e1 : ∀ n os, (grow (World.drewN (wr.alloc (.cells #[.string nm, .string sa, .string ha, .string ro, .int .i64 bl, .int .i64 lg] 144)) n) os).cell? ⟨w.heap.size, 1, none⟩ = some (.int .i64 b) := fun n os => (((Grw.refl wr).alloc _).trans ⟨n, os, rfl⟩).keep d1
        have e2 : ∀ n os, (grow (World.drewN (wr.alloc (.cells #[.string nm, .string sa, .string ha, .string ro, .int .i64 bl, .int .i64 lg] 144)) n) os).cell? ⟨w.heap.size, 2, none⟩ = some (.int .i64 gt) := fun n os => (((Grw.refl wr).alloc _).trans ⟨n, os, rfl⟩).keep d2
        have e3 : ∀ n os, (grow (World.drewN (wr.alloc (.cells #[.string nm, .string sa, .string ha, .string ro, .int .i64 bl, .int .i64 lg] 144)) n) os).cell? ⟨w.heap.size, 3, none⟩ = some (.string gm) := fun n os => (((Grw.refl wr).alloc _).trans ⟨n, os, rfl⟩).keep d3
        have e4 : ∀ n os, (grow (World.drewN (wr.alloc (.cells #[.string nm, .string sa, .string ha, .string ro, .int .i64 bl, .int .i64 lg] 144)) n) os).cell? ⟨w.heap.size, 4, none⟩ = some (.string wm) := fun n os => (((Grw.refl wr).alloc _).trans ⟨n, os, rfl⟩).keep d4
        have e5 : ∀ n os, (grow (World.drewN (wr.alloc (.cells #[.string nm, .string sa, .string ha, .string ro, .int .i64 bl, .int .i64 lg] 144)) n) os).cell? ⟨w.heap.size, 5, none⟩ = some (.int .i64 rs) := fun n os => (((Grw.refl wr).alloc _).trans ⟨n, os, rfl⟩).keep d5
        have e6 : ∀ n os, (grow (World.drewN (wr.alloc (.cells #[.string nm, .string sa, .string ha, .string ro, .int .i64 bl, .int .i64 lg] 144)) n) os).cell? ⟨w.heap.size, 6, none⟩ = some (.slice x lenx capx) := fun n os => (((Grw.refl wr).alloc _).trans ⟨n, os, rfl⟩).keep d6
        have e7 : ∀ n os, (grow (World.drewN (wr.alloc (.cells #[.string nm, .string sa, .string ha, .string ro, .int .i64 bl, .int .i64 lg] 144)) n) os).cell? ⟨w.heap.size, 7, none⟩ = some (.slice y leny capy) := fun n os => (((Grw.refl wr).alloc _).trans ⟨n, os, rfl⟩).keep d7
        have p1 : ∀ n os, (grow (World.drewN (wr.alloc (.cells #[.string nm, .string sa, .string ha, .string ro, .int .i64 bl, .int .i64 lg] 144)) n) os).cell? ⟨bk, off + j * 6, none⟩ = some (.string nm') := fun n os => (((Grw.refl wr).alloc _).trans ⟨n, os, rfl⟩).keep p0
        have YR : Hid (∀ n os, Rw (RoR 0) 5 (grow (World.drewN (wr.alloc (.cells #[.string nm, .string sa, .string ha, .string ro, .int .i64 bl, .int .i64 lg] 144)) n) os) y ros) := fun n os => RY.out.keep (RoR.kp 0) (HA.out.trans ⟨n, os, rfl⟩).below
        cases q1 with
        | false =>
          have hd : Hid (risB (uB ros) ltU us = false) := HF.out (by simp)
          have hv : Hid (usB ros us = false) := by show usB ros us = false; unfold usB; rw [hd.out, Bool.and_false]
          go_wp2_with fail
          refine wp_region_quiet_grown (by assumption) (by kernel_rfl) ?_
          repeat (go_big_quiet_step (first | fail | (first | (go_at_call 181; exact Calls.grown_of (HN.out _)) | (go_at_call 92; exact Calls.grown_of (HR.out _ (YR.out _ _))) | (go_at_call 76; with_reducible exact Calls.grown_of (HB.out _)) | (go_at_call 76; with_reducible exact Calls.grown_of (HL.out _)))))
          refine wpQuiet_nil ?_
          intro _ hw'
          obtain ⟨⟨nq, osq⟩, hw''⟩ := hw'
          subst hw''
          have HG1 : Hid (Grw w _) := HA.out.trans ⟨nq, osq, rfl⟩
          clear y0 y1 y2 y3 y4 y5 e0 e1 e2 e3 e4 e5 e6 e7 p1
          go_wp2
          go_ret
          exact ⟨by rw [hv.out]; rfl, HG1.out⟩
        | true =>
          by_cases hsa : sa.size ≤ 40
          rotate_left
          · rw [dec_n hsa] at HS HF
            have hsz1 : decide ((40 : Int) < (sa.size : Int)) = true := decide_eq_true (by omega)
            have hd : Hid (risB (uB ros) ltU us = false) := HF.out (by simp)
            have hv : Hid (usB ros us = false) := by show usB ros us = false; unfold usB; rw [hd.out, Bool.and_false]
            go_wp2_with fail
            refine wp_region_quiet_grown (by assumption) (by kernel_rfl) ?_
            repeat (go_big_quiet_step (first | fail | (first | (go_at_call 181; exact Calls.grown_of (HN.out _)) | (go_at_call 92; exact Calls.grown_of (HR.out _ (YR.out _ _))) | (go_at_call 76; with_reducible exact Calls.grown_of (HB.out _)) | (go_at_call 76; with_reducible exact Calls.grown_of (HL.out _)))))
            refine wpQuiet_nil ?_
            intro _ hw'
            obtain ⟨⟨nq, osq⟩, hw''⟩ := hw'
            subst hw''
            have HG1 : Hid (Grw w _) := HA.out.trans ⟨nq, osq, rfl⟩
            clear y0 y1 y2 y3 y4 y5 e0 e1 e2 e3 e4 e5 e6 e7 p1
            go_wp2
            go_ret
            exact ⟨by rw [hv.out]; rfl, HG1.out⟩
          have hsz1 : decide ((40 : Int) < (sa.size : Int)) = false := decide_eq_false (by omega)
          rw [dec_y hsa] at HS HF
          by_cases hha : ha.size = 32
          rotate_left
          · rw [dec_n hha] at HS HF
            have hsz2 : ((ha.size : Int) != 32) = true := by simp; omega
            have hd : Hid (risB (uB ros) ltU us = false) := HF.out (by simp)
            have hv : Hid (usB ros us = false) := by show usB ros us = false; unfold usB; rw [hd.out, Bool.and_false]
            go_wp2_with fail
            refine wp_region_quiet_grown (by assumption) (by kernel_rfl) ?_
            repeat (go_big_quiet_step (first | fail | (first | (go_at_call 181; exact Calls.grown_of (HN.out _)) | (go_at_call 92; exact Calls.grown_of (HR.out _ (YR.out _ _))) | (go_at_call 76; with_reducible exact Calls.grown_of (HB.out _)) | (go_at_call 76; with_reducible exact Calls.grown_of (HL.out _)))))
            refine wpQuiet_nil ?_
            intro _ hw'
            obtain ⟨⟨nq, osq⟩, hw''⟩ := hw'
            subst hw''
            have HG1 : Hid (Grw w _) := HA.out.trans ⟨nq, osq, rfl⟩
            clear y0 y1 y2 y3 y4 y5 e0 e1 e2 e3 e4 e5 e6 e7 p1
            go_wp2
            go_ret
            exact ⟨by rw [hv.out]; rfl, HG1.out⟩
          have hsz2 : ((ha.size : Int) != 32) = false := by simp; omega
          rw [dec_y hha] at HS HF
          rcases hrr with ⟨rfl, hr0⟩ | ⟨rfl, hr0⟩
          · have hd : Hid (risB (uB ros) ltU us = false) := HF.out (by simp)
            have hv : Hid (usB ros us = false) := by show usB ros us = false; unfold usB; rw [hd.out, Bool.and_false]
            go_wp2_with fail
            refine wp_region_quiet_grown (by assumption) (by kernel_rfl) ?_
            repeat (go_big_quiet_step (first | fail | (first | (go_at_call 181; exact Calls.grown_of (HN.out _)) | (go_at_call 92; exact Calls.grown_of (HR.out _ (YR.out _ _))) | (go_at_call 76; with_reducible exact Calls.grown_of (HB.out _)) | (go_at_call 76; with_reducible exact Calls.grown_of (HL.out _)))))
            refine wpQuiet_nil ?_
            intro _ hw'
            obtain ⟨⟨nq, osq⟩, hw''⟩ := hw'
            subst hw''
            have HG1 : Hid (Grw w _) := HA.out.trans ⟨nq, osq, rfl⟩
            clear y0 y1 y2 y3 y4 y5 e0 e1 e2 e3 e4 e5 e6 e7 p1
            go_wp2
            go_ret
            exact ⟨by rw [hv.out]; rfl, HG1.out⟩
          · cases q5 with
            | false =>
              have hd : Hid (risB (uB ros) ltU us = false) := HF.out (by simp)
              have hv : Hid (usB ros us = false) := by show usB ros us = false; unfold usB; rw [hd.out, Bool.and_false]
              go_wp2_with fail
              refine wp_region_quiet_grown (by assumption) (by kernel_rfl) ?_
              repeat (go_big_quiet_step (first | fail | (first | (go_at_call 181; exact Calls.grown_of (HN.out _)) | (go_at_call 92; exact Calls.grown_of (HR.out _ (YR.out _ _))) | (go_at_call 76; with_reducible exact Calls.grown_of (HB.out _)) | (go_at_call 76; with_reducible exact Calls.grown_of (HL.out _)))))
              refine wpQuiet_nil ?_
              intro _ hw'
              obtain ⟨⟨nq, osq⟩, hw''⟩ := hw'
              subst hw''
              have HG1 : Hid (Grw w _) := HA.out.trans ⟨nq, osq, rfl⟩
              clear y0 y1 y2 y3 y4 y5 e0 e1 e2 e3 e4 e5 e6 e7 p1
              go_wp2
              go_ret
              exact ⟨by rw [hv.out]; rfl, HG1.out⟩
            | true =>
              cases q6 with
              | false =>
                have hd : Hid (risB (uB ros) ltU us = false) := HF.out (by simp)
                have hv : Hid (usB ros us = false) := by show usB ros us = false; unfold usB; rw [hd.out, Bool.and_false]
                go_wp2_with fail
                refine wp_region_quiet_grown (by assumption) (by kernel_rfl) ?_
                repeat (go_big_quiet_step (first | fail | (first | (go_at_call 181; exact Calls.grown_of (HN.out _)) | (go_at_call 92; exact Calls.grown_of (HR.out _ (YR.out _ _))) | (go_at_call 76; with_reducible exact Calls.grown_of (HB.out _)) | (go_at_call 76; with_reducible exact Calls.grown_of (HL.out _)))))
                refine wpQuiet_nil ?_
                intro _ hw'
                obtain ⟨⟨nq, osq⟩, hw''⟩ := hw'
                subst hw''
                have HG1 : Hid (Grw w _) := HA.out.trans ⟨nq, osq, rfl⟩
                clear y0 y1 y2 y3 y4 y5 e0 e1 e2 e3 e4 e5 e6 e7 p1
                go_wp2
                go_ret
                exact ⟨by rw [hv.out]; rfl, HG1.out⟩
              | true =>
                cases lt with
                | true =>
                  have HS' : Hid ((List.range (k + 1)).all (risAt (uB ros) ltU us) = true) := HS.out (by simp)
                  clear HS HF
                  go_wp2_with fail
                  refine wp_region_quiet_grown (by assumption) (by kernel_rfl) ?_
                  repeat (go_big_quiet_step (first | fail | (first | (go_at_call 181; exact Calls.grown_of (HN.out _)) | (go_at_call 92; exact Calls.grown_of (HR.out _ (YR.out _ _))) | (go_at_call 76; with_reducible exact Calls.grown_of (HB.out _)) | (go_at_call 76; with_reducible exact Calls.grown_of (HL.out _)))))
                  refine wpQuiet_nil ?_
                  intro _ hw'
                  obtain ⟨⟨nq, osq⟩, hw''⟩ := hw'
                  subst hw''
                  have HG1 : Hid (Grw w (grow (World.drewN (wr.alloc (.cells #[.string nm, .string sa, .string ha, .string ro, .int .i64 bl, .int .i64 lg] 144)) nq) osq) ∧ (grow (World.drewN (wr.alloc (.cells #[.string nm, .string sa, .string ha, .string ro, .int .i64 bl, .int .i64 lg] 144)) nq) osq).cell? ⟨w.heap.size, 0, none⟩ = some (.int .i64 ip) ∧ (grow (World.drewN (wr.alloc (.cells #[.string nm, .string sa, .string ha, .string ro, .int .i64 bl, .int .i64 lg] 144)) nq) osq).cell? ⟨w.heap.size, 1, none⟩ = some (.int .i64 b) ∧ (grow (World.drewN (wr.alloc (.cells #[.string nm, .string sa, .string ha, .string ro, .int .i64 bl, .int .i64 lg] 144)) nq) osq).cell? ⟨w.heap.size, 2, none⟩ = some (.int .i64 gt) ∧ (grow (World.drewN (wr.alloc (.cells #[.string nm, .string sa, .string ha, .string ro, .int .i64 bl, .int .i64 lg] 144)) nq) osq).cell? ⟨w.heap.size, 3, none⟩ = some (.string gm) ∧ (grow (World.drewN (wr.alloc (.cells #[.string nm, .string sa, .string ha, .string ro, .int .i64 bl, .int .i64 lg] 144)) nq) osq).cell? ⟨w.heap.size, 4, none⟩ = some (.string wm) ∧ (grow (World.drewN (wr.alloc (.cells #[.string nm, .string sa, .string ha, .string ro, .int .i64 bl, .int .i64 lg] 144)) nq) osq).cell? ⟨w.heap.size, 5, none⟩ = some (.int .i64 rs) ∧ (grow (World.drewN (wr.alloc (.cells #[.string nm, .string sa, .string ha, .string ro, .int .i64 bl, .int .i64 lg] 144)) nq) osq).cell? ⟨w.heap.size, 6, none⟩ = some (.slice x lenx capx) ∧ (grow (World.drewN (wr.alloc (.cells #[.string nm, .string sa, .string ha, .string ro, .int .i64 bl, .int .i64 lg] 144)) nq) osq).cell? ⟨w.heap.size, 7, none⟩ = some (.slice y leny capy)) := ⟨HA.out.trans ⟨nq, osq, rfl⟩, e0 nq osq, e1 nq osq, e2 nq osq, e3 nq osq, e4 nq osq, e5 nq osq, e6 nq osq, e7 nq osq⟩
                  clear y0 y1 y2 y3 y4 y5 e0 e1 e2 e3 e4 e5 e6 e7 p1
                  go_wp2
                  go_roundw
                  case rel => exact ⟨k + 1, by omega, by go_num, HS', HG1⟩
                  case measure => simp [intOf]; omega
                | false =>
                  have hd : Hid (risB (uB ros) ltU us = false) := HF.out (by simp)
                  have hv : Hid (usB ros us = false) := by show usB ros us = false; unfold usB; rw [hd.out, Bool.and_false]
                  go_wp2_with fail
                  refine wp_region_quiet_grown (by assumption) (by kernel_rfl) ?_
                  repeat (go_big_quiet_step (first | fail | (first | (go_at_call 181; exact Calls.grown_of (HN.out _)) | (go_at_call 92; exact Calls.grown_of (HR.out _ (YR.out _ _))) | (go_at_call 76; with_reducible exact Calls.grown_of (HB.out _)) | (go_at_call 76; with_reducible exact Calls.grown_of (HL.out _)))))
                  refine wpQuiet_nil ?_
                  intro _ hw'
                  obtain ⟨⟨nq, osq⟩, hw''⟩ := hw'
                  subst hw''
                  have HG1 : Hid (Grw w _) := HA.out.trans ⟨nq, osq, rfl⟩
                  clear y0 y1 y2 y3 y4 y5 e0 e1 e2 e3 e4 e5 e6 e7 p1
                  go_wp2
                  go_ret
                  exact ⟨by rw [hv.out]; rfl, HG1.out⟩
    · obtain rfl : k = len := by omega
      have hd : Hid (risB (uB ros) ltU us = true) := ris_end hl HO.out
      by_cases h6 : k ≤ 6
      · have h6z : (k : Int) ≤ 6 := by omega
        have hv : Hid (usB ros us = true) := by show usB ros us = true; unfold usB; rw [hd.out, dec_y (by omega)]; rfl
        go_wp2
        go_ret
        exact ⟨by rw [hv.out]; rfl, G0⟩
      · have h6z : ¬ (k : Int) ≤ 6 := by omega
        have hv : Hid (usB ros us = false) := by show usB ros us = false; unfold usB; rw [dec_n (by omega)]; rfl
        go_wp2
        go_ret
        exact ⟨by rw [hv.out]; rfl, G0⟩
end Go.Proofs.YtlebblmlbhnppaaGreat

namespace Go.Proofs.YtlebblmlbhnppaaGreat
open Go.RowKit Go.PlainAid Go.Proofs.YtlebblmlbhnppaaGreat.Bt Go.Sort
set_option linter.unusedVariables false
set_option maxRecDepth 20000

/-- What lies in memory while guests are looked at: the configuration's net and the guests, in their boxes. -/
structure GkW (w W : World) (ip b : Int) (ua sa fa ra : Option Addr) (ul uc sl sc fl fc rl rc : Nat) (nx : Int) : Prop where
  grw : Grw w W
  c0 : W.cell? ⟨w.heap.size, 0, none⟩ = some (.int .i64 ip)
  c1 : W.cell? ⟨w.heap.size, 1, none⟩ = some (.int .i64 b)
  g0 : W.cell? ⟨w.heap.size + 1, 0, none⟩ = some (.slice ua ul uc)
  g1 : W.cell? ⟨w.heap.size + 1, 1, none⟩ = some (.slice sa sl sc)
  g2 : W.cell? ⟨w.heap.size + 1, 2, none⟩ = some (.slice fa fl fc)
  g3 : W.cell? ⟨w.heap.size + 1, 3, none⟩ = some (.slice ra rl rc)
  g4 : W.cell? ⟨w.heap.size + 1, 4, none⟩ = some (.int .i64 nx)
theorem GkW.keep {w W W' : World} {ip b : Int} {ua sa fa ra : Option Addr} {ul uc sl sc fl fc rl rc : Nat} {nx : Int} (h : GkW w W ip b ua sa fa ra ul uc sl sc fl fc rl rc nx) (g : Grw W W') : GkW w W' ip b ua sa fa ra ul uc sl sc fl fc rl rc nx :=
  ⟨h.grw.trans g, g.keep h.c0, g.keep h.c1, g.keep h.g0, g.keep h.g1, g.keep h.g2, g.keep h.g3, g.keep h.g4⟩
set_option maxHeartbeats 16000000 in
theorem specGuests_any (ip b gt : Int) (gm wm : ByteArray) (rs : Int) (x y : Option Addr) (lenx capx leny capy : Nat) (ps : List PlaceV) (ros : List RoleV) (ua sa fa ra : Option Addr) (ul uc sl sc fl fc rl rc : Nat) (us : List UserV) (ss : List SessV) (fs : List FailV) (es : List RecV) (nx : Int) (w : World) (h : Rw PlR 4 w x ps) (hl : ps.length = lenx) (h2 : Rw (RoR 0) 5 w y ros) (hl2 : ros.length = leny) (hsz : SzR ros) (hl9 : leny ≤ 1048576)
    (hu : Rw UsR 6 w ua us) (lu : us.length = ul) (hs : Rw SeR 10 w sa ss) (ls : ss.length = sl) (hf : Rw FaR 3 w fa fs) (lf : fs.length = fl) (hr : Rw ReR 5 w ra es) (lr : es.length = rl) (hszu : SzU us) (mu : ul ≤ 1048576) :
    Calls Tryz.prog 40 #[.agg #[.int .i64 ip, .int .i64 b, .int .i64 gt, .string gm, .string wm, .int .i64 rs, .slice x lenx capx, .slice y leny capy], .agg #[.slice ua ul uc, .slice sa sl sc, .slice fa fl fc, .slice ra rl rc, .int .i64 nx]] w fun e w' => e = .returned (.bool (gokB ip b gt gm wm rs ps ros us ss fs es nx)) ∧ Grw w w' := by
  have RX : Hid (Rw PlR 4 w x ps) := h
  have RY : Hid (Rw (RoR 0) 5 w y ros) := h2
  have RU : Hid (Rw UsR 6 w ua us) := hu
  have RS : Hid (Rw SeR 10 w sa ss) := hs
  have RF : Hid (Rw FaR 3 w fa fs) := hf
  have RR : Hid (Rw ReR 5 w ra es) := hr
  have HC : Hid (∀ w, Rw PlR 4 w x ps → Rw (RoR 0) 5 w y ros → Calls Tryz.prog 108 #[.agg #[.int .i64 ip, .int .i64 b, .int .i64 gt, .string gm, .string wm, .int .i64 rs, .slice x lenx capx, .slice y leny capy]] w fun e w' => e = .returned (.bool (confB ip b gt gm wm rs ps ros)) ∧ Grw w w') := fun w h h2 => specConfig_any ip b gt gm wm rs x y lenx capx leny capy ps ros w h hl h2 hl2 hsz
  have HU : Hid (∀ w, Rw (RoR 0) 5 w y ros → Rw UsR 6 w ua us → Calls Tryz.prog 109 #[.agg #[.int .i64 ip, .int .i64 b, .int .i64 gt, .string gm, .string wm, .int .i64 rs, .slice x lenx capx, .slice y leny capy], .slice ua ul uc] w fun e w' => e = .returned (.bool (usB ros us)) ∧ Grw w w') := fun w h h2 => l08Users_any ip b gt gm wm rs x y lenx capx leny capy ros ua ul uc us w h hl2 h2 lu hszu hl9 mu
  have HN : Hid (∀ w, Calls Tryz.prog 76 #[.int .i64 nx, .int .i64 1, .int .i64 10000] w fun e w' => e = .returned (.bool (dec (1 ≤ nx ∧ nx ≤ 10000))) ∧ w' = w) := fun w => specIn_any nx 1 10000 w
  obtain ⟨z, hz⟩ : ∃ z, z = gokB ip b gt gm wm rs ps ros us ss fs es nx := ⟨_, rfl⟩
  have hbb : confB ip b gt gm wm rs ps ros = true → 0 ≤ b ∧ b ≤ 32 := fun h => by
    unfold confB at h
    simp only [Bool.and_eq_true] at h
    have := nB_yes h.1
    exact ⟨this.2.2.1, this.2.2.2.1⟩
  have E : Hid (z = (confB ip b gt gm wm rs ps ros && (dec (1 ≤ nx ∧ nx ≤ 10000) && (usB ros us && ((dec (ss.length ≤ 3) && seB (sB nx us.length ip b) ss) && ((dec (fs.length ≤ 20) && risB faB ltF fs) && (dec (es.length ≤ 60) && es.all (reB nx)))))))) := by rw [hz]; rfl
  rw [← hz]
  clear hz h h2 hu hs hf hr hszu hsz
  obtain ⟨q0, hq0⟩ : ∃ q, q = confB ip b gt gm wm rs ps ros := ⟨_, rfl⟩
  rw [← hq0] at HC E hbb
  clear hq0
  generalize usB ros us = q1 at HU E
  obtain ⟨q5, hq5⟩ : ∃ q, q = dec (1 ≤ nx ∧ nx ≤ 10000) := ⟨_, rfl⟩
  rw [← hq5] at HN E
  have HQ5 : Hid (q5 = dec (1 ≤ nx ∧ nx ≤ 10000)) := hq5
  clear hq5
  go_enter Tryz.func40, Tryz.ntmps40
  go_wp2_with fail
  refine (HC.out _ (RX.out.keep PlR.kp (((Grw.refl w).alloc _).alloc _).below) (RY.out.keep (RoR.kp 0) (((Grw.refl w).alloc _).alloc _).below)).mono ?_
  rintro e w1 ⟨rfl, g1⟩
  have a0 : w1.cell? ⟨w.heap.size, 0, none⟩ = some (.int .i64 ip) := g1.keep (a := ⟨w.heap.size, 0, none⟩) (v := .int .i64 ip) (by simp [go_sem])
  have a1 : w1.cell? ⟨w.heap.size, 1, none⟩ = some (.int .i64 b) := g1.keep (a := ⟨w.heap.size, 1, none⟩) (v := .int .i64 b) (by simp [go_sem])
  have a2 : w1.cell? ⟨w.heap.size, 2, none⟩ = some (.int .i64 gt) := g1.keep (a := ⟨w.heap.size, 2, none⟩) (v := .int .i64 gt) (by simp [go_sem])
  have a3 : w1.cell? ⟨w.heap.size, 3, none⟩ = some (.string gm) := g1.keep (a := ⟨w.heap.size, 3, none⟩) (v := .string gm) (by simp [go_sem])
  have a4 : w1.cell? ⟨w.heap.size, 4, none⟩ = some (.string wm) := g1.keep (a := ⟨w.heap.size, 4, none⟩) (v := .string wm) (by simp [go_sem])
  have a5 : w1.cell? ⟨w.heap.size, 5, none⟩ = some (.int .i64 rs) := g1.keep (a := ⟨w.heap.size, 5, none⟩) (v := .int .i64 rs) (by simp [go_sem])
  have a6 : w1.cell? ⟨w.heap.size, 6, none⟩ = some (.slice x lenx capx) := g1.keep (a := ⟨w.heap.size, 6, none⟩) (v := .slice x lenx capx) (by simp [go_sem])
  have a7 : w1.cell? ⟨w.heap.size, 7, none⟩ = some (.slice y leny capy) := g1.keep (a := ⟨w.heap.size, 7, none⟩) (v := .slice y leny capy) (by simp [go_sem])
  have e0 : w1.cell? ⟨w.heap.size + 1, 0, none⟩ = some (.slice ua ul uc) := g1.keep (a := ⟨w.heap.size + 1, 0, none⟩) (v := .slice ua ul uc) (by simp [go_sem])
  have e1 : w1.cell? ⟨w.heap.size + 1, 1, none⟩ = some (.slice sa sl sc) := g1.keep (a := ⟨w.heap.size + 1, 1, none⟩) (v := .slice sa sl sc) (by simp [go_sem])
  have e2 : w1.cell? ⟨w.heap.size + 1, 2, none⟩ = some (.slice fa fl fc) := g1.keep (a := ⟨w.heap.size + 1, 2, none⟩) (v := .slice fa fl fc) (by simp [go_sem])
  have e3 : w1.cell? ⟨w.heap.size + 1, 3, none⟩ = some (.slice ra rl rc) := g1.keep (a := ⟨w.heap.size + 1, 3, none⟩) (v := .slice ra rl rc) (by simp [go_sem])
  have e4 : w1.cell? ⟨w.heap.size + 1, 4, none⟩ = some (.int .i64 nx) := g1.keep (a := ⟨w.heap.size + 1, 4, none⟩) (v := .int .i64 nx) (by simp [go_sem])
  have X0 : Hid (Grw w w1) := (((Grw.refl w).alloc _).alloc _).trans g1
  clear g1 HC
  cases q0 with
  | false =>
    as_aux_lemma =>
      have hv : Hid (z = false) := by show z = false; rw [E.out]; simp
      go_wp2
      go_ret
      exact ⟨by rw [hv.out]; rfl, X0.out⟩
  | true =>
    obtain ⟨hb0, hb1⟩ := hbb rfl
    clear hbb
    go_wp2_with fail
    refine (HU.out _ (RY.out.keep (RoR.kp 0) X0.out.below) (RU.out.keep UsR.kp X0.out.below)).mono ?_
    rintro e w2 ⟨rfl, g2⟩
    have X : Hid (GkW w w2 ip b ua sa fa ra ul uc sl sc fl fc rl rc nx) := ⟨X0.out.trans g2, g2.keep a0, g2.keep a1, g2.keep e0, g2.keep e1, g2.keep e2, g2.keep e3, g2.keep e4⟩
    clear g2 HU X0 a0 a1 a2 a3 a4 a5 a6 a7 e0 e1 e2 e3 e4
    have d0 := X.out.c0
    have d1 := X.out.c1
    have e0 := X.out.g0
    have e1 := X.out.g1
    have e2 := X.out.g2
    have e3 := X.out.g3
    have e4 := X.out.g4
    cases q1 with
    | false =>
      as_aux_lemma =>
        have hv : Hid (z = false) := by show z = false; rw [E.out]; simp
        go_wp2
        go_ret
        exact ⟨by rw [hv.out]; rfl, X.out.grw⟩
    | true =>
      by_cases h3 : sl ≤ 3
      rotate_left
      · have hz3 : decide ((3 : Int) < (sl : Int)) = true := decide_eq_true (by omega)
        have hv : Hid (z = false) := by show z = false; rw [E.out, dec_n (by omega : ¬ ss.length ≤ 3)]; simp
        go_wp2
        go_ret
        exact ⟨by rw [hv.out]; rfl, X.out.grw⟩
      have hz3 : decide ((3 : Int) < (sl : Int)) = false := decide_eq_false (by omega)
      by_cases h20 : fl ≤ 20
      rotate_left
      · have hz20 : decide ((20 : Int) < (fl : Int)) = true := decide_eq_true (by omega)
        have hv : Hid (z = false) := by show z = false; rw [E.out, dec_n (by omega : ¬ fs.length ≤ 20)]; simp
        go_wp2
        go_ret
        exact ⟨by rw [hv.out]; rfl, X.out.grw⟩
      have hz20 : decide ((20 : Int) < (fl : Int)) = false := decide_eq_false (by omega)
      by_cases h60 : rl ≤ 60
      rotate_left
      · have hz60 : decide ((60 : Int) < (rl : Int)) = true := decide_eq_true (by omega)
        have hv : Hid (z = false) := by show z = false; rw [E.out, dec_n (by omega : ¬ es.length ≤ 60)]; simp
        go_wp2
        go_ret
        exact ⟨by rw [hv.out]; rfl, X.out.grw⟩
      have hz60 : decide ((60 : Int) < (rl : Int)) = false := decide_eq_false (by omega)
      go_wp2_with fail
      refine (HN.out _).mono ?_
      rintro e w9 ⟨rfl, rfl⟩
      cases q5 with
      | false =>
        as_aux_lemma =>
          have hv : Hid (z = false) := by show z = false; rw [E.out]; simp
          go_wp2
          go_ret
          exact ⟨by rw [hv.out]; rfl, X.out.grw⟩
      | true =>
        have hnx : 1 ≤ nx ∧ nx ≤ 10000 := by have h := HQ5.out; unfold dec at h; simpa using h.symm
        obtain ⟨hn1, hn2⟩ := hnx
        replace E : Hid (z = (seB (sB nx us.length ip b) ss && (risB faB ltF fs && es.all (reB nx)))) := by
          show z = _
          rw [E.out, dec_y (by omega : ss.length ≤ 3), dec_y (by omega : fs.length ≤ 20), dec_y (by omega : es.length ≤ 60)]
          rfl
        clear HN HQ5 hz3 hz20 hz60
        go_wp2
        clear d0 d1 e0 e1 e2 e3 e4
        go_loopw [5] (fun u wr => ∃ i : Nat, i ≤ sl ∧ u = .int .i64 i ∧ Hid ((List.range i).all (seAt (sB nx us.length ip b) ss) = true) ∧ Hid (GkW w wr ip b ua sa fa ra ul uc sl sc fl fc rl rc nx)) (fun u _ => sl - (intOf u).toNat)
        case atStart => exact ⟨0, Nat.zero_le _, rfl, rfl, X.out⟩
        case round =>
          clear X
          obtain ⟨i, hi, rfl, HO, X⟩ := hrel
          by_cases hlt : i < sl
          · obtain ⟨x9, hx⟩ := at_of ls hlt
            obtain ⟨bk, off, vs, ea, hbk, hvl, hR, hc⟩ := RS.out.at SeR.kp X.out.grw.below hx
            have EA : Hid (sa = some ⟨bk, off, none⟩) := ea
            clear ea
            have HS : Hid (seAt (sB nx us.length ip b) ss i = true → (List.range (i + 1)).all (seAt (sB nx us.length ip b) ss) = true) := fun h => ris_step HO.out h
            have HF : Hid (seAt (sB nx us.length ip b) ss i = false → seB (sB nx us.length ip b) ss = false) := fun h => ris_no (by omega) h
            have eo : seAt (sB nx us.length ip b) ss i = (sB nx us.length ip b x9 && (ss.take i).all (fun y => prS y x9)) := by unfold seAt; rw [hx]
            rw [eo] at HS HF
            clear eo
            obtain ⟨id, us1, mc, sip, be, la, ud, qu, un, il⟩ := x9
            obtain ⟨rfl, -⟩ := hR
            have q0 : wr.cell? ⟨bk, off + i * 10, none⟩ = some (.int .i64 id) := hc 0 _ rfl
            have q1 : wr.cell? ⟨bk, off + i * 10 + 1, none⟩ = some (.int .i64 us1) := hc 1 _ rfl
            have q2 : wr.cell? ⟨bk, off + i * 10 + 2, none⟩ = some (.string mc) := hc 2 _ rfl
            have q3 : wr.cell? ⟨bk, off + i * 10 + 3, none⟩ = some (.int .i64 sip) := hc 3 _ rfl
            have q4 : wr.cell? ⟨bk, off + i * 10 + 4, none⟩ = some (.int .i64 be) := hc 4 _ rfl
            have q5 : wr.cell? ⟨bk, off + i * 10 + 5, none⟩ = some (.int .i64 la) := hc 5 _ rfl
            have q6 : wr.cell? ⟨bk, off + i * 10 + 6, none⟩ = some (.int .i64 ud) := hc 6 _ rfl
            have q7 : wr.cell? ⟨bk, off + i * 10 + 7, none⟩ = some (.int .i64 qu) := hc 7 _ rfl
            have q8 : wr.cell? ⟨bk, off + i * 10 + 8, none⟩ = some (.int .i64 un) := hc 8 _ rfl
            have q9 : wr.cell? ⟨bk, off + i * 10 + 9, none⟩ = some (.int .i64 il) := hc 9 _ rfl
            have hltz : (i : Int) < (sl : Int) := by omega
            have T0 : Hid (∀ w, Calls Tryz.prog 76 #[.int .i64 id, .int .i64 1, .int .i64 (nx - 1)] w fun e w' => e = .returned (.bool (dec (1 ≤ id ∧ id ≤ nx - 1))) ∧ w' = w) := fun w => specIn_any id 1 (nx - 1) w
            have T1 : Hid (∀ w, Calls Tryz.prog 76 #[.int .i64 us1, .int .i64 0, .int .i64 ((ul : Int) - 1)] w fun e w' => e = .returned (.bool (dec (0 ≤ us1 ∧ us1 ≤ (ul : Int) - 1))) ∧ w' = w) := fun w => specIn_any us1 0 ((ul : Int) - 1) w
            have T2 : Hid (∀ w, Calls Tryz.prog 110 #[.string mc] w fun e w' => e = .returned (.bool (dec (mc.size = 6))) ∧ w' = w) := fun w => l01MacC_any mc w
            have T3 : Hid (∀ w, Calls Tryz.prog 111 #[.agg #[.int .i64 ip, .int .i64 b], .int .i64 sip] w fun e w' => e = .returned (.bool (hB ip b sip)) ∧ Grw w w') := fun w => l05Has_any ip b sip w hb0 hb1
            have T4 : Hid (∀ w, Calls Tryz.prog 77 #[.int .i64 sip] w fun e w' => e = .returned (.bool (dec (0 ≤ sip ∧ sip ≤ 4294967295))) ∧ w' = w) := fun w => specIp_any sip w
            have T5 : Hid (∀ w, Calls Tryz.prog 76 #[.int .i64 be, .int .i64 0, .int .i64 100000] w fun e w' => e = .returned (.bool (dec (0 ≤ be ∧ be ≤ 100000))) ∧ w' = w) := fun w => specIn_any be 0 100000 w
            have T6 : Hid (∀ w, Calls Tryz.prog 76 #[.int .i64 la, .int .i64 be, .int .i64 100000] w fun e w' => e = .returned (.bool (dec (be ≤ la ∧ la ≤ 100000))) ∧ w' = w) := fun w => specIn_any la be 100000 w
            have T7 : Hid (∀ w, Calls Tryz.prog 76 #[.int .i64 qu, .int .i64 1, .int .i64 1000000] w fun e w' => e = .returned (.bool (dec (1 ≤ qu ∧ qu ≤ 1000000))) ∧ w' = w) := fun w => specIn_any qu 1 1000000 w
            have T8 : Hid (∀ w, Calls Tryz.prog 76 #[.int .i64 ud, .int .i64 0, .int .i64 qu] w fun e w' => e = .returned (.bool (dec (0 ≤ ud ∧ ud ≤ qu))) ∧ w' = w) := fun w => specIn_any ud 0 qu w
            have T9 : Hid (∀ w, Calls Tryz.prog 76 #[.int .i64 un, .int .i64 be, .int .i64 101000] w fun e w' => e = .returned (.bool (dec (be ≤ un ∧ un ≤ 101000))) ∧ w' = w) := fun w => specIn_any un be 101000 w
            have T10 : Hid (∀ w, Calls Tryz.prog 76 #[.int .i64 il, .int .i64 1, .int .i64 1000] w fun e w' => e = .returned (.bool (dec (1 ≤ il ∧ il ≤ 1000))) ∧ w' = w) := fun w => specIn_any il 1 1000 w
            have eu : sB nx us.length ip b ⟨id, us1, mc, sip, be, la, ud, qu, un, il⟩ = (dec (1 ≤ id ∧ id ≤ nx - 1) && (dec (0 ≤ us1 ∧ us1 ≤ (ul : Int) - 1) && (dec (mc.size = 6) && (hB ip b sip && (dec (0 ≤ sip ∧ sip ≤ 4294967295) && (dec (0 ≤ be ∧ be ≤ 100000) && (dec (be ≤ la ∧ la ≤ 100000) && (dec (1 ≤ qu ∧ qu ≤ 1000000) && (dec (0 ≤ ud ∧ ud ≤ qu) && (dec (be ≤ un ∧ un ≤ 101000) && (dec (1 ≤ il ∧ il ≤ 1000)))))))))))) := by rw [lu]; rfl
            rw [eu] at HS HF
            clear eu
            generalize dec (1 ≤ id ∧ id ≤ nx - 1) = t0 at T0 HS HF
            generalize dec (0 ≤ us1 ∧ us1 ≤ (ul : Int) - 1) = t1 at T1 HS HF
            generalize dec (mc.size = 6) = t2 at T2 HS HF
            generalize hB ip b sip = t3 at T3 HS HF
            generalize dec (0 ≤ sip ∧ sip ≤ 4294967295) = t4 at T4 HS HF
            generalize dec (0 ≤ be ∧ be ≤ 100000) = t5 at T5 HS HF
            generalize dec (be ≤ la ∧ la ≤ 100000) = t6 at T6 HS HF
            generalize dec (1 ≤ qu ∧ qu ≤ 1000000) = t7 at T7 HS HF
            generalize dec (0 ≤ ud ∧ ud ≤ qu) = t8 at T8 HS HF
            generalize dec (be ≤ un ∧ un ≤ 101000) = t9 at T9 HS HF
            generalize dec (1 ≤ il ∧ il ≤ 1000) = t10 at T10 HS HF
            clear hc hvl
            have d0 := X.out.c0
            have d1 := X.out.c1
            have e0 := X.out.g0
            have e1 := X.out.g1
            have e2 := X.out.g2
            have e3 := X.out.g3
            have e4 := X.out.g4
            rw [EA.out] at e1
            have f0 := acell e0 (.cells #[.int .i64 id, .int .i64 us1, .string mc, .int .i64 sip, .int .i64 be, .int .i64 la, .int .i64 ud, .int .i64 qu, .int .i64 un, .int .i64 il] 137)
            have f1 := acell e1 (.cells #[.int .i64 id, .int .i64 us1, .string mc, .int .i64 sip, .int .i64 be, .int .i64 la, .int .i64 ud, .int .i64 qu, .int .i64 un, .int .i64 il] 137)
            have f2 := acell e2 (.cells #[.int .i64 id, .int .i64 us1, .string mc, .int .i64 sip, .int .i64 be, .int .i64 la, .int .i64 ud, .int .i64 qu, .int .i64 un, .int .i64 il] 137)
            have f3 := acell e3 (.cells #[.int .i64 id, .int .i64 us1, .string mc, .int .i64 sip, .int .i64 be, .int .i64 la, .int .i64 ud, .int .i64 qu, .int .i64 un, .int .i64 il] 137)
            have f4 := acell e4 (.cells #[.int .i64 id, .int .i64 us1, .string mc, .int .i64 sip, .int .i64 be, .int .i64 la, .int .i64 ud, .int .i64 qu, .int .i64 un, .int .i64 il] 137)
            go_wp2_with fail
            have x0 : (wr.alloc (.cells #[.int .i64 id, .int .i64 us1, .string mc, .int .i64 sip, .int .i64 be, .int .i64 la, .int .i64 ud, .int .i64 qu, .int .i64 un, .int .i64 il] 137)).cell? ⟨wr.heap.size, 0, none⟩ = some (.int .i64 id) := by simp [go_sem]
            have x1 : (wr.alloc (.cells #[.int .i64 id, .int .i64 us1, .string mc, .int .i64 sip, .int .i64 be, .int .i64 la, .int .i64 ud, .int .i64 qu, .int .i64 un, .int .i64 il] 137)).cell? ⟨wr.heap.size, 1, none⟩ = some (.int .i64 us1) := by simp [go_sem]
            have x2 : (wr.alloc (.cells #[.int .i64 id, .int .i64 us1, .string mc, .int .i64 sip, .int .i64 be, .int .i64 la, .int .i64 ud, .int .i64 qu, .int .i64 un, .int .i64 il] 137)).cell? ⟨wr.heap.size, 2, none⟩ = some (.string mc) := by simp [go_sem]
            have x3 : (wr.alloc (.cells #[.int .i64 id, .int .i64 us1, .string mc, .int .i64 sip, .int .i64 be, .int .i64 la, .int .i64 ud, .int .i64 qu, .int .i64 un, .int .i64 il] 137)).cell? ⟨wr.heap.size, 3, none⟩ = some (.int .i64 sip) := by simp [go_sem]
            have x4 : (wr.alloc (.cells #[.int .i64 id, .int .i64 us1, .string mc, .int .i64 sip, .int .i64 be, .int .i64 la, .int .i64 ud, .int .i64 qu, .int .i64 un, .int .i64 il] 137)).cell? ⟨wr.heap.size, 4, none⟩ = some (.int .i64 be) := by simp [go_sem]
            have x5 : (wr.alloc (.cells #[.int .i64 id, .int .i64 us1, .string mc, .int .i64 sip, .int .i64 be, .int .i64 la, .int .i64 ud, .int .i64 qu, .int .i64 un, .int .i64 il] 137)).cell? ⟨wr.heap.size, 5, none⟩ = some (.int .i64 la) := by simp [go_sem]
            have x6 : (wr.alloc (.cells #[.int .i64 id, .int .i64 us1, .string mc, .int .i64 sip, .int .i64 be, .int .i64 la, .int .i64 ud, .int .i64 qu, .int .i64 un, .int .i64 il] 137)).cell? ⟨wr.heap.size, 6, none⟩ = some (.int .i64 ud) := by simp [go_sem]
            have x7 : (wr.alloc (.cells #[.int .i64 id, .int .i64 us1, .string mc, .int .i64 sip, .int .i64 be, .int .i64 la, .int .i64 ud, .int .i64 qu, .int .i64 un, .int .i64 il] 137)).cell? ⟨wr.heap.size, 7, none⟩ = some (.int .i64 qu) := by simp [go_sem]
            have x8 : (wr.alloc (.cells #[.int .i64 id, .int .i64 us1, .string mc, .int .i64 sip, .int .i64 be, .int .i64 la, .int .i64 ud, .int .i64 qu, .int .i64 un, .int .i64 il] 137)).cell? ⟨wr.heap.size, 8, none⟩ = some (.int .i64 un) := by simp [go_sem]
            have x9 : (wr.alloc (.cells #[.int .i64 id, .int .i64 us1, .string mc, .int .i64 sip, .int .i64 be, .int .i64 la, .int .i64 ud, .int .i64 qu, .int .i64 un, .int .i64 il] 137)).cell? ⟨wr.heap.size, 9, none⟩ = some (.int .i64 il) := by simp [go_sem]
            replace X : Hid (GkW w (wr.alloc (.cells #[.int .i64 id, .int .i64 us1, .string mc, .int .i64 sip, .int .i64 be, .int .i64 la, .int .i64 ud, .int .i64 qu, .int .i64 un, .int .i64 il] 137)) ip b ua sa fa ra ul uc sl sc fl fc rl rc nx) := X.out.keep ((Grw.refl _).alloc _)
            have hbx : wr.heap.size < (wr.alloc (.cells #[.int .i64 id, .int .i64 us1, .string mc, .int .i64 sip, .int .i64 be, .int .i64 la, .int .i64 ud, .int .i64 qu, .int .i64 un, .int .i64 il] 137)).heap.size := by simp
            clear f0 f1 f2 f3 f4
            generalize (wr.alloc (.cells #[.int .i64 id, .int .i64 us1, .string mc, .int .i64 sip, .int .i64 be, .int .i64 la, .int .i64 ud, .int .i64 qu, .int .i64 un, .int .i64 il] 137)) = W1 at X hbx x0 x1 x2 x3 x4 x5 x6 x7 x8 x9 ⊢
            clear d0 d1 e0 e1 e2 e3 e4 q0 q1 q2 q3 q4 q5 q6 q7 q8 q9
            have d0 := X.out.c0
            have d1 := X.out.c1
            have e0 := X.out.g0
            have e1 := X.out.g1
            have e2 := X.out.g2
            have e3 := X.out.g3
            have e4 := X.out.g4
            rw [EA.out] at e1
            refine (T0.out _).mono ?_
            rintro e w9 ⟨rfl, rfl⟩
            cases t0 with
            | false =>
              as_aux_lemma =>
                have hv : Hid (z = false) := by show z = false; rw [E.out]; rw [HF.out (by simp)]; simp
                have HGX : Hid (Grw w _) := X.out.grw
                (try clear HS)
                (try clear HF)
                (try clear HO)
                (try clear E)
                (try clear RX)
                (try clear RY)
                (try clear RU)
                (try clear RS)
                (try clear RF)
                (try clear RR)
                (try clear EA)
                (try clear X)
                (try clear hbx)
                (try clear hk)
                (try clear hi)
                (try clear hl)
                (try clear hl2)
                (try clear hl9)
                (try clear lu)
                (try clear ls)
                (try clear lf)
                (try clear lr)
                (try clear mu)
                (try clear hb0)
                (try clear hb1)
                (try clear h3)
                (try clear h20)
                (try clear h60)
                (try clear hn1)
                (try clear hn2)
                (try clear hlt)
                (try clear hltz)
                (try clear hbk)
                (try clear d0)
                (try clear d1)
                (try clear T0)
                (try clear T1)
                (try clear T2)
                (try clear T3)
                (try clear T4)
                (try clear T5)
                (try clear T6)
                (try clear T7)
                (try clear T8)
                (try clear T9)
                (try clear T10)
                (try clear e0)
                (try clear e1)
                (try clear e2)
                (try clear e3)
                (try clear e4)
                (try clear x0)
                (try clear x1)
                (try clear x2)
                (try clear x3)
                (try clear x4)
                (try clear x5)
                (try clear x6)
                (try clear x7)
                (try clear x8)
                (try clear x9)
                go_wp2
                go_ret
                exact ⟨by rw [hv.out]; rfl, HGX.out⟩
            | true =>
              go_wp2_with fail
              refine (T1.out _).mono ?_
              rintro e w9 ⟨rfl, rfl⟩
              cases t1 with
              | false =>
                as_aux_lemma =>
                  have hv : Hid (z = false) := by show z = false; rw [E.out]; rw [HF.out (by simp)]; simp
                  have HGX : Hid (Grw w _) := X.out.grw
                  (try clear HS)
                  (try clear HF)
                  (try clear HO)
                  (try clear E)
                  (try clear RX)
                  (try clear RY)
                  (try clear RU)
                  (try clear RS)
                  (try clear RF)
                  (try clear RR)
                  (try clear EA)
                  (try clear X)
                  (try clear hbx)
                  (try clear hk)
                  (try clear hi)
                  (try clear hl)
                  (try clear hl2)
                  (try clear hl9)
                  (try clear lu)
                  (try clear ls)
                  (try clear lf)
                  (try clear lr)
                  (try clear mu)
                  (try clear hb0)
                  (try clear hb1)
                  (try clear h3)
                  (try clear h20)
                  (try clear h60)
                  (try clear hn1)
                  (try clear hn2)
                  (try clear hlt)
                  (try clear hltz)
                  (try clear hbk)
                  (try clear d0)
                  (try clear d1)
                  (try clear T0)
                  (try clear T1)
                  (try clear T2)
                  (try clear T3)
                  (try clear T4)
                  (try clear T5)
                  (try clear T6)
                  (try clear T7)
                  (try clear T8)
                  (try clear T9)
                  (try clear T10)
                  (try clear e0)
                  (try clear e1)
                  (try clear e2)
                  (try clear e3)
                  (try clear e4)
                  (try clear x0)
                  (try clear x1)
                  (try clear x2)
                  (try clear x3)
                  (try clear x4)
                  (try clear x5)
                  (try clear x6)
                  (try clear x7)
                  (try clear x8)
                  (try clear x9)
                  go_wp2
                  go_ret
                  exact ⟨by rw [hv.out]; rfl, HGX.out⟩
              | true =>
                go_wp2_with fail
                refine (T2.out _).mono ?_
                rintro e w9 ⟨rfl, rfl⟩
                cases t2 with
                | false =>
                  as_aux_lemma =>
                    have hv : Hid (z = false) := by show z = false; rw [E.out]; rw [HF.out (by simp)]; simp
                    have HGX : Hid (Grw w _) := X.out.grw
                    (try clear HS)
                    (try clear HF)
                    (try clear HO)
                    (try clear E)
                    (try clear RX)
                    (try clear RY)
                    (try clear RU)
                    (try clear RS)
                    (try clear RF)
                    (try clear RR)
                    (try clear EA)
                    (try clear X)
                    (try clear hbx)
                    (try clear hk)
                    (try clear hi)
                    (try clear hl)
                    (try clear hl2)
                    (try clear hl9)
                    (try clear lu)
                    (try clear ls)
                    (try clear lf)
                    (try clear lr)
                    (try clear mu)
                    (try clear hb0)
                    (try clear hb1)
                    (try clear h3)
                    (try clear h20)
                    (try clear h60)
                    (try clear hn1)
                    (try clear hn2)
                    (try clear hlt)
                    (try clear hltz)
                    (try clear hbk)
                    (try clear d0)
                    (try clear d1)
                    (try clear T0)
                    (try clear T1)
                    (try clear T2)
                    (try clear T3)
                    (try clear T4)
                    (try clear T5)
                    (try clear T6)
                    (try clear T7)
                    (try clear T8)
                    (try clear T9)
                    (try clear T10)
                    (try clear e0)
                    (try clear e1)
                    (try clear e2)
                    (try clear e3)
                    (try clear e4)
                    (try clear x0)
                    (try clear x1)
                    (try clear x2)
                    (try clear x3)
                    (try clear x4)
                    (try clear x5)
                    (try clear x6)
                    (try clear x7)
                    (try clear x8)
                    (try clear x9)
                    go_wp2
                    go_ret
                    exact ⟨by rw [hv.out]; rfl, HGX.out⟩
                | true =>
                  go_wp2_with fail
                  refine (T3.out _).mono ?_
                  rintro e W2 ⟨rfl, g2⟩
                  replace X : Hid (GkW w W2 ip b ua sa fa ra ul uc sl sc fl fc rl rc nx) := X.out.keep g2
                  replace x0 := g2.keep x0
                  replace x1 := g2.keep x1
                  replace x2 := g2.keep x2
                  replace x3 := g2.keep x3
                  replace x4 := g2.keep x4
                  replace x5 := g2.keep x5
                  replace x6 := g2.keep x6
                  replace x7 := g2.keep x7
                  replace x8 := g2.keep x8
                  replace x9 := g2.keep x9
                  replace hbx := Nat.lt_of_lt_of_le hbx g2.below.size
                  clear g2 d0 d1 e0 e1 e2 e3 e4
                  have d0 := X.out.c0
                  have d1 := X.out.c1
                  have e0 := X.out.g0
                  have e1 := X.out.g1
                  have e2 := X.out.g2
                  have e3 := X.out.g3
                  have e4 := X.out.g4
                  rw [EA.out] at e1
                  cases t3 with
                  | false =>
                    as_aux_lemma =>
                      have hv : Hid (z = false) := by show z = false; rw [E.out]; rw [HF.out (by simp)]; simp
                      have HGX : Hid (Grw w _) := X.out.grw
                      (try clear HS)
                      (try clear HF)
                      (try clear HO)
                      (try clear E)
                      (try clear RX)
                      (try clear RY)
                      (try clear RU)
                      (try clear RS)
                      (try clear RF)
                      (try clear RR)
                      (try clear EA)
                      (try clear X)
                      (try clear hbx)
                      (try clear hk)
                      (try clear hi)
                      (try clear hl)
                      (try clear hl2)
                      (try clear hl9)
                      (try clear lu)
                      (try clear ls)
                      (try clear lf)
                      (try clear lr)
                      (try clear mu)
                      (try clear hb0)
                      (try clear hb1)
                      (try clear h3)
                      (try clear h20)
                      (try clear h60)
                      (try clear hn1)
                      (try clear hn2)
                      (try clear hlt)
                      (try clear hltz)
                      (try clear hbk)
                      (try clear d0)
                      (try clear d1)
                      (try clear T0)
                      (try clear T1)
                      (try clear T2)
                      (try clear T3)
                      (try clear T4)
                      (try clear T5)
                      (try clear T6)
                      (try clear T7)
                      (try clear T8)
                      (try clear T9)
                      (try clear T10)
                      (try clear e0)
                      (try clear e1)
                      (try clear e2)
                      (try clear e3)
                      (try clear e4)
                      (try clear x0)
                      (try clear x1)
                      (try clear x2)
                      (try clear x3)
                      (try clear x4)
                      (try clear x5)
                      (try clear x6)
                      (try clear x7)
                      (try clear x8)
                      (try clear x9)
                      go_wp2
                      go_ret
                      exact ⟨by rw [hv.out]; rfl, HGX.out⟩
                  | true =>
                    go_wp2_with fail
                    refine (T4.out _).mono ?_
                    rintro e w9 ⟨rfl, rfl⟩
                    cases t4 with
                    | false =>
                      as_aux_lemma =>
                        have hv : Hid (z = false) := by show z = false; rw [E.out]; rw [HF.out (by simp)]; simp
                        have HGX : Hid (Grw w _) := X.out.grw
                        (try clear HS)
                        (try clear HF)
                        (try clear HO)
                        (try clear E)
                        (try clear RX)
                        (try clear RY)
                        (try clear RU)
                        (try clear RS)
                        (try clear RF)
                        (try clear RR)
                        (try clear EA)
                        (try clear X)
                        (try clear hbx)
                        (try clear hk)
                        (try clear hi)
                        (try clear hl)
                        (try clear hl2)
                        (try clear hl9)
                        (try clear lu)
                        (try clear ls)
                        (try clear lf)
                        (try clear lr)
                        (try clear mu)
                        (try clear hb0)
                        (try clear hb1)
                        (try clear h3)
                        (try clear h20)
                        (try clear h60)
                        (try clear hn1)
                        (try clear hn2)
                        (try clear hlt)
                        (try clear hltz)
                        (try clear hbk)
                        (try clear d0)
                        (try clear d1)
                        (try clear T0)
                        (try clear T1)
                        (try clear T2)
                        (try clear T3)
                        (try clear T4)
                        (try clear T5)
                        (try clear T6)
                        (try clear T7)
                        (try clear T8)
                        (try clear T9)
                        (try clear T10)
                        (try clear e0)
                        (try clear e1)
                        (try clear e2)
                        (try clear e3)
                        (try clear e4)
                        (try clear x0)
                        (try clear x1)
                        (try clear x2)
                        (try clear x3)
                        (try clear x4)
                        (try clear x5)
                        (try clear x6)
                        (try clear x7)
                        (try clear x8)
                        (try clear x9)
                        go_wp2
                        go_ret
                        exact ⟨by rw [hv.out]; rfl, HGX.out⟩
                    | true =>
                      go_wp2_with fail
                      refine (T5.out _).mono ?_
                      rintro e w9 ⟨rfl, rfl⟩
                      cases t5 with
                      | false =>
                        as_aux_lemma =>
                          have hv : Hid (z = false) := by show z = false; rw [E.out]; rw [HF.out (by simp)]; simp
                          have HGX : Hid (Grw w _) := X.out.grw
                          (try clear HS)
                          (try clear HF)
                          (try clear HO)
                          (try clear E)
                          (try clear RX)
                          (try clear RY)
                          (try clear RU)
                          (try clear RS)
                          (try clear RF)
                          (try clear RR)
                          (try clear EA)
                          (try clear X)
                          (try clear hbx)
                          (try clear hk)
                          (try clear hi)
                          (try clear hl)
                          (try clear hl2)
                          (try clear hl9)
                          (try clear lu)
                          (try clear ls)
                          (try clear lf)
                          (try clear lr)
                          (try clear mu)
                          (try clear hb0)
                          (try clear hb1)
                          (try clear h3)
                          (try clear h20)
                          (try clear h60)
                          (try clear hn1)
                          (try clear hn2)
                          (try clear hlt)
                          (try clear hltz)
                          (try clear hbk)
                          (try clear d0)
                          (try clear d1)
                          (try clear T0)
                          (try clear T1)
                          (try clear T2)
                          (try clear T3)
                          (try clear T4)
                          (try clear T5)
                          (try clear T6)
                          (try clear T7)
                          (try clear T8)
                          (try clear T9)
                          (try clear T10)
                          (try clear e0)
                          (try clear e1)
                          (try clear e2)
                          (try clear e3)
                          (try clear e4)
                          (try clear x0)
                          (try clear x1)
                          (try clear x2)
                          (try clear x3)
                          (try clear x4)
                          (try clear x5)
                          (try clear x6)
                          (try clear x7)
                          (try clear x8)
                          (try clear x9)
                          go_wp2
                          go_ret
                          exact ⟨by rw [hv.out]; rfl, HGX.out⟩
                      | true =>
                        go_wp2_with fail
                        refine (T6.out _).mono ?_
                        rintro e w9 ⟨rfl, rfl⟩
                        cases t6 with
                        | false =>
                          as_aux_lemma =>
                            have hv : Hid (z = false) := by show z = false; rw [E.out]; rw [HF.out (by simp)]; simp
                            have HGX : Hid (Grw w _) := X.out.grw
                            (try clear HS)
                            (try clear HF)
                            (try clear HO)
                            (try clear E)
                            (try clear RX)
                            (try clear RY)
                            (try clear RU)
                            (try clear RS)
                            (try clear RF)
                            (try clear RR)
                            (try clear EA)
                            (try clear X)
                            (try clear hbx)
                            (try clear hk)
                            (try clear hi)
                            (try clear hl)
                            (try clear hl2)
                            (try clear hl9)
                            (try clear lu)
                            (try clear ls)
                            (try clear lf)
                            (try clear lr)
                            (try clear mu)
                            (try clear hb0)
                            (try clear hb1)
                            (try clear h3)
                            (try clear h20)
                            (try clear h60)
                            (try clear hn1)
                            (try clear hn2)
                            (try clear hlt)
                            (try clear hltz)
                            (try clear hbk)
                            (try clear d0)
                            (try clear d1)
                            (try clear T0)
                            (try clear T1)
                            (try clear T2)
                            (try clear T3)
                            (try clear T4)
                            (try clear T5)
                            (try clear T6)
                            (try clear T7)
                            (try clear T8)
                            (try clear T9)
                            (try clear T10)
                            (try clear e0)
                            (try clear e1)
                            (try clear e2)
                            (try clear e3)
                            (try clear e4)
                            (try clear x0)
                            (try clear x1)
                            (try clear x2)
                            (try clear x3)
                            (try clear x4)
                            (try clear x5)
                            (try clear x6)
                            (try clear x7)
                            (try clear x8)
                            (try clear x9)
                            go_wp2
                            go_ret
                            exact ⟨by rw [hv.out]; rfl, HGX.out⟩
                        | true =>
                          go_wp2_with fail
                          refine (T7.out _).mono ?_
                          rintro e w9 ⟨rfl, rfl⟩
                          cases t7 with
                          | false =>
                            as_aux_lemma =>
                              have hv : Hid (z = false) := by show z = false; rw [E.out]; rw [HF.out (by simp)]; simp
                              have HGX : Hid (Grw w _) := X.out.grw
                              (try clear HS)
                              (try clear HF)
                              (try clear HO)
                              (try clear E)
                              (try clear RX)
                              (try clear RY)
                              (try clear RU)
                              (try clear RS)
                              (try clear RF)
                              (try clear RR)
                              (try clear EA)
                              (try clear X)
                              (try clear hbx)
                              (try clear hk)
                              (try clear hi)
                              (try clear hl)
                              (try clear hl2)
                              (try clear hl9)
                              (try clear lu)
                              (try clear ls)
                              (try clear lf)
                              (try clear lr)
                              (try clear mu)
                              (try clear hb0)
                              (try clear hb1)
                              (try clear h3)
                              (try clear h20)
                              (try clear h60)
                              (try clear hn1)
                              (try clear hn2)
                              (try clear hlt)
                              (try clear hltz)
                              (try clear hbk)
                              (try clear d0)
                              (try clear d1)
                              (try clear T0)
                              (try clear T1)
                              (try clear T2)
                              (try clear T3)
                              (try clear T4)
                              (try clear T5)
                              (try clear T6)
                              (try clear T7)
                              (try clear T8)
                              (try clear T9)
                              (try clear T10)
                              (try clear e0)
                              (try clear e1)
                              (try clear e2)
                              (try clear e3)
                              (try clear e4)
                              (try clear x0)
                              (try clear x1)
                              (try clear x2)
                              (try clear x3)
                              (try clear x4)
                              (try clear x5)
                              (try clear x6)
                              (try clear x7)
                              (try clear x8)
                              (try clear x9)
                              go_wp2
                              go_ret
                              exact ⟨by rw [hv.out]; rfl, HGX.out⟩
                          | true =>
                            go_wp2_with fail
                            refine (T8.out _).mono ?_
                            rintro e w9 ⟨rfl, rfl⟩
                            cases t8 with
                            | false =>
                              as_aux_lemma =>
                                have hv : Hid (z = false) := by show z = false; rw [E.out]; rw [HF.out (by simp)]; simp
                                have HGX : Hid (Grw w _) := X.out.grw
                                (try clear HS)
                                (try clear HF)
                                (try clear HO)
                                (try clear E)
                                (try clear RX)
                                (try clear RY)
                                (try clear RU)
                                (try clear RS)
                                (try clear RF)
                                (try clear RR)
                                (try clear EA)
                                (try clear X)
                                (try clear hbx)
                                (try clear hk)
                                (try clear hi)
                                (try clear hl)
                                (try clear hl2)
                                (try clear hl9)
                                (try clear lu)
                                (try clear ls)
                                (try clear lf)
                                (try clear lr)
                                (try clear mu)
                                (try clear hb0)
                                (try clear hb1)
                                (try clear h3)
                                (try clear h20)
                                (try clear h60)
                                (try clear hn1)
                                (try clear hn2)
                                (try clear hlt)
                                (try clear hltz)
                                (try clear hbk)
                                (try clear d0)
                                (try clear d1)
                                (try clear T0)
                                (try clear T1)
                                (try clear T2)
                                (try clear T3)
                                (try clear T4)
                                (try clear T5)
                                (try clear T6)
                                (try clear T7)
                                (try clear T8)
                                (try clear T9)
                                (try clear T10)
                                (try clear e0)
                                (try clear e1)
                                (try clear e2)
                                (try clear e3)
                                (try clear e4)
                                (try clear x0)
                                (try clear x1)
                                (try clear x2)
                                (try clear x3)
                                (try clear x4)
                                (try clear x5)
                                (try clear x6)
                                (try clear x7)
                                (try clear x8)
                                (try clear x9)
                                go_wp2
                                go_ret
                                exact ⟨by rw [hv.out]; rfl, HGX.out⟩
                            | true =>
                              go_wp2_with fail
                              refine (T9.out _).mono ?_
                              rintro e w9 ⟨rfl, rfl⟩
                              cases t9 with
                              | false =>
                                as_aux_lemma =>
                                  have hv : Hid (z = false) := by show z = false; rw [E.out]; rw [HF.out (by simp)]; simp
                                  have HGX : Hid (Grw w _) := X.out.grw
                                  (try clear HS)
                                  (try clear HF)
                                  (try clear HO)
                                  (try clear E)
                                  (try clear RX)
                                  (try clear RY)
                                  (try clear RU)
                                  (try clear RS)
                                  (try clear RF)
                                  (try clear RR)
                                  (try clear EA)
                                  (try clear X)
                                  (try clear hbx)
                                  (try clear hk)
                                  (try clear hi)
                                  (try clear hl)
                                  (try clear hl2)
                                  (try clear hl9)
                                  (try clear lu)
                                  (try clear ls)
                                  (try clear lf)
                                  (try clear lr)
                                  (try clear mu)
                                  (try clear hb0)
                                  (try clear hb1)
                                  (try clear h3)
                                  (try clear h20)
                                  (try clear h60)
                                  (try clear hn1)
                                  (try clear hn2)
                                  (try clear hlt)
                                  (try clear hltz)
                                  (try clear hbk)
                                  (try clear d0)
                                  (try clear d1)
                                  (try clear T0)
                                  (try clear T1)
                                  (try clear T2)
                                  (try clear T3)
                                  (try clear T4)
                                  (try clear T5)
                                  (try clear T6)
                                  (try clear T7)
                                  (try clear T8)
                                  (try clear T9)
                                  (try clear T10)
                                  (try clear e0)
                                  (try clear e1)
                                  (try clear e2)
                                  (try clear e3)
                                  (try clear e4)
                                  (try clear x0)
                                  (try clear x1)
                                  (try clear x2)
                                  (try clear x3)
                                  (try clear x4)
                                  (try clear x5)
                                  (try clear x6)
                                  (try clear x7)
                                  (try clear x8)
                                  (try clear x9)
                                  go_wp2
                                  go_ret
                                  exact ⟨by rw [hv.out]; rfl, HGX.out⟩
                              | true =>
                                go_wp2_with fail
                                refine (T10.out _).mono ?_
                                rintro e w9 ⟨rfl, rfl⟩
                                cases t10 with
                                | false =>
                                  as_aux_lemma =>
                                    have hv : Hid (z = false) := by show z = false; rw [E.out]; rw [HF.out (by simp)]; simp
                                    have HGX : Hid (Grw w _) := X.out.grw
                                    (try clear HS)
                                    (try clear HF)
                                    (try clear HO)
                                    (try clear E)
                                    (try clear RX)
                                    (try clear RY)
                                    (try clear RU)
                                    (try clear RS)
                                    (try clear RF)
                                    (try clear RR)
                                    (try clear EA)
                                    (try clear X)
                                    (try clear hbx)
                                    (try clear hk)
                                    (try clear hi)
                                    (try clear hl)
                                    (try clear hl2)
                                    (try clear hl9)
                                    (try clear lu)
                                    (try clear ls)
                                    (try clear lf)
                                    (try clear lr)
                                    (try clear mu)
                                    (try clear hb0)
                                    (try clear hb1)
                                    (try clear h3)
                                    (try clear h20)
                                    (try clear h60)
                                    (try clear hn1)
                                    (try clear hn2)
                                    (try clear hlt)
                                    (try clear hltz)
                                    (try clear hbk)
                                    (try clear d0)
                                    (try clear d1)
                                    (try clear T0)
                                    (try clear T1)
                                    (try clear T2)
                                    (try clear T3)
                                    (try clear T4)
                                    (try clear T5)
                                    (try clear T6)
                                    (try clear T7)
                                    (try clear T8)
                                    (try clear T9)
                                    (try clear T10)
                                    (try clear e0)
                                    (try clear e1)
                                    (try clear e2)
                                    (try clear e3)
                                    (try clear e4)
                                    (try clear x0)
                                    (try clear x1)
                                    (try clear x2)
                                    (try clear x3)
                                    (try clear x4)
                                    (try clear x5)
                                    (try clear x6)
                                    (try clear x7)
                                    (try clear x8)
                                    (try clear x9)
                                    go_wp2
                                    go_ret
                                    exact ⟨by rw [hv.out]; rfl, HGX.out⟩
                                | true =>
                                  clear T0 T1 T2 T3 T4 T5 T6 T7 T8 T9 T10
                                  go_wp2
                                  generalize w9 = w4 at X hbx x0 x1 x2 x3 x4 x5 x6 x7 x8 x9 d0 d1 e0 e1 e2 e3 e4 ⊢
                                  obtain ⟨Bx, hBx⟩ : ∃ B, B = wr.heap.size := ⟨_, rfl⟩
                                  rw [← hBx] at hbx x0 x1 x2 x3 x4 x5 x6 x7 x8 x9 ⊢
                                  clear hBx
                                  have X4 : Hid (GkW w w4 ip b ua sa fa ra ul uc sl sc fl fc rl rc nx ∧ w4.cell? ⟨Bx, 0, none⟩ = some (.int .i64 id) ∧ w4.cell? ⟨Bx, 1, none⟩ = some (.int .i64 us1) ∧ w4.cell? ⟨Bx, 2, none⟩ = some (.string mc) ∧ w4.cell? ⟨Bx, 3, none⟩ = some (.int .i64 sip)) := ⟨X.out, x0, x1, x2, x3⟩
                                  clear d0 d1 e0 e1 e2 e3 e4 X x0 x1 x2 x3 x4 x5 x6 x7 x8 x9
                                  go_loopw [7] (fun u wr => ∃ k : Nat, k ≤ i ∧ u = .int .i64 k ∧ Hid ((ss.take k).all (fun y => prS y ⟨id, us1, mc, sip, be, la, ud, qu, un, il⟩) = true) ∧ Hid (GkW w wr ip b ua sa fa ra ul uc sl sc fl fc rl rc nx ∧ wr.cell? ⟨Bx, 0, none⟩ = some (.int .i64 id) ∧ wr.cell? ⟨Bx, 1, none⟩ = some (.int .i64 us1) ∧ wr.cell? ⟨Bx, 2, none⟩ = some (.string mc) ∧ wr.cell? ⟨Bx, 3, none⟩ = some (.int .i64 sip))) (fun u _ => i - (intOf u).toNat)
                                  case atStart => exact ⟨0, Nat.zero_le _, rfl, rfl, X4.out⟩
                                  case round =>
                                    obtain ⟨k, hk, rfl, HO2, X5⟩ := hrel
                                    clear X4
                                    obtain ⟨X6, x0, x1, x2, x3⟩ := X5.out
                                    have X : Hid (GkW w wr ip b ua sa fa ra ul uc sl sc fl fc rl rc nx) := X6
                                    clear X6
                                    have d0 := X.out.c0
                                    have d1 := X.out.c1
                                    have e0 := X.out.g0
                                    have e1 := X.out.g1
                                    have e2 := X.out.g2
                                    have e3 := X.out.g3
                                    have e4 := X.out.g4
                                    rw [EA.out] at e1
                                    by_cases hki : k < i
                                    · obtain ⟨y9, hy⟩ := at_of (k := k) ls (by omega)
                                      obtain ⟨bk2, off2, vs2, e9, hbk2, hvl2, hR2, hc2⟩ := RS.out.at SeR.kp X.out.grw.below hy
                                      rw [EA.out] at e9
                                      cases e9
                                      have HT2 : Hid (prS y9 ⟨id, us1, mc, sip, be, la, ud, qu, un, il⟩ = true → (ss.take (k + 1)).all (fun y => prS y ⟨id, us1, mc, sip, be, la, ud, qu, un, il⟩) = true) := fun h => all_step2 hy HO2.out h
                                      have HF2 : Hid (prS y9 ⟨id, us1, mc, sip, be, la, ud, qu, un, il⟩ = false → (ss.take i).all (fun y => prS y ⟨id, us1, mc, sip, be, la, ud, qu, un, il⟩) = false) := fun h => all_no (k := k) (by rw [List.getElem?_take, if_pos hki]; exact hy) h
                                      obtain ⟨id2, us2, mc2, sip2, be2, la2, ud2, qu2, un2, il2⟩ := y9
                                      obtain ⟨rfl, -⟩ := hR2
                                      have p0 : wr.cell? ⟨bk, off + k * 10, none⟩ = some (.int .i64 id2) := hc2 0 _ rfl
                                      have p1 : wr.cell? ⟨bk, off + k * 10 + 1, none⟩ = some (.int .i64 us2) := hc2 1 _ rfl
                                      have p2 : wr.cell? ⟨bk, off + k * 10 + 2, none⟩ = some (.string mc2) := hc2 2 _ rfl
                                      have p3 : wr.cell? ⟨bk, off + k * 10 + 3, none⟩ = some (.int .i64 sip2) := hc2 3 _ rfl
                                      have p4 : wr.cell? ⟨bk, off + k * 10 + 4, none⟩ = some (.int .i64 be2) := hc2 4 _ rfl
                                      have p5 : wr.cell? ⟨bk, off + k * 10 + 5, none⟩ = some (.int .i64 la2) := hc2 5 _ rfl
                                      have p6 : wr.cell? ⟨bk, off + k * 10 + 6, none⟩ = some (.int .i64 ud2) := hc2 6 _ rfl
                                      have p7 : wr.cell? ⟨bk, off + k * 10 + 7, none⟩ = some (.int .i64 qu2) := hc2 7 _ rfl
                                      have p8 : wr.cell? ⟨bk, off + k * 10 + 8, none⟩ = some (.int .i64 un2) := hc2 8 _ rfl
                                      have p9 : wr.cell? ⟨bk, off + k * 10 + 9, none⟩ = some (.int .i64 il2) := hc2 9 _ rfl
                                      have hkl : (k : Int) < (sl : Int) := by omega
                                      have hkz : (k : Int) < (i : Int) := by omega
                                      have ep : prS ⟨id2, us2, mc2, sip2, be2, la2, ud2, qu2, un2, il2⟩ ⟨id, us1, mc, sip, be, la, ud, qu, un, il⟩ = (decide (id2 < id) && (!decide (us2 = us1) && (!(mc2.toList == mc.toList) && !decide (sip2 = sip)))) := rfl
                                      rw [ep] at HT2 HF2
                                      clear hc2 hvl2 ep
                                      have A0 : (wr.alloc (.cells #[.int .i64 id2, .int .i64 us2, .string mc2, .int .i64 sip2, .int .i64 be2, .int .i64 la2, .int .i64 ud2, .int .i64 qu2, .int .i64 un2, .int .i64 il2] 137)).cell? ⟨Bx, 0, none⟩ = some (.int .i64 id) := acell x0 _
                                      have A1 : (wr.alloc (.cells #[.int .i64 id2, .int .i64 us2, .string mc2, .int .i64 sip2, .int .i64 be2, .int .i64 la2, .int .i64 ud2, .int .i64 qu2, .int .i64 un2, .int .i64 il2] 137)).cell? ⟨Bx, 1, none⟩ = some (.int .i64 us1) := acell x1 _
                                      have A2 : (wr.alloc (.cells #[.int .i64 id2, .int .i64 us2, .string mc2, .int .i64 sip2, .int .i64 be2, .int .i64 la2, .int .i64 ud2, .int .i64 qu2, .int .i64 un2, .int .i64 il2] 137)).cell? ⟨Bx, 2, none⟩ = some (.string mc) := acell x2 _
                                      have A3 : (wr.alloc (.cells #[.int .i64 id2, .int .i64 us2, .string mc2, .int .i64 sip2, .int .i64 be2, .int .i64 la2, .int .i64 ud2, .int .i64 qu2, .int .i64 un2, .int .i64 il2] 137)).cell? ⟨Bx, 3, none⟩ = some (.int .i64 sip) := acell x3 _
                                      have X7 : Hid (GkW w (wr.alloc (.cells #[.int .i64 id2, .int .i64 us2, .string mc2, .int .i64 sip2, .int .i64 be2, .int .i64 la2, .int .i64 ud2, .int .i64 qu2, .int .i64 un2, .int .i64 il2] 137)) ip b ua sa fa ra ul uc sl sc fl fc rl rc nx ∧ (wr.alloc (.cells #[.int .i64 id2, .int .i64 us2, .string mc2, .int .i64 sip2, .int .i64 be2, .int .i64 la2, .int .i64 ud2, .int .i64 qu2, .int .i64 un2, .int .i64 il2] 137)).cell? ⟨Bx, 0, none⟩ = some (.int .i64 id) ∧ (wr.alloc (.cells #[.int .i64 id2, .int .i64 us2, .string mc2, .int .i64 sip2, .int .i64 be2, .int .i64 la2, .int .i64 ud2, .int .i64 qu2, .int .i64 un2, .int .i64 il2] 137)).cell? ⟨Bx, 1, none⟩ = some (.int .i64 us1) ∧ (wr.alloc (.cells #[.int .i64 id2, .int .i64 us2, .string mc2, .int .i64 sip2, .int .i64 be2, .int .i64 la2, .int .i64 ud2, .int .i64 qu2, .int .i64 un2, .int .i64 il2] 137)).cell? ⟨Bx, 2, none⟩ = some (.string mc) ∧ (wr.alloc (.cells #[.int .i64 id2, .int .i64 us2, .string mc2, .int .i64 sip2, .int .i64 be2, .int .i64 la2, .int .i64 ud2, .int .i64 qu2, .int .i64 un2, .int .i64 il2] 137)).cell? ⟨Bx, 3, none⟩ = some (.int .i64 sip)) := ⟨X.out.keep ((Grw.refl _).alloc _), A0, A1, A2, A3⟩
                                      by_cases h1 : id2 < id
                                      rotate_left
                                      · have hz1 : decide (id ≤ id2) = true := decide_eq_true (by omega)
                                        as_aux_lemma =>
                                          have hf2 : Hid ((ss.take i).all (fun y => prS y ⟨id, us1, mc, sip, be, la, ud, qu, un, il⟩) = false) := HF2.out (by simp [h1])
                                          have hv : Hid (z = false) := by show z = false; rw [E.out, HF.out (by rw [hf2.out]; simp)]; simp
                                          have HGX : Hid (Grw w _) := X7.out.1.grw
                                          (try clear HS)
                                          (try clear HF)
                                          (try clear HT2)
                                          (try clear HF2)
                                          (try clear HO)
                                          (try clear HO2)
                                          (try clear E)
                                          (try clear X)
                                          (try clear X5)
                                          (try clear X7)
                                          (try clear RX)
                                          (try clear RY)
                                          (try clear RU)
                                          (try clear RS)
                                          (try clear RF)
                                          (try clear RR)
                                          (try clear EA)
                                          go_wp2
                                          go_ret
                                          exact ⟨by rw [hv.out]; rfl, HGX.out⟩
                                      have hz1 : decide (id ≤ id2) = false := decide_eq_false (by omega)
                                      by_cases h2 : us2 = us1
                                      · have hz2 : (us2 == us1) = true := by simp [h2]
                                        as_aux_lemma =>
                                          have hf2 : Hid ((ss.take i).all (fun y => prS y ⟨id, us1, mc, sip, be, la, ud, qu, un, il⟩) = false) := HF2.out (by simp [h2])
                                          clear h2
                                          have hv : Hid (z = false) := by show z = false; rw [E.out, HF.out (by rw [hf2.out]; simp)]; simp
                                          have HGX : Hid (Grw w _) := X7.out.1.grw
                                          (try clear HS)
                                          (try clear HF)
                                          (try clear HT2)
                                          (try clear HF2)
                                          (try clear HO)
                                          (try clear HO2)
                                          (try clear E)
                                          (try clear X)
                                          (try clear X5)
                                          (try clear X7)
                                          (try clear RX)
                                          (try clear RY)
                                          (try clear RU)
                                          (try clear RS)
                                          (try clear RF)
                                          (try clear RR)
                                          (try clear EA)
                                          go_wp2
                                          go_ret
                                          exact ⟨by rw [hv.out]; rfl, HGX.out⟩
                                      have hz2 : (us2 == us1) = false := by simp [h2]
                                      cases h3 : (mc2.toList == mc.toList) with
                                      | true =>
                                        as_aux_lemma =>
                                          have hf2 : Hid ((ss.take i).all (fun y => prS y ⟨id, us1, mc, sip, be, la, ud, qu, un, il⟩) = false) := HF2.out (by simp [h3])
                                          have hv : Hid (z = false) := by show z = false; rw [E.out, HF.out (by rw [hf2.out]; simp)]; simp
                                          have HGX : Hid (Grw w _) := X7.out.1.grw
                                          (try clear HS)
                                          (try clear HF)
                                          (try clear HT2)
                                          (try clear HF2)
                                          (try clear HO)
                                          (try clear HO2)
                                          (try clear E)
                                          (try clear X)
                                          (try clear X5)
                                          (try clear X7)
                                          (try clear RX)
                                          (try clear RY)
                                          (try clear RU)
                                          (try clear RS)
                                          (try clear RF)
                                          (try clear RR)
                                          (try clear EA)
                                          go_wp2
                                          go_ret
                                          exact ⟨by rw [hv.out]; rfl, HGX.out⟩
                                      | false =>
                                        by_cases h4 : sip2 = sip
                                        · have hz4 : (sip2 == sip) = true := by simp [h4]
                                          as_aux_lemma =>
                                            have hf2 : Hid ((ss.take i).all (fun y => prS y ⟨id, us1, mc, sip, be, la, ud, qu, un, il⟩) = false) := HF2.out (by simp [h4])
                                            clear h4
                                            have hv : Hid (z = false) := by show z = false; rw [E.out, HF.out (by rw [hf2.out]; simp)]; simp
                                            have HGX : Hid (Grw w _) := X7.out.1.grw
                                            (try clear HS)
                                            (try clear HF)
                                            (try clear HT2)
                                            (try clear HF2)
                                            (try clear HO)
                                            (try clear HO2)
                                            (try clear E)
                                            (try clear X)
                                            (try clear X5)
                                            (try clear X7)
                                            (try clear RX)
                                            (try clear RY)
                                            (try clear RU)
                                            (try clear RS)
                                            (try clear RF)
                                            (try clear RR)
                                            (try clear EA)
                                            go_wp2
                                            go_ret
                                            exact ⟨by rw [hv.out]; rfl, HGX.out⟩
                                        have hz4 : (sip2 == sip) = false := by simp [h4]
                                        have HT3 : Hid ((ss.take (k + 1)).all (fun y => prS y ⟨id, us1, mc, sip, be, la, ud, qu, un, il⟩) = true) := HT2.out (by simp [h1, h2, h3, h4])
                                        clear HT2 HF2 h1 h2 h4
                                        go_wp2
                                        go_roundw
                                        case rel => exact ⟨k + 1, by omega, by go_num, HT3, X7⟩
                                        case measure => simp [intOf]; omega
                                    · obtain rfl : k = i := by omega
                                      have hkz : ¬ (k : Int) < (k : Int) := by omega
                                      have HO3 : Hid ((List.range (k + 1)).all (seAt (sB nx us.length ip b) ss) = true) := HS.out (by rw [HO2.out]; rfl)
                                      clear HS HF HO HO2
                                      go_wp2
                                      exact ⟨⟨k + 1, by omega, by go_num, HO3, X⟩, by simp [intOf]; omega⟩
          · obtain rfl : sl = i := by omega
            have E2 : Hid (z = (risB faB ltF fs && es.all (reB nx))) := by show z = _; rw [E.out]; have : seB (sB nx us.length ip b) ss = true := (by unfold seB; rw [ls]; exact HO.out); rw [this]; rfl
            clear E HO hlt
            have d0 := X.out.c0
            have d1 := X.out.c1
            have e0 := X.out.g0
            have e1 := X.out.g1
            have e2 := X.out.g2
            have e3 := X.out.g3
            have e4 := X.out.g4
            go_wp2
            generalize wr = w3 at X d0 d1 e0 e1 e2 e3 e4 ⊢
            clear d0 d1 e0 e1 e2 e3 e4
            go_loopw [9] (fun u wr => ∃ k : Nat, k ≤ fl ∧ u = .int .i64 k ∧ Hid ((List.range k).all (risAt faB ltF fs) = true) ∧ Hid (GkW w wr ip b ua sa fa ra ul uc sl sc fl fc rl rc nx)) (fun u _ => fl - (intOf u).toNat)
            case atStart => exact ⟨0, Nat.zero_le _, rfl, rfl, X.out⟩
            case round =>
              clear X
              obtain ⟨k, hk, rfl, HO, X⟩ := hrel
              by_cases hlt : k < fl
              · obtain ⟨x9, hx⟩ := at_of lf hlt
                obtain ⟨bk, off, vs, ea, hbk, hvl, hR, hc⟩ := RF.out.at FaR.kp X.out.grw.below hx
                have EA : Hid (fa = some ⟨bk, off, none⟩) := ea
                clear ea
                have HS : Hid (risAt faB ltF fs k = true → (List.range (k + 1)).all (risAt faB ltF fs) = true) := fun h => ris_step HO.out h
                have HF : Hid (risAt faB ltF fs k = false → risB faB ltF fs = false) := fun h => ris_no (by omega) h
                have d0 := X.out.c0
                have d1 := X.out.c1
                have e0 := X.out.g0
                have e1 := X.out.g1
                have e2 := X.out.g2
                have e3 := X.out.g3
                have e4 := X.out.g4
                rw [EA.out] at e2
                obtain ⟨mc, ct, un⟩ := x9
                obtain ⟨rfl, -⟩ := hR
                have q0 : wr.cell? ⟨bk, off + k * 3, none⟩ = some (.string mc) := hc 0 _ rfl
                have q1 : wr.cell? ⟨bk, off + k * 3 + 1, none⟩ = some (.int .i64 ct) := hc 1 _ rfl
                have q2 : wr.cell? ⟨bk, off + k * 3 + 2, none⟩ = some (.int .i64 un) := hc 2 _ rfl
                have hltz : (k : Int) < (fl : Int) := by omega
                have T0 : Hid (∀ w, Calls Tryz.prog 110 #[.string mc] w fun e w' => e = .returned (.bool (dec (mc.size = 6))) ∧ Grw w w') := fun w => (l01MacC_any mc w).mono fun e w' h => ⟨h.1, h.2 ▸ Grw.refl _⟩
                have T1 : Hid (∀ w, Calls Tryz.prog 76 #[.int .i64 ct, .int .i64 0, .int .i64 2] w fun e w' => e = .returned (.bool (dec (0 ≤ ct ∧ ct ≤ 2))) ∧ Grw w w') := fun w => (specIn_any ct 0 2 w).mono fun e w' h => ⟨h.1, h.2 ▸ Grw.refl _⟩
                have T2 : Hid (∀ w, Calls Tryz.prog 76 #[.int .i64 un, .int .i64 0, .int .i64 100010] w fun e w' => e = .returned (.bool (dec (0 ≤ un ∧ un ≤ 100010))) ∧ Grw w w') := fun w => (specIn_any un 0 100010 w).mono fun e w' h => ⟨h.1, h.2 ▸ Grw.refl _⟩
                by_cases hk0 : k = 0
                · have eo : risAt faB ltF fs k = faB ⟨mc, ct, un⟩ := by subst hk0; exact risAt_zero hx
                  have hkd : decide (0 < k) = false := decide_eq_false (by omega)
                  clear hk0
                  have eu : faB ⟨mc, ct, un⟩ = (dec (mc.size = 6) && (dec (0 ≤ ct ∧ ct ≤ 2) && dec (0 ≤ un ∧ un ≤ 100010))) := rfl
                  rw [eo, eu] at HS HF
                  generalize dec (mc.size = 6) = q1 at T0 HS HF
                  generalize dec (0 ≤ ct ∧ ct ≤ 2) = q2 at T1 HS HF
                  generalize dec (0 ≤ un ∧ un ≤ 100010) = q3 at T2 HS HF
                  clear hc hvl hx eo eu
                  have X1 : Hid (GkW w (wr.alloc (.cells #[.string mc, .int .i64 ct, .int .i64 un] 179)) ip b ua sa fa ra ul uc sl sc fl fc rl rc nx) := X.out.keep ((Grw.refl _).alloc _)
                  have hmix : Tryz.prog.follows .mixedOrders = true := by kernel_rfl
                  have y0 : ∀ n os, (grow (World.drewN (wr.alloc (.cells #[.string mc, .int .i64 ct, .int .i64 un] 179)) n) os).cell? ⟨wr.heap.size, 0, none⟩ = some (.string mc) := fun n os => cell_grown (by simp) (by simp) n os
                  have y1 : ∀ n os, (grow (World.drewN (wr.alloc (.cells #[.string mc, .int .i64 ct, .int .i64 un] 179)) n) os).cell? ⟨wr.heap.size, 1, none⟩ = some (.int .i64 ct) := fun n os => cell_grown (by simp) (by simp) n os
                  have y2 : ∀ n os, (grow (World.drewN (wr.alloc (.cells #[.string mc, .int .i64 ct, .int .i64 un] 179)) n) os).cell? ⟨wr.heap.size, 2, none⟩ = some (.int .i64 un) := fun n os => cell_grown (by simp) (by simp) n os
                  have v2 : ∀ n os, (grow (World.drewN (wr.alloc (.cells #[.string mc, .int .i64 ct, .int .i64 un] 179)) n) os).cell? ⟨w.heap.size + 1, 2, none⟩ = some (.slice (some ⟨bk, off, none⟩) fl fc) := fun n os => (((Grw.refl wr).alloc _).trans ⟨n, os, rfl⟩).keep e2
                  cases q1 with
                  | false =>
                    as_aux_lemma =>
                      have hv : Hid (z = false) := by show z = false; rw [E2.out, HF.out (by simp)]; rfl
                      go_wp2_with fail
                      refine wp_region_quiet_grown (by assumption) (by kernel_rfl) ?_
                      repeat (go_big_quiet_step (first | fail | (first | (go_at_call 110; exact Calls.grown_of (T0.out _)) | (go_at_call 76; with_reducible exact Calls.grown_of (T1.out _)) | (go_at_call 76; with_reducible exact Calls.grown_of (T2.out _)))))
                      refine wpQuiet_nil ?_
                      intro _ hw'
                      obtain ⟨⟨nq, osq⟩, hw''⟩ := hw'
                      subst hw''
                      have HG1 : Hid (Grw w _) := X1.out.grw.trans ⟨nq, osq, rfl⟩
                      clear y0 y1 y2 v2
                      go_wp2
                      go_ret
                      exact ⟨by rw [hv.out]; rfl, HG1.out⟩
                  | true =>
                    cases q2 with
                    | false =>
                      as_aux_lemma =>
                        have hv : Hid (z = false) := by show z = false; rw [E2.out, HF.out (by simp)]; rfl
                        go_wp2_with fail
                        refine wp_region_quiet_grown (by assumption) (by kernel_rfl) ?_
                        repeat (go_big_quiet_step (first | fail | (first | (go_at_call 110; exact Calls.grown_of (T0.out _)) | (go_at_call 76; with_reducible exact Calls.grown_of (T1.out _)) | (go_at_call 76; with_reducible exact Calls.grown_of (T2.out _)))))
                        refine wpQuiet_nil ?_
                        intro _ hw'
                        obtain ⟨⟨nq, osq⟩, hw''⟩ := hw'
                        subst hw''
                        have HG1 : Hid (Grw w _) := X1.out.grw.trans ⟨nq, osq, rfl⟩
                        clear y0 y1 y2 v2
                        go_wp2
                        go_ret
                        exact ⟨by rw [hv.out]; rfl, HG1.out⟩
                    | true =>
                      cases q3 with
                      | false =>
                        as_aux_lemma =>
                          have hv : Hid (z = false) := by show z = false; rw [E2.out, HF.out (by simp)]; rfl
                          go_wp2_with fail
                          refine wp_region_quiet_grown (by assumption) (by kernel_rfl) ?_
                          repeat (go_big_quiet_step (first | fail | (first | (go_at_call 110; exact Calls.grown_of (T0.out _)) | (go_at_call 76; with_reducible exact Calls.grown_of (T1.out _)) | (go_at_call 76; with_reducible exact Calls.grown_of (T2.out _)))))
                          refine wpQuiet_nil ?_
                          intro _ hw'
                          obtain ⟨⟨nq, osq⟩, hw''⟩ := hw'
                          subst hw''
                          have HG1 : Hid (Grw w _) := X1.out.grw.trans ⟨nq, osq, rfl⟩
                          clear y0 y1 y2 v2
                          go_wp2
                          go_ret
                          exact ⟨by rw [hv.out]; rfl, HG1.out⟩
                      | true =>
                        have HS' : Hid ((List.range (k + 1)).all (risAt faB ltF fs) = true) := HS.out (by simp)
                        clear HS HF
                        go_wp2_with fail
                        refine wp_region_quiet_grown (by assumption) (by kernel_rfl) ?_
                        repeat (go_big_quiet_step (first | fail | (first | (go_at_call 110; exact Calls.grown_of (T0.out _)) | (go_at_call 76; with_reducible exact Calls.grown_of (T1.out _)) | (go_at_call 76; with_reducible exact Calls.grown_of (T2.out _)))))
                        refine wpQuiet_nil ?_
                        intro _ hw'
                        obtain ⟨⟨nq, osq⟩, hw''⟩ := hw'
                        subst hw''
                        have X2 : Hid (GkW w (grow (World.drewN (wr.alloc (.cells #[.string mc, .int .i64 ct, .int .i64 un] 179)) nq) osq) ip b ua sa fa ra ul uc sl sc fl fc rl rc nx) := X1.out.keep ⟨nq, osq, rfl⟩
                        clear y0 y1 y2 v2 X1
                        go_wp2
                        go_roundw
                        case rel => exact ⟨k + 1, by omega, by go_num, HS', X2⟩
                        case measure => simp [intOf]; omega
                · obtain ⟨j, hkj⟩ : ∃ j, k = j + 1 := ⟨k - 1, by omega⟩
                  obtain ⟨z', hx'⟩ := at_of (k := j) lf (by omega)
                  obtain ⟨b', off', vs', e', hb', hvl', hR', hc'⟩ := RF.out.at FaR.kp X.out.grw.below hx'
                  rw [EA.out] at e'
                  cases e'
                  obtain ⟨mc', ct', un'⟩ := z'
                  obtain ⟨rfl, -⟩ := hR'
                  have p0 : wr.cell? ⟨bk, off + j * 3, none⟩ = some (.string mc') := hc' 0 _ rfl
                  obtain ⟨lt, hlt2⟩ : ∃ lt, Op.bytesLess mc'.toList mc.toList = lt := ⟨_, rfl⟩
                  have eo : risAt faB ltF fs k = (faB ⟨mc, ct, un⟩ && lt) := by subst hkj; rw [← hlt2]; exact risAt_succ hx hx'
                  have hkd : decide (0 < k) = true := decide_eq_true (by omega)
                  have hj : (k : Int) - 1 = (j : Int) := by omega
                  have hjl : (j : Int) < (fl : Int) := by omega
                  clear hk0 hkj
                  have eu : faB ⟨mc, ct, un⟩ = (dec (mc.size = 6) && (dec (0 ≤ ct ∧ ct ≤ 2) && dec (0 ≤ un ∧ un ≤ 100010))) := rfl
                  rw [eo, eu] at HS HF
                  generalize dec (mc.size = 6) = q1 at T0 HS HF
                  generalize dec (0 ≤ ct ∧ ct ≤ 2) = q2 at T1 HS HF
                  generalize dec (0 ≤ un ∧ un ≤ 100010) = q3 at T2 HS HF
                  clear hc hvl hx eo eu hc' hvl' hx'
                  have X1 : Hid (GkW w (wr.alloc (.cells #[.string mc, .int .i64 ct, .int .i64 un] 179)) ip b ua sa fa ra ul uc sl sc fl fc rl rc nx) := X.out.keep ((Grw.refl _).alloc _)
                  have hmix : Tryz.prog.follows .mixedOrders = true := by kernel_rfl
                  have y0 : ∀ n os, (grow (World.drewN (wr.alloc (.cells #[.string mc, .int .i64 ct, .int .i64 un] 179)) n) os).cell? ⟨wr.heap.size, 0, none⟩ = some (.string mc) := fun n os => cell_grown (by simp) (by simp) n os
                  have y1 : ∀ n os, (grow (World.drewN (wr.alloc (.cells #[.string mc, .int .i64 ct, .int .i64 un] 179)) n) os).cell? ⟨wr.heap.size, 1, none⟩ = some (.int .i64 ct) := fun n os => cell_grown (by simp) (by simp) n os
                  have y2 : ∀ n os, (grow (World.drewN (wr.alloc (.cells #[.string mc, .int .i64 ct, .int .i64 un] 179)) n) os).cell? ⟨wr.heap.size, 2, none⟩ = some (.int .i64 un) := fun n os => cell_grown (by simp) (by simp) n os
                  have v2 : ∀ n os, (grow (World.drewN (wr.alloc (.cells #[.string mc, .int .i64 ct, .int .i64 un] 179)) n) os).cell? ⟨w.heap.size + 1, 2, none⟩ = some (.slice (some ⟨bk, off, none⟩) fl fc) := fun n os => (((Grw.refl wr).alloc _).trans ⟨n, os, rfl⟩).keep e2
                  have p1 : ∀ n os, (grow (World.drewN (wr.alloc (.cells #[.string mc, .int .i64 ct, .int .i64 un] 179)) n) os).cell? ⟨bk, off + j * 3, none⟩ = some (.string mc') := fun n os => (((Grw.refl wr).alloc _).trans ⟨n, os, rfl⟩).keep p0
                  cases q1 with
                  | false =>
                    as_aux_lemma =>
                      have hv : Hid (z = false) := by show z = false; rw [E2.out, HF.out (by simp)]; rfl
                      go_wp2_with fail
                      refine wp_region_quiet_grown (by assumption) (by kernel_rfl) ?_
                      repeat (go_big_quiet_step (first | fail | (first | (go_at_call 110; exact Calls.grown_of (T0.out _)) | (go_at_call 76; with_reducible exact Calls.grown_of (T1.out _)) | (go_at_call 76; with_reducible exact Calls.grown_of (T2.out _)))))
                      refine wpQuiet_nil ?_
                      intro _ hw'
                      obtain ⟨⟨nq, osq⟩, hw''⟩ := hw'
                      subst hw''
                      have HG1 : Hid (Grw w _) := X1.out.grw.trans ⟨nq, osq, rfl⟩
                      clear y0 y1 y2 v2 p1
                      go_wp2
                      go_ret
                      exact ⟨by rw [hv.out]; rfl, HG1.out⟩
                  | true =>
                    cases q2 with
                    | false =>
                      as_aux_lemma =>
                        have hv : Hid (z = false) := by show z = false; rw [E2.out, HF.out (by simp)]; rfl
                        go_wp2_with fail
                        refine wp_region_quiet_grown (by assumption) (by kernel_rfl) ?_
                        repeat (go_big_quiet_step (first | fail | (first | (go_at_call 110; exact Calls.grown_of (T0.out _)) | (go_at_call 76; with_reducible exact Calls.grown_of (T1.out _)) | (go_at_call 76; with_reducible exact Calls.grown_of (T2.out _)))))
                        refine wpQuiet_nil ?_
                        intro _ hw'
                        obtain ⟨⟨nq, osq⟩, hw''⟩ := hw'
                        subst hw''
                        have HG1 : Hid (Grw w _) := X1.out.grw.trans ⟨nq, osq, rfl⟩
                        clear y0 y1 y2 v2 p1
                        go_wp2
                        go_ret
                        exact ⟨by rw [hv.out]; rfl, HG1.out⟩
                    | true =>
                      cases q3 with
                      | false =>
                        as_aux_lemma =>
                          have hv : Hid (z = false) := by show z = false; rw [E2.out, HF.out (by simp)]; rfl
                          go_wp2_with fail
                          refine wp_region_quiet_grown (by assumption) (by kernel_rfl) ?_
                          repeat (go_big_quiet_step (first | fail | (first | (go_at_call 110; exact Calls.grown_of (T0.out _)) | (go_at_call 76; with_reducible exact Calls.grown_of (T1.out _)) | (go_at_call 76; with_reducible exact Calls.grown_of (T2.out _)))))
                          refine wpQuiet_nil ?_
                          intro _ hw'
                          obtain ⟨⟨nq, osq⟩, hw''⟩ := hw'
                          subst hw''
                          have HG1 : Hid (Grw w _) := X1.out.grw.trans ⟨nq, osq, rfl⟩
                          clear y0 y1 y2 v2 p1
                          go_wp2
                          go_ret
                          exact ⟨by rw [hv.out]; rfl, HG1.out⟩
                      | true =>
                        cases lt with
                        | true =>
                          have HS' : Hid ((List.range (k + 1)).all (risAt faB ltF fs) = true) := HS.out (by simp)
                          clear HS HF
                          go_wp2_with fail
                          refine wp_region_quiet_grown (by assumption) (by kernel_rfl) ?_
                          repeat (go_big_quiet_step (first | fail | (first | (go_at_call 110; exact Calls.grown_of (T0.out _)) | (go_at_call 76; with_reducible exact Calls.grown_of (T1.out _)) | (go_at_call 76; with_reducible exact Calls.grown_of (T2.out _)))))
                          refine wpQuiet_nil ?_
                          intro _ hw'
                          obtain ⟨⟨nq, osq⟩, hw''⟩ := hw'
                          subst hw''
                          have X2 : Hid (GkW w (grow (World.drewN (wr.alloc (.cells #[.string mc, .int .i64 ct, .int .i64 un] 179)) nq) osq) ip b ua sa fa ra ul uc sl sc fl fc rl rc nx) := X1.out.keep ⟨nq, osq, rfl⟩
                          clear y0 y1 y2 v2 p1 X1
                          go_wp2
                          go_roundw
                          case rel => exact ⟨k + 1, by omega, by go_num, HS', X2⟩
                          case measure => simp [intOf]; omega
                        | false =>
                          as_aux_lemma =>
                            have hv : Hid (z = false) := by show z = false; rw [E2.out, HF.out (by simp)]; rfl
                            go_wp2_with fail
                            refine wp_region_quiet_grown (by assumption) (by kernel_rfl) ?_
                            repeat (go_big_quiet_step (first | fail | (first | (go_at_call 110; exact Calls.grown_of (T0.out _)) | (go_at_call 76; with_reducible exact Calls.grown_of (T1.out _)) | (go_at_call 76; with_reducible exact Calls.grown_of (T2.out _)))))
                            refine wpQuiet_nil ?_
                            intro _ hw'
                            obtain ⟨⟨nq, osq⟩, hw''⟩ := hw'
                            subst hw''
                            have HG1 : Hid (Grw w _) := X1.out.grw.trans ⟨nq, osq, rfl⟩
                            clear y0 y1 y2 v2 p1
                            go_wp2
                            go_ret
                            exact ⟨by rw [hv.out]; rfl, HG1.out⟩
              · obtain rfl : fl = k := by omega
                have d0 := X.out.c0
                have d1 := X.out.c1
                have e0 := X.out.g0
                have e1 := X.out.g1
                have e2 := X.out.g2
                have e3 := X.out.g3
                have e4 := X.out.g4
                have E3 : Hid (z = es.all (reB nx)) := by show z = _; rw [E2.out, ris_end lf HO.out]; rfl
                clear E2 HO hlt
                go_wp2
                generalize wr = w3 at X d0 d1 e0 e1 e2 e3 e4 ⊢
                clear d0 d1 e0 e1 e2 e3 e4
                go_loopw [11] (fun u wr => ∃ k : Nat, k ≤ rl ∧ u = .int .i64 k ∧ Hid ((es.take k).all (reB nx) = true) ∧ Hid (GkW w wr ip b ua sa fa ra ul uc sl sc fl fc rl rc nx)) (fun u _ => rl - (intOf u).toNat)
                case atStart => exact ⟨0, Nat.zero_le _, rfl, rfl, X.out⟩
                case round =>
                  clear X
                  obtain ⟨k, hk, rfl, HO, X⟩ := hrel
                  by_cases hlt : k < rl
                  · obtain ⟨x9, hx⟩ := at_of lr hlt
                    obtain ⟨bk, off, vs, ea, hbk, hvl, hR, hc⟩ := RR.out.at ReR.kp X.out.grw.below hx
                    have EA : Hid (ra = some ⟨bk, off, none⟩) := ea
                    clear ea
                    have HS : Hid (reB nx x9 = true → (es.take (k + 1)).all (reB nx) = true) := fun h => all_step2 hx HO.out h
                    have HF : Hid (reB nx x9 = false → es.all (reB nx) = false) := fun h => all_no hx h
                    have d0 := X.out.c0
                    have d1 := X.out.c1
                    have e0 := X.out.g0
                    have e1 := X.out.g1
                    have e2 := X.out.g2
                    have e3 := X.out.g3
                    have e4 := X.out.g4
                    rw [EA.out] at e3
                    obtain ⟨rid, rtm, rca, rbt, rst⟩ := x9
                    obtain ⟨rfl, -⟩ := hR
                    have q0 : wr.cell? ⟨bk, off + k * 5, none⟩ = some (.int .i64 rid) := hc 0 _ rfl
                    have q1 : wr.cell? ⟨bk, off + k * 5 + 1, none⟩ = some (.int .i64 rtm) := hc 1 _ rfl
                    have q2 : wr.cell? ⟨bk, off + k * 5 + 2, none⟩ = some (.int .i64 rca) := hc 2 _ rfl
                    have q3 : wr.cell? ⟨bk, off + k * 5 + 3, none⟩ = some (.int .i64 rbt) := hc 3 _ rfl
                    have q4 : wr.cell? ⟨bk, off + k * 5 + 4, none⟩ = some (.bool rst) := hc 4 _ rfl
                    have hltz : (k : Int) < (rl : Int) := by omega
                    have T0 : Hid (∀ w, Calls Tryz.prog 76 #[.int .i64 rid, .int .i64 1, .int .i64 (nx - 1)] w fun e w' => e = .returned (.bool (dec (1 ≤ rid ∧ rid ≤ nx - 1))) ∧ w' = w) := fun w => specIn_any rid 1 (nx - 1) w
                    have T1 : Hid (∀ w, Calls Tryz.prog 76 #[.int .i64 rtm, .int .i64 0, .int .i64 100000] w fun e w' => e = .returned (.bool (dec (0 ≤ rtm ∧ rtm ≤ 100000))) ∧ w' = w) := fun w => specIn_any rtm 0 100000 w
                    have T2 : Hid (∀ w, Calls Tryz.prog 76 #[.int .i64 rbt, .int .i64 0, .int .i64 1000000] w fun e w' => e = .returned (.bool (dec (0 ≤ rbt ∧ rbt ≤ 1000000))) ∧ w' = w) := fun w => specIn_any rbt 0 1000000 w
                    have T3 : Hid (∀ w, Calls Tryz.prog 76 #[.int .i64 rca, .int .i64 0, .int .i64 6] w fun e w' => e = .returned (.bool (dec (0 ≤ rca ∧ rca ≤ 6))) ∧ w' = w) := fun w => specIn_any rca 0 6 w
                    have eu : reB nx ⟨rid, rtm, rca, rbt, rst⟩ = (dec (1 ≤ rid ∧ rid ≤ nx - 1) && (dec (0 ≤ rtm ∧ rtm ≤ 100000) && (dec (0 ≤ rbt ∧ rbt ≤ 1000000) && ((rst == dec (0 < rca)) && (dec (0 ≤ rca ∧ rca ≤ 6) && (rst || dec (rbt = 0))))))) := rfl
                    rw [eu] at HS HF
                    generalize dec (1 ≤ rid ∧ rid ≤ nx - 1) = t0 at T0 HS HF
                    generalize dec (0 ≤ rtm ∧ rtm ≤ 100000) = t1 at T1 HS HF
                    generalize dec (0 ≤ rbt ∧ rbt ≤ 1000000) = t2 at T2 HS HF
                    generalize dec (0 ≤ rca ∧ rca ≤ 6) = t3 at T3 HS HF
                    clear hc hvl hx eu
                    have f0 := acell e0 (.cells #[.int .i64 rid, .int .i64 rtm, .int .i64 rca, .int .i64 rbt, .bool rst] 163)
                    have f1 := acell e1 (.cells #[.int .i64 rid, .int .i64 rtm, .int .i64 rca, .int .i64 rbt, .bool rst] 163)
                    have f2 := acell e2 (.cells #[.int .i64 rid, .int .i64 rtm, .int .i64 rca, .int .i64 rbt, .bool rst] 163)
                    have f3 := acell e3 (.cells #[.int .i64 rid, .int .i64 rtm, .int .i64 rca, .int .i64 rbt, .bool rst] 163)
                    have f4 := acell e4 (.cells #[.int .i64 rid, .int .i64 rtm, .int .i64 rca, .int .i64 rbt, .bool rst] 163)
                    go_wp2_with fail
                    clear f0 f1 f2 f3 f4
                    have x0 : (wr.alloc (.cells #[.int .i64 rid, .int .i64 rtm, .int .i64 rca, .int .i64 rbt, .bool rst] 163)).cell? ⟨wr.heap.size, 0, none⟩ = some (.int .i64 rid) := by simp [go_sem]
                    have x1 : (wr.alloc (.cells #[.int .i64 rid, .int .i64 rtm, .int .i64 rca, .int .i64 rbt, .bool rst] 163)).cell? ⟨wr.heap.size, 1, none⟩ = some (.int .i64 rtm) := by simp [go_sem]
                    have x2 : (wr.alloc (.cells #[.int .i64 rid, .int .i64 rtm, .int .i64 rca, .int .i64 rbt, .bool rst] 163)).cell? ⟨wr.heap.size, 2, none⟩ = some (.int .i64 rca) := by simp [go_sem]
                    have x3 : (wr.alloc (.cells #[.int .i64 rid, .int .i64 rtm, .int .i64 rca, .int .i64 rbt, .bool rst] 163)).cell? ⟨wr.heap.size, 3, none⟩ = some (.int .i64 rbt) := by simp [go_sem]
                    have x4 : (wr.alloc (.cells #[.int .i64 rid, .int .i64 rtm, .int .i64 rca, .int .i64 rbt, .bool rst] 163)).cell? ⟨wr.heap.size, 4, none⟩ = some (.bool rst) := by simp [go_sem]
                    replace X : Hid (GkW w (wr.alloc (.cells #[.int .i64 rid, .int .i64 rtm, .int .i64 rca, .int .i64 rbt, .bool rst] 163)) ip b ua sa fa ra ul uc sl sc fl fc rl rc nx) := X.out.keep ((Grw.refl _).alloc _)
                    generalize (wr.alloc (.cells #[.int .i64 rid, .int .i64 rtm, .int .i64 rca, .int .i64 rbt, .bool rst] 163)) = W1 at X x0 x1 x2 x3 x4 ⊢
                    clear d0 d1 e0 e1 e2 e3 e4 q0 q1 q2 q3 q4
                    have d0 := X.out.c0
                    have d1 := X.out.c1
                    have e0 := X.out.g0
                    have e1 := X.out.g1
                    have e2 := X.out.g2
                    have e3 := X.out.g3
                    have e4 := X.out.g4
                    rw [EA.out] at e3
                    refine (T0.out _).mono ?_
                    rintro e w9 ⟨rfl, rfl⟩
                    cases t0 with
                    | false =>
                      as_aux_lemma =>
                        have hv : Hid (z = false) := by show z = false; rw [E3.out, HF.out (by simp)]
                        go_wp2
                        go_ret
                        exact ⟨by rw [hv.out]; rfl, X.out.grw⟩
                    | true =>
                      go_wp2_with fail
                      refine (T1.out _).mono ?_
                      rintro e w9 ⟨rfl, rfl⟩
                      cases t1 with
                      | false =>
                        as_aux_lemma =>
                          have hv : Hid (z = false) := by show z = false; rw [E3.out, HF.out (by simp)]
                          go_wp2
                          go_ret
                          exact ⟨by rw [hv.out]; rfl, X.out.grw⟩
                      | true =>
                        go_wp2_with fail
                        refine (T2.out _).mono ?_
                        rintro e w9 ⟨rfl, rfl⟩
                        cases t2 with
                        | false =>
                          as_aux_lemma =>
                            have hv : Hid (z = false) := by show z = false; rw [E3.out, HF.out (by simp)]
                            go_wp2
                            go_ret
                            exact ⟨by rw [hv.out]; rfl, X.out.grw⟩
                        | true =>
                          by_cases hca : 0 < rca
                          · rw [dec_y hca] at HS HF
                            have hcz : decide (0 < rca) = true := decide_eq_true hca
                            cases rst with
                            | false =>
                              as_aux_lemma =>
                                have hv : Hid (z = false) := by show z = false; rw [E3.out, HF.out (by simp)]
                                go_wp2
                                go_ret
                                exact ⟨by rw [hv.out]; rfl, X.out.grw⟩
                            | true =>
                              go_wp2_with fail
                              refine (T3.out _).mono ?_
                              rintro e w9 ⟨rfl, rfl⟩
                              cases t3 with
                              | false =>
                                as_aux_lemma =>
                                  have hv : Hid (z = false) := by show z = false; rw [E3.out, HF.out (by simp)]
                                  go_wp2
                                  go_ret
                                  exact ⟨by rw [hv.out]; rfl, X.out.grw⟩
                              | true =>
                                have HS' : Hid ((es.take (k + 1)).all (reB nx) = true) := HS.out (by simp)
                                clear HS HF
                                go_wp2
                                go_roundw
                                case rel => exact ⟨k + 1, by omega, by go_num, HS', X⟩
                                case measure => simp [intOf]; omega
                          · rw [dec_n hca] at HS HF
                            have hcz : decide (0 < rca) = false := decide_eq_false hca
                            cases rst with
                            | true =>
                              as_aux_lemma =>
                                have hv : Hid (z = false) := by show z = false; rw [E3.out, HF.out (by simp)]
                                go_wp2
                                go_ret
                                exact ⟨by rw [hv.out]; rfl, X.out.grw⟩
                            | false =>
                              go_wp2_with fail
                              refine (T3.out _).mono ?_
                              rintro e w9 ⟨rfl, rfl⟩
                              cases t3 with
                              | false =>
                                as_aux_lemma =>
                                  have hv : Hid (z = false) := by show z = false; rw [E3.out, HF.out (by simp)]
                                  go_wp2
                                  go_ret
                                  exact ⟨by rw [hv.out]; rfl, X.out.grw⟩
                              | true =>
                                by_cases hb0' : rbt = 0
                                · rw [dec_y hb0'] at HS HF
                                  have hbz : (rbt != 0) = false := by simp [hb0']
                                  have HS' : Hid ((es.take (k + 1)).all (reB nx) = true) := HS.out (by simp)
                                  clear HS HF hb0'
                                  go_wp2
                                  go_roundw
                                  case rel => exact ⟨k + 1, by omega, by go_num, HS', X⟩
                                  case measure => simp [intOf]; omega
                                · rw [dec_n hb0'] at HS HF
                                  have hbz : (rbt != 0) = true := by simp [hb0']
                                  as_aux_lemma =>
                                    have hv : Hid (z = false) := by show z = false; rw [E3.out, HF.out (by simp)]
                                    go_wp2
                                    go_ret
                                    exact ⟨by rw [hv.out]; rfl, X.out.grw⟩
                  · obtain rfl : rl = k := by omega
                    have d0 := X.out.c0
                    have d1 := X.out.c1
                    have e0 := X.out.g0
                    have e1 := X.out.g1
                    have e2 := X.out.g2
                    have e3 := X.out.g3
                    have e4 := X.out.g4
                    have hv : Hid (z = true) := by show z = true; rw [E3.out, all_end lr HO.out]
                    clear HO
                    go_wp2
                    go_ret
                    exact ⟨by rw [hv.out]; rfl, X.out.grw⟩
end Go.Proofs.YtlebblmlbhnppaaGreat

namespace Go.Proofs.YtlebblmlbhnppaaGreat
open Go.RowKit Go.PlainAid Go.Proofs.YtlebblmlbhnppaaGreat.Bt Go.Sort
set_option linter.unusedVariables false
set_option maxRecDepth 20000
theorem mac9_spec (s : ByteArray) (w : World) : Calls Tryz.prog 110 #[.string s] w fun e w' => e = .returned (.bool (dec (s.size = 6))) ∧ w' = w := by
  by_cases h : s.size = 6
  · rw [dec_y h]
    have hz : ((s.size : Int) == 6) = true := by simp; omega
    go_enter Tryz.func110, Tryz.ntmps110
    go_wp2
    go_ret
    exact ⟨rfl, rfl⟩
  · rw [dec_n h]
    have hz : ((s.size : Int) == 6) = false := by simp; omega
    go_enter Tryz.func110, Tryz.ntmps110
    go_wp2
    go_ret
    exact ⟨rfl, rfl⟩
set_option maxHeartbeats 1000000 in
theorem l09Same_any (pr : Int) (mc : ByteArray) (si sp di dp st un ow : Int) (p a ap b bp : Int) (w : World) :
    Calls Tryz.prog 150 #[.agg #[.int .i64 pr, .string mc, .int .i64 si, .int .i64 sp, .int .i64 di, .int .i64 dp, .int .i64 st, .int .i64 un, .int .i64 ow], .int .i64 p, .int .i64 a, .int .i64 ap, .int .i64 b, .int .i64 bp] w fun e w' => e = .returned (.bool (enB (enOf ⟨pr, mc, si, sp, di, dp, st, un, ow⟩) ⟨p, a, ap, b, bp⟩)) ∧ Grw w w' := by
  have E : enB (enOf ⟨pr, mc, si, sp, di, dp, st, un, ow⟩) ⟨p, a, ap, b, bp⟩ = ((pr == p) && ((si == a) && ((sp == ap) && ((di == b) && (dp == bp))))) := rfl
  rw [E]
  clear E
  generalize hb0 : (pr == p) = t0
  generalize hb1 : (si == a) = t1
  generalize hb2 : (sp == ap) = t2
  generalize hb3 : (di == b) = t3
  generalize hb4 : (dp == bp) = t4
  cases t0 with
  | false =>
    go_enter Tryz.func150, Tryz.ntmps150
    go_wp2
    go_ret
    exact ⟨rfl, (Grw.refl _).alloc _⟩
  | true =>
    cases t1 with
    | false =>
      go_enter Tryz.func150, Tryz.ntmps150
      go_wp2
      go_ret
      exact ⟨rfl, (Grw.refl _).alloc _⟩
    | true =>
      cases t2 with
      | false =>
        go_enter Tryz.func150, Tryz.ntmps150
        go_wp2
        go_ret
        exact ⟨rfl, (Grw.refl _).alloc _⟩
      | true =>
        cases t3 with
        | false =>
          go_enter Tryz.func150, Tryz.ntmps150
          go_wp2
          go_ret
          exact ⟨rfl, (Grw.refl _).alloc _⟩
        | true =>
          cases t4 with
          | false =>
            go_enter Tryz.func150, Tryz.ntmps150
            go_wp2
            go_ret
            exact ⟨rfl, (Grw.refl _).alloc _⟩
          | true =>
            go_enter Tryz.func150, Tryz.ntmps150
            go_wp2
            go_ret
            exact ⟨rfl, (Grw.refl _).alloc _⟩
set_option maxHeartbeats 2000000 in
theorem l09Flow_any (pr : Int) (mc : ByteArray) (si sp di dp st un ow : Int) (w : World) :
    Calls Tryz.prog 149 #[.agg #[.int .i64 pr, .string mc, .int .i64 si, .int .i64 sp, .int .i64 di, .int .i64 dp, .int .i64 st, .int .i64 un, .int .i64 ow]] w fun e w' => e = .returned (.bool (flB ⟨pr, mc, si, sp, di, dp, st, un, ow⟩)) ∧ Grw w w' := by
  have T0 : Hid (∀ w, Calls Tryz.prog 76 #[.int .i64 pr, .int .i64 0, .int .i64 255] w fun e w' => e = .returned (.bool (dec (0 ≤ pr ∧ pr ≤ 255))) ∧ w' = w) := fun w => specIn_any pr 0 255 w
  have T1 : Hid (∀ w, Calls Tryz.prog 110 #[.string mc] w fun e w' => e = .returned (.bool (dec (mc.size = 6))) ∧ w' = w) := fun w => mac9_spec mc w
  have T2 : Hid (∀ w, Calls Tryz.prog 77 #[.int .i64 si] w fun e w' => e = .returned (.bool (dec (0 ≤ si ∧ si ≤ 4294967295))) ∧ w' = w) := fun w => specIp_any si w
  have T3 : Hid (∀ w, Calls Tryz.prog 77 #[.int .i64 di] w fun e w' => e = .returned (.bool (dec (0 ≤ di ∧ di ≤ 4294967295))) ∧ w' = w) := fun w => specIp_any di w
  have T4 : Hid (∀ w, Calls Tryz.prog 199 #[.int .i64 sp] w fun e w' => e = .returned (.bool (dec (0 ≤ sp ∧ sp ≤ 65535))) ∧ w' = w) := fun w => specPort_any sp w
  have T5 : Hid (∀ w, Calls Tryz.prog 199 #[.int .i64 dp] w fun e w' => e = .returned (.bool (dec (0 ≤ dp ∧ dp ≤ 65535))) ∧ w' = w) := fun w => specPort_any dp w
  have T6 : Hid (∀ w, Calls Tryz.prog 76 #[.int .i64 st, .int .i64 1, .int .i64 3] w fun e w' => e = .returned (.bool (dec (1 ≤ st ∧ st ≤ 3))) ∧ w' = w) := fun w => specIn_any st 1 3 w
  have T7 : Hid (∀ w, Calls Tryz.prog 76 #[.int .i64 un, .int .i64 0, .int .i64 100100] w fun e w' => e = .returned (.bool (dec (0 ≤ un ∧ un ≤ 100100))) ∧ w' = w) := fun w => specIn_any un 0 100100 w
  have T8 : Hid (∀ w, Calls Tryz.prog 76 #[.int .i64 ow, .int .i64 0, .int .i64 10000] w fun e w' => e = .returned (.bool (dec (0 ≤ ow ∧ ow ≤ 10000))) ∧ w' = w) := fun w => specIn_any ow 0 10000 w
  obtain ⟨z, hz⟩ : ∃ z, z = flB ⟨pr, mc, si, sp, di, dp, st, un, ow⟩ := ⟨_, rfl⟩
  have E : Hid (z = (dec (0 ≤ pr ∧ pr ≤ 255) && (dec (mc.size = 6) && (dec (0 ≤ si ∧ si ≤ 4294967295) && (dec (0 ≤ di ∧ di ≤ 4294967295) && (dec (0 ≤ sp ∧ sp ≤ 65535) && (dec (0 ≤ dp ∧ dp ≤ 65535) && (dec (1 ≤ st ∧ st ≤ 3) && (dec (0 ≤ un ∧ un ≤ 100100) && (dec (0 ≤ ow ∧ ow ≤ 10000))))))))))) := by
    rw [hz]
    rfl
  rw [← hz]
  clear hz
  generalize dec (0 ≤ pr ∧ pr ≤ 255) = t0 at T0 E
  generalize dec (mc.size = 6) = t1 at T1 E
  generalize dec (0 ≤ si ∧ si ≤ 4294967295) = t2 at T2 E
  generalize dec (0 ≤ di ∧ di ≤ 4294967295) = t3 at T3 E
  generalize dec (0 ≤ sp ∧ sp ≤ 65535) = t4 at T4 E
  generalize dec (0 ≤ dp ∧ dp ≤ 65535) = t5 at T5 E
  generalize dec (1 ≤ st ∧ st ≤ 3) = t6 at T6 E
  generalize dec (0 ≤ un ∧ un ≤ 100100) = t7 at T7 E
  generalize dec (0 ≤ ow ∧ ow ≤ 10000) = t8 at T8 E
  go_enter Tryz.func149, Tryz.ntmps149
  go_wp2_with fail
  refine (T0.out _).mono ?_
  rintro e w9 ⟨rfl, rfl⟩
  cases t0 with
  | false =>
    have hv : Hid (z = false) := by show z = false; rw [E.out]; simp
    go_wp2
    go_ret
    exact ⟨by rw [hv.out]; rfl, (Grw.refl _).alloc _⟩
  | true =>
    go_wp2_with fail
    refine (T1.out _).mono ?_
    rintro e w9 ⟨rfl, rfl⟩
    cases t1 with
    | false =>
      have hv : Hid (z = false) := by show z = false; rw [E.out]; simp
      go_wp2
      go_ret
      exact ⟨by rw [hv.out]; rfl, (Grw.refl _).alloc _⟩
    | true =>
      go_wp2_with fail
      refine (T2.out _).mono ?_
      rintro e w9 ⟨rfl, rfl⟩
      cases t2 with
      | false =>
        have hv : Hid (z = false) := by show z = false; rw [E.out]; simp
        go_wp2
        go_ret
        exact ⟨by rw [hv.out]; rfl, (Grw.refl _).alloc _⟩
      | true =>
        go_wp2_with fail
        refine (T3.out _).mono ?_
        rintro e w9 ⟨rfl, rfl⟩
        cases t3 with
        | false =>
          have hv : Hid (z = false) := by show z = false; rw [E.out]; simp
          go_wp2
          go_ret
          exact ⟨by rw [hv.out]; rfl, (Grw.refl _).alloc _⟩
        | true =>
          go_wp2_with fail
          refine (T4.out _).mono ?_
          rintro e w9 ⟨rfl, rfl⟩
          cases t4 with
          | false =>
            have hv : Hid (z = false) := by show z = false; rw [E.out]; simp
            go_wp2
            go_ret
            exact ⟨by rw [hv.out]; rfl, (Grw.refl _).alloc _⟩
          | true =>
            go_wp2_with fail
            refine (T5.out _).mono ?_
            rintro e w9 ⟨rfl, rfl⟩
            cases t5 with
            | false =>
              have hv : Hid (z = false) := by show z = false; rw [E.out]; simp
              go_wp2
              go_ret
              exact ⟨by rw [hv.out]; rfl, (Grw.refl _).alloc _⟩
            | true =>
              go_wp2_with fail
              refine (T6.out _).mono ?_
              rintro e w9 ⟨rfl, rfl⟩
              cases t6 with
              | false =>
                have hv : Hid (z = false) := by show z = false; rw [E.out]; simp
                go_wp2
                go_ret
                exact ⟨by rw [hv.out]; rfl, (Grw.refl _).alloc _⟩
              | true =>
                go_wp2_with fail
                refine (T7.out _).mono ?_
                rintro e w9 ⟨rfl, rfl⟩
                cases t7 with
                | false =>
                  have hv : Hid (z = false) := by show z = false; rw [E.out]; simp
                  go_wp2
                  go_ret
                  exact ⟨by rw [hv.out]; rfl, (Grw.refl _).alloc _⟩
                | true =>
                  go_wp2_with fail
                  refine (T8.out _).mono ?_
                  rintro e w9 ⟨rfl, rfl⟩
                  have hv : Hid (z = t8) := by show z = t8; rw [E.out]; simp
                  go_wp2
                  go_ret
                  exact ⟨by rw [hv.out]; rfl, (Grw.refl _).alloc _⟩
set_option maxHeartbeats 4000000 in
theorem specFlowsOK_any (a : Option Addr) (len cap : Nat) (fs : List FlowV) (w : World) (h : Rw FlR 9 w a fs) (hl : fs.length = len) (hm : len ≤ 1048576) :
    Calls Tryz.prog 74 #[.slice a len cap] w fun e w' => e = .returned (.bool (foB fs)) ∧ Grw w w' := by
  have RW : Hid (Rw FlR 9 w a fs) := h
  clear h
  by_cases h4 : 4096 < len
  · have hz : (4096 : Int) < (len : Int) := by omega
    have hd : Hid (foB fs = false) := foB_long (by omega)
    go_enter Tryz.func74, Tryz.ntmps74
    go_wp2
    go_ret
    exact ⟨by rw [hd.out]; rfl, Grw.refl _⟩
  have h4z : decide ((4096 : Int) < (len : Int)) = false := by simp; omega
  by_cases h8 : 8 < len
  · have hz : (8 : Int) < (len : Int) := by omega
    have hd : Hid (foB fs = false) := foB_long (by omega)
    go_enter Tryz.func74, Tryz.ntmps74
    go_wp2
    go_ret
    exact ⟨by rw [hd.out]; rfl, Grw.refl _⟩
  have h8z : decide ((8 : Int) < (len : Int)) = false := by simp; omega
  go_enter Tryz.func74, Tryz.ntmps74
  go_wp2
  go_loopw [3] (fun x wr => ∃ i : Nat, i ≤ len ∧ x = .int .i64 i ∧ Hid (alOk fs i ∧ apOk fs i) ∧ Hid (Grw w wr)) (fun x _ => len - (intOf x).toNat)
  case atStart => exact ⟨0, Nat.zero_le _, rfl, ⟨alOk_zero fs, apOk_zero fs⟩, Grw.refl _⟩
  case round =>
    obtain ⟨i, hi, rfl, HO, HG⟩ := hrel
    by_cases hlt : i < len
    · obtain ⟨x, hx⟩ := at_of hl hlt
      have hiz : (i : Int) < (len : Int) := by omega
      obtain ⟨b, off, vs, rfl, hb, hvl, hR, hc⟩ := RW.out.at FR.kp HG.out.below hx
      obtain ⟨pr, mc, si, sp, di, dp, st, un, ow⟩ := x
      obtain ⟨rfl, -⟩ := hR
      have q0 : wr.cell? ⟨b, off + i * 9, none⟩ = some (.int .i64 pr) := hc 0 _ rfl
      have q1 : wr.cell? ⟨b, off + i * 9 + 1, none⟩ = some (.string mc) := hc 1 _ rfl
      have q2 : wr.cell? ⟨b, off + i * 9 + 2, none⟩ = some (.int .i64 si) := hc 2 _ rfl
      have q3 : wr.cell? ⟨b, off + i * 9 + 3, none⟩ = some (.int .i64 sp) := hc 3 _ rfl
      have q4 : wr.cell? ⟨b, off + i * 9 + 4, none⟩ = some (.int .i64 di) := hc 4 _ rfl
      have q5 : wr.cell? ⟨b, off + i * 9 + 5, none⟩ = some (.int .i64 dp) := hc 5 _ rfl
      have q6 : wr.cell? ⟨b, off + i * 9 + 6, none⟩ = some (.int .i64 st) := hc 6 _ rfl
      have q7 : wr.cell? ⟨b, off + i * 9 + 7, none⟩ = some (.int .i64 un) := hc 7 _ rfl
      have q8 : wr.cell? ⟨b, off + i * 9 + 8, none⟩ = some (.int .i64 ow) := hc 8 _ rfl
      have HF : Hid (∀ w, Calls Tryz.prog 149 #[.agg #[.int .i64 pr, .string mc, .int .i64 si, .int .i64 sp, .int .i64 di, .int .i64 dp, .int .i64 st, .int .i64 un, .int .i64 ow]] w fun e w' => e = .returned (.bool (flB ⟨pr, mc, si, sp, di, dp, st, un, ow⟩)) ∧ Grw w w') := fun w => l09Flow_any pr mc si sp di dp st un ow w
      clear hc hvl
      cases hq : flB ⟨pr, mc, si, sp, di, dp, st, un, ow⟩ with
      | false =>
        rw [hq] at HF
        have hd : Hid (foB fs = false) := foB_al hx hq
        clear hq hx HO
        go_wp2_with fail
        refine (HF.out _).mono ?_
        rintro e w2 ⟨rfl, g2⟩
        have HG2 : Hid (Grw w w2) := (HG.out.alloc _).trans g2
        clear g2 HG
        go_wp2
        go_ret
        exact ⟨by rw [hd.out]; rfl, HG2.out⟩
      | true =>
        rw [hq] at HF
        have HA : Hid (alOk fs (i + 1)) := alOk_step HO.out.1 hx hq
        have HP : Hid (apOk fs i) := HO.out.2
        clear hq HO
        go_wp2_with fail
        refine (HF.out _).mono ?_
        rintro e w2 ⟨rfl, g2⟩
        have HG2 : Hid (Grw w w2) := (HG.out.alloc _).trans g2
        have k0 : w2.cell? ⟨wr.heap.size, 0, none⟩ = some (.int .i64 pr) := g2.keep (by simp)
        have k1 : w2.cell? ⟨wr.heap.size, 1, none⟩ = some (.string mc) := g2.keep (by simp)
        have k2 : w2.cell? ⟨wr.heap.size, 2, none⟩ = some (.int .i64 si) := g2.keep (by simp)
        have k3 : w2.cell? ⟨wr.heap.size, 3, none⟩ = some (.int .i64 sp) := g2.keep (by simp)
        have k4 : w2.cell? ⟨wr.heap.size, 4, none⟩ = some (.int .i64 di) := g2.keep (by simp)
        have k5 : w2.cell? ⟨wr.heap.size, 5, none⟩ = some (.int .i64 dp) := g2.keep (by simp)
        have k6 : w2.cell? ⟨wr.heap.size, 6, none⟩ = some (.int .i64 st) := g2.keep (by simp)
        have k7 : w2.cell? ⟨wr.heap.size, 7, none⟩ = some (.int .i64 un) := g2.keep (by simp)
        have k8 : w2.cell? ⟨wr.heap.size, 8, none⟩ = some (.int .i64 ow) := g2.keep (by simp)
        clear g2 HG HF q0 q1 q2 q3 q4 q5 q6 q7 q8
        go_wp2
        generalize wr.heap.size = B0 at k0 k1 k2 k3 k4 k5 k6 k7 k8 ⊢
        clear wr
        go_loopw [5] (fun y wr2 => ∃ k : Nat, k ≤ i ∧ y = .int .i64 k ∧ Hid (apAt fs k (enOf ⟨pr, mc, si, sp, di, dp, st, un, ow⟩)) ∧ Hid (Grw w2 wr2)) (fun y _ => i - (intOf y).toNat)
        case atStart => exact ⟨0, Nat.zero_le _, rfl, apAt_zero _ _, Grw.refl _⟩
        case round =>
          obtain ⟨k, hk, rfl, HB, HG3⟩ := hrel
          by_cases hki : k < i
          · obtain ⟨y, hy⟩ := at_of (k := k) hl (by omega)
            have hkz : (k : Int) < (i : Int) := by omega
            have hkl : (k : Int) < (len : Int) := by omega
            obtain ⟨b', off', vs', e', hb', hvl', hR', hc'⟩ := RW.out.at FR.kp (HG2.out.trans HG3.out).below hy
            cases e'
            obtain ⟨pr2, mc2, si2, sp2, di2, dp2, st2, un2, ow2⟩ := y
            obtain ⟨rfl, -⟩ := hR'
            have p0 : wr.cell? ⟨b, off + k * 9, none⟩ = some (.int .i64 pr2) := hc' 0 _ rfl
            have p1 : wr.cell? ⟨b, off + k * 9 + 1, none⟩ = some (.string mc2) := hc' 1 _ rfl
            have p2 : wr.cell? ⟨b, off + k * 9 + 2, none⟩ = some (.int .i64 si2) := hc' 2 _ rfl
            have p3 : wr.cell? ⟨b, off + k * 9 + 3, none⟩ = some (.int .i64 sp2) := hc' 3 _ rfl
            have p4 : wr.cell? ⟨b, off + k * 9 + 4, none⟩ = some (.int .i64 di2) := hc' 4 _ rfl
            have p5 : wr.cell? ⟨b, off + k * 9 + 5, none⟩ = some (.int .i64 dp2) := hc' 5 _ rfl
            have p6 : wr.cell? ⟨b, off + k * 9 + 6, none⟩ = some (.int .i64 st2) := hc' 6 _ rfl
            have p7 : wr.cell? ⟨b, off + k * 9 + 7, none⟩ = some (.int .i64 un2) := hc' 7 _ rfl
            have p8 : wr.cell? ⟨b, off + k * 9 + 8, none⟩ = some (.int .i64 ow2) := hc' 8 _ rfl
            have m0 : ∀ o, (wr.alloc o).cell? ⟨B0, 0, none⟩ = some (.int .i64 pr) := fun o => acell (HG3.out.keep k0) o
            have m1 : ∀ o, (wr.alloc o).cell? ⟨B0, 1, none⟩ = some (.string mc) := fun o => acell (HG3.out.keep k1) o
            have m2 : ∀ o, (wr.alloc o).cell? ⟨B0, 2, none⟩ = some (.int .i64 si) := fun o => acell (HG3.out.keep k2) o
            have m3 : ∀ o, (wr.alloc o).cell? ⟨B0, 3, none⟩ = some (.int .i64 sp) := fun o => acell (HG3.out.keep k3) o
            have m4 : ∀ o, (wr.alloc o).cell? ⟨B0, 4, none⟩ = some (.int .i64 di) := fun o => acell (HG3.out.keep k4) o
            have m5 : ∀ o, (wr.alloc o).cell? ⟨B0, 5, none⟩ = some (.int .i64 dp) := fun o => acell (HG3.out.keep k5) o
            have m6 : ∀ o, (wr.alloc o).cell? ⟨B0, 6, none⟩ = some (.int .i64 st) := fun o => acell (HG3.out.keep k6) o
            have m7 : ∀ o, (wr.alloc o).cell? ⟨B0, 7, none⟩ = some (.int .i64 un) := fun o => acell (HG3.out.keep k7) o
            have m8 : ∀ o, (wr.alloc o).cell? ⟨B0, 8, none⟩ = some (.int .i64 ow) := fun o => acell (HG3.out.keep k8) o
            clear hc' hvl' hb'
            have HS1 : Hid (∀ w, Calls Tryz.prog 150 #[.agg #[.int .i64 pr2, .string mc2, .int .i64 si2, .int .i64 sp2, .int .i64 di2, .int .i64 dp2, .int .i64 st2, .int .i64 un2, .int .i64 ow2], .int .i64 pr, .int .i64 si, .int .i64 sp, .int .i64 di, .int .i64 dp] w fun e w' => e = .returned (.bool (enB (enOf ⟨pr2, mc2, si2, sp2, di2, dp2, st2, un2, ow2⟩) (enOf ⟨pr, mc, si, sp, di, dp, st, un, ow⟩))) ∧ Grw w w') := fun w => l09Same_any pr2 mc2 si2 sp2 di2 dp2 st2 un2 ow2 pr si sp di dp w
            have HS2 : Hid (∀ w, Calls Tryz.prog 150 #[.agg #[.int .i64 pr2, .string mc2, .int .i64 si2, .int .i64 sp2, .int .i64 di2, .int .i64 dp2, .int .i64 st2, .int .i64 un2, .int .i64 ow2], .int .i64 pr, .int .i64 di, .int .i64 dp, .int .i64 si, .int .i64 sp] w fun e w' => e = .returned (.bool (enB (enOf ⟨pr2, mc2, si2, sp2, di2, dp2, st2, un2, ow2⟩) (enT (enOf ⟨pr, mc, si, sp, di, dp, st, un, ow⟩)))) ∧ Grw w w') := fun w => l09Same_any pr2 mc2 si2 sp2 di2 dp2 st2 un2 ow2 pr di dp si sp w
            by_cases he1 : enOf ⟨pr2, mc2, si2, sp2, di2, dp2, st2, un2, ow2⟩ = enOf ⟨pr, mc, si, sp, di, dp, st, un, ow⟩
            · rw [enB_yes he1] at HS1
              have hd : Hid (foB fs = false) := foB_at hx hki hy (.inl he1)
              clear he1 HB HA HP hx hy HS2
              go_wp2_with fail
              refine (HS1.out _).mono ?_
              rintro e w4 ⟨rfl, g4⟩
              have HG4 : Hid (Grw w w4) := ((HG2.out.trans HG3.out).alloc _).trans g4
              clear g4 HG2 HG3 m0 m1 m2 m3 m4 m5 m6 m7 m8 p0 p1 p2 p3 p4 p5 p6 p7 p8 k0 k1 k2 k3 k4 k5 k6 k7 k8
              go_wp2
              go_ret
              exact ⟨by rw [hd.out]; rfl, HG4.out⟩
            · rw [enB_no he1] at HS1
              by_cases he2 : enOf ⟨pr2, mc2, si2, sp2, di2, dp2, st2, un2, ow2⟩ = enT (enOf ⟨pr, mc, si, sp, di, dp, st, un, ow⟩)
              · rw [enB_yes he2] at HS2
                have hd : Hid (foB fs = false) := foB_at hx hki hy (.inr he2)
                clear he1 he2 HB HA HP hx hy
                go_wp2_with fail
                refine (HS1.out _).mono ?_
                rintro e w4 ⟨rfl, g4⟩
                have n0 : w4.cell? ⟨B0, 0, none⟩ = some (.int .i64 pr) := g4.keep (m0 _)
                have r0 : w4.cell? ⟨wr.heap.size, 0, none⟩ = some (.int .i64 pr2) := g4.keep (by simp)
                have n1 : w4.cell? ⟨B0, 1, none⟩ = some (.string mc) := g4.keep (m1 _)
                have r1 : w4.cell? ⟨wr.heap.size, 1, none⟩ = some (.string mc2) := g4.keep (by simp)
                have n2 : w4.cell? ⟨B0, 2, none⟩ = some (.int .i64 si) := g4.keep (m2 _)
                have r2 : w4.cell? ⟨wr.heap.size, 2, none⟩ = some (.int .i64 si2) := g4.keep (by simp)
                have n3 : w4.cell? ⟨B0, 3, none⟩ = some (.int .i64 sp) := g4.keep (m3 _)
                have r3 : w4.cell? ⟨wr.heap.size, 3, none⟩ = some (.int .i64 sp2) := g4.keep (by simp)
                have n4 : w4.cell? ⟨B0, 4, none⟩ = some (.int .i64 di) := g4.keep (m4 _)
                have r4 : w4.cell? ⟨wr.heap.size, 4, none⟩ = some (.int .i64 di2) := g4.keep (by simp)
                have n5 : w4.cell? ⟨B0, 5, none⟩ = some (.int .i64 dp) := g4.keep (m5 _)
                have r5 : w4.cell? ⟨wr.heap.size, 5, none⟩ = some (.int .i64 dp2) := g4.keep (by simp)
                have n6 : w4.cell? ⟨B0, 6, none⟩ = some (.int .i64 st) := g4.keep (m6 _)
                have r6 : w4.cell? ⟨wr.heap.size, 6, none⟩ = some (.int .i64 st2) := g4.keep (by simp)
                have n7 : w4.cell? ⟨B0, 7, none⟩ = some (.int .i64 un) := g4.keep (m7 _)
                have r7 : w4.cell? ⟨wr.heap.size, 7, none⟩ = some (.int .i64 un2) := g4.keep (by simp)
                have n8 : w4.cell? ⟨B0, 8, none⟩ = some (.int .i64 ow) := g4.keep (m8 _)
                have r8 : w4.cell? ⟨wr.heap.size, 8, none⟩ = some (.int .i64 ow2) := g4.keep (by simp)
                have HG4 : Hid (Grw w w4) := ((HG2.out.trans HG3.out).alloc _).trans g4
                clear g4 HG2 HG3 m0 m1 m2 m3 m4 m5 m6 m7 m8 p0 p1 p2 p3 p4 p5 p6 p7 p8 k0 k1 k2 k3 k4 k5 k6 k7 k8
                go_wp2_with fail
                refine (HS2.out _).mono ?_
                rintro e w5 ⟨rfl, g5⟩
                have HG5 : Hid (Grw w w5) := HG4.out.trans g5
                clear g5 HG4
                go_wp2
                go_ret
                exact ⟨by rw [hd.out]; rfl, HG5.out⟩
              · rw [enB_no he2] at HS2
                have HB2 : Hid (apAt fs (k + 1) (enOf ⟨pr, mc, si, sp, di, dp, st, un, ow⟩)) := apAt_step HB.out hy he1 he2
                clear he1 he2 HB
                go_wp2_with fail
                refine (HS1.out _).mono ?_
                rintro e w4 ⟨rfl, g4⟩
                have n0 : w4.cell? ⟨B0, 0, none⟩ = some (.int .i64 pr) := g4.keep (m0 _)
                have r0 : w4.cell? ⟨wr.heap.size, 0, none⟩ = some (.int .i64 pr2) := g4.keep (by simp)
                have n1 : w4.cell? ⟨B0, 1, none⟩ = some (.string mc) := g4.keep (m1 _)
                have r1 : w4.cell? ⟨wr.heap.size, 1, none⟩ = some (.string mc2) := g4.keep (by simp)
                have n2 : w4.cell? ⟨B0, 2, none⟩ = some (.int .i64 si) := g4.keep (m2 _)
                have r2 : w4.cell? ⟨wr.heap.size, 2, none⟩ = some (.int .i64 si2) := g4.keep (by simp)
                have n3 : w4.cell? ⟨B0, 3, none⟩ = some (.int .i64 sp) := g4.keep (m3 _)
                have r3 : w4.cell? ⟨wr.heap.size, 3, none⟩ = some (.int .i64 sp2) := g4.keep (by simp)
                have n4 : w4.cell? ⟨B0, 4, none⟩ = some (.int .i64 di) := g4.keep (m4 _)
                have r4 : w4.cell? ⟨wr.heap.size, 4, none⟩ = some (.int .i64 di2) := g4.keep (by simp)
                have n5 : w4.cell? ⟨B0, 5, none⟩ = some (.int .i64 dp) := g4.keep (m5 _)
                have r5 : w4.cell? ⟨wr.heap.size, 5, none⟩ = some (.int .i64 dp2) := g4.keep (by simp)
                have n6 : w4.cell? ⟨B0, 6, none⟩ = some (.int .i64 st) := g4.keep (m6 _)
                have r6 : w4.cell? ⟨wr.heap.size, 6, none⟩ = some (.int .i64 st2) := g4.keep (by simp)
                have n7 : w4.cell? ⟨B0, 7, none⟩ = some (.int .i64 un) := g4.keep (m7 _)
                have r7 : w4.cell? ⟨wr.heap.size, 7, none⟩ = some (.int .i64 un2) := g4.keep (by simp)
                have n8 : w4.cell? ⟨B0, 8, none⟩ = some (.int .i64 ow) := g4.keep (m8 _)
                have r8 : w4.cell? ⟨wr.heap.size, 8, none⟩ = some (.int .i64 ow2) := g4.keep (by simp)
                have HG4 : Hid (Grw w2 w4) := (HG3.out.alloc _).trans g4
                clear g4 HG3 m0 m1 m2 m3 m4 m5 m6 m7 m8 p0 p1 p2 p3 p4 p5 p6 p7 p8
                go_wp2_with fail
                refine (HS2.out _).mono ?_
                rintro e w5 ⟨rfl, g5⟩
                have HG5 : Hid (Grw w2 w5) := HG4.out.trans g5
                clear g5 HG4 n0 r0 n1 r1 n2 r2 n3 r3 n4 r4 n5 r5 n6 r6 n7 r7 n8 r8
                go_wp2
                go_roundw
                case rel => exact ⟨k + 1, by omega, by go_num, HB2, HG5⟩
                case measure => simp [intOf]; omega
          · obtain rfl : k = i := by omega
            have hkz : ¬ (k : Int) < (k : Int) := by omega
            have HP2 : Hid (apOk fs (k + 1)) := apOk_step HP.out hx HB.out
            clear HP HB hx
            go_wp2
            exact ⟨⟨k + 1, by omega, by go_num, ⟨HA.out, HP2.out⟩, HG2.out.trans HG3.out⟩, by simp [intOf]; omega⟩
    · obtain rfl : i = len := by omega
      have hd : Hid (foB fs = true) := foB_yes (by omega) (by rw [hl]; exact HO.out.1) (by rw [hl]; exact HO.out.2)
      clear HO
      go_wp2
      go_ret
      exact ⟨by rw [hd.out]; rfl, HG.out⟩
end Go.Proofs.YtlebblmlbhnppaaGreat
