/- marksOf and BytesHold of the program. -/
import Derived.Test.YtlebblmlbhnppaaGreatJ37
import Derived.Test.YtlebblmlbhnppaaGreatJ38
import Derived.Test.YtlebblmlbhnppaaGreatJ43
namespace Go.Proofs.YtlebblmlbhnppaaGreat
open Go.RowKit Go.PlainAid Go.Proofs.YtlebblmlbhnppaaGreat.Bt Go.Sort
set_option linter.unusedVariables false
set_option maxRecDepth 20000
theorem marks1_any (z : RecV) (q : Int) (B : Nat) (w : World) (hc : w.cell? ⟨B, 0, none⟩ = some (.int .i64 q)) :
    Calls Tryz.prog 176 #[.agg #[.int .i64 z.id, .int .i64 z.tm, .int .i64 z.ca, .int .i64 z.bt, .bool z.st], .pointer (some ⟨B, 0, none⟩)] w fun e w' => e = .returned (.bool (z.id == q)) ∧ Below w.heap.size w w' := by
  have hc2 := acell hc (.cells #[.int .i64 z.id, .int .i64 z.tm, .int .i64 z.ca, .int .i64 z.bt, .bool z.st] 163)
  obtain ⟨u, hu⟩ : ∃ u, (z.id == q) = u := ⟨_, rfl⟩
  rw [hu]
  go_enter Tryz.func176, Tryz.ntmps176
  go_wp2
  go_ret
  exact ⟨by first | rfl | (rw [hu]; rfl), (Below.refl _ _).alloc (Nat.le_refl _) _⟩
set_option maxHeartbeats 4000000 in
theorem marksOf_any (a : Option Addr) (n c : Nat) (es : List RecV) (q : Int) (w : World) (h : Rw ReR 5 w a es) (hl : es.length = n) (hn : n ≤ 1048576) :
    Calls Tryz.prog 103 #[.slice a n c, .int .i64 q] w fun e w' => e = .returned (.int .i64 (mrN (begB es q) (endB es q))) ∧ Below w.heap.size w w' := by
  have HX : Hid (∀ W, Below w.heap.size w W → W.cell? ⟨w.heap.size, 0, none⟩ = some (.int .i64 q) → Calls Tryz.prog 175 #[.slice a n c, .func (.func 176) #[] #[.pointer (some ⟨w.heap.size, 0, none⟩)]] W fun e w' => ∃ v, e = .returned v ∧ OwnS evG 5 163 w' W.heap.size v (es.filter (fun r => r.id == q)) ∧ Below W.heap.size W w') := fun W b hc => filtRec_any a n c es 176 _ (fun r => r.id == q) W (h.keep ReR.kp b) hl hn (enters_of Tryz.func176 (by kernel_rfl) rfl) (fun z hz W2 b2 => marks1_any z q _ W2 (bkeep b2 hc))
  have HK : Hid (∀ x, x ∈ es → ReRok x) := by
    intro x hx
    obtain ⟨i, hi⟩ := List.getElem?_of_mem hx
    obtain ⟨b, off, vs, _, _, _, h2, _⟩ := h.at ReR.kp (Below.refl _ _) hi
    exact h2.2
  have EQ : Hid (mrN (begB es q) (endB es q) = mrN ((es.filter (fun r => r.id == q)).any (fun r => !r.st)) ((es.filter (fun r => r.id == q)).any (fun r => r.st))) := by
    show _ = _
    rw [List.any_filter, List.any_filter]; rfl
  rw [EQ.out]
  have hle : (es.filter (fun r => r.id == q)).length ≤ 1048576 := Nat.le_trans (List.length_filter_le _ _) (by omega)
  have HKf : Hid (∀ x, x ∈ es.filter (fun r => r.id == q) → ReRok x) := fun x hx => HK.out x (List.mem_filter.1 hx).1
  clear h EQ HK
  generalize es.filter (fun r => r.id == q) = L at HX HKf hle ⊢
  go_enter Tryz.func103, Tryz.ntmps103
  go_wp2_with (go_at_call 175; refine (HX.out _ ((Below.refl _ _).alloc (Nat.le_refl _) _) (by simp [go_sem])).mono ?_; rintro e w1 ⟨v, rfl, o1, b1⟩; obtain ⟨ax, cx, rfl, -⟩ := o1.slice; have RW : Hid (Rw ReR 5 w1 ax L) := o1.rw (ok := ReRok) (fun _ => rfl) HKf.out; have B1 : Hid (Below w.heap.size w w1) := ((Below.refl _ _).alloc (Nat.le_refl _) _).trans (b1.mono (by simp)); clear o1 b1 HX HKf)
  go_loopw [5, 12] (fun m u wr => ∃ k : Nat, k ≤ L.length ∧ u = .int .i64 k ∧ m = .int .i64 (mrN ((L.take k).any (fun r => !r.st)) ((L.take k).any (fun r => r.st))) ∧ Hid (Below w1.heap.size w1 wr)) (fun _ u _ => L.length - (intOf u).toNat)
  case atStart => exact ⟨0, Nat.zero_le _, rfl, rfl, Below.refl _ _⟩
  case round =>
    obtain ⟨k, hk, rfl, rfl, X⟩ := hrel
    by_cases hlt : k < L.length
    · obtain ⟨z, hx⟩ := at_of rfl hlt
      have hltz : (k : Int) < (L.length : Int) := by omega
      obtain ⟨b, off, vs, rfl, hb, hvl, hR, hc⟩ := RW.out.at ReR.kp X.out hx
      have s1 := any_take_step (p := fun r : RecV => !r.st) hx
      have s2 := any_take_step (p := fun r : RecV => r.st) hx
      obtain ⟨rfl, -⟩ := hR
      have q0 : wr.cell? ⟨b, off + k * 5, none⟩ = some (.int .i64 z.id) := hc 0 _ rfl
      have q1 : wr.cell? ⟨b, off + k * 5 + 1, none⟩ = some (.int .i64 z.tm) := hc 1 _ rfl
      have q2 : wr.cell? ⟨b, off + k * 5 + 2, none⟩ = some (.int .i64 z.ca) := hc 2 _ rfl
      have q3 : wr.cell? ⟨b, off + k * 5 + 3, none⟩ = some (.int .i64 z.bt) := hc 3 _ rfl
      have q4 : wr.cell? ⟨b, off + k * 5 + 4, none⟩ = some (.bool z.st) := hc 4 _ rfl
      generalize (L.take k).any (fun r => !r.st) = c1 at s1 ⊢
      generalize (L.take k).any (fun r => r.st) = c2 at s2 ⊢
      obtain ⟨zs, hzs⟩ : ∃ b, z.st = b := ⟨_, rfl⟩
      rw [hzs] at q4 s1 s2
      clear hc hvl hx
      cases zs with
      | false =>
        have E1 : Hid ((L.take (k + 1)).any (fun r => !r.st) = true) := by show _ = _; rw [s1]; simp
        have E2 : Hid ((L.take (k + 1)).any (fun r => r.st) = c2) := by show _ = _; rw [s2]; simp
        have hor := mk_or1 c1 c2
        have X2 : Hid (Below w1.heap.size w1 (wr.alloc (.cells #[.int .i64 z.id, .int .i64 z.tm, .int .i64 z.ca, .int .i64 z.bt, .bool false] 163))) := X.out.alloc X.out.size _
        clear s1 s2 X
        obtain ⟨m0, hm0⟩ : ∃ m, mrN c1 c2 = m := ⟨_, rfl⟩
        obtain ⟨m1, hm1⟩ : ∃ m, mrN true c2 = m := ⟨_, rfl⟩
        rw [hm0, hm1] at hor
        rw [hm0]
        go_wp2
        go_roundw
        case rel => exact ⟨k + 1, by omega, by go_num, by rw [E1.out, E2.out, hm1], X2⟩
        case measure => simp [intOf]; omega
      | true =>
        have E1 : Hid ((L.take (k + 1)).any (fun r => !r.st) = c1) := by show _ = _; rw [s1]; simp
        have E2 : Hid ((L.take (k + 1)).any (fun r => r.st) = true) := by show _ = _; rw [s2]; simp
        have hor := mk_or2 c1 c2
        have X2 : Hid (Below w1.heap.size w1 (wr.alloc (.cells #[.int .i64 z.id, .int .i64 z.tm, .int .i64 z.ca, .int .i64 z.bt, .bool true] 163))) := X.out.alloc X.out.size _
        clear s1 s2 X
        obtain ⟨m0, hm0⟩ : ∃ m, mrN c1 c2 = m := ⟨_, rfl⟩
        obtain ⟨m1, hm1⟩ : ∃ m, mrN c1 true = m := ⟨_, rfl⟩
        rw [hm0, hm1] at hor
        rw [hm0]
        go_wp2
        go_roundw
        case rel => exact ⟨k + 1, by omega, by go_num, by rw [E1.out, E2.out, hm1], X2⟩
        case measure => simp [intOf]; omega
    · obtain rfl : k = L.length := by omega
      rw [any_take_all (Nat.le_refl _)]
      go_wp2
      go_ret
      exact ⟨rfl, B1.out.trans (X.out.mono B1.out.size)⟩
set_option maxHeartbeats 2000000 in
theorem bh1_any (A : GtA) (g : GtV) (z : SessV) (B : Nat) (w : World) (h : Rw ReR 5 w A.ra g.es) (hn : g.es.length ≤ 1048576) (hb : Bx w B [.int .i64 g.ip, .int .i64 g.b, .int .i64 g.gt, .string g.gm, .string g.wm, .int .i64 g.rs, .slice A.x g.ps.length A.xc, .slice A.y g.ros.length A.yc, .slice A.ua g.us.length A.uc, .slice A.sa g.ss.length A.sc, .slice A.fa g.fs.length A.fc, .slice A.ra g.es.length A.rc, .int .i64 g.nx, .slice A.la g.fl.length A.lc, .slice A.ca g.co.length A.cc, .int .i64 g.nw, .int .i64 g.dr, .int .i64 g.sn]) :
    Calls Tryz.prog 102 #[.agg #[.int .i64 z.id, .int .i64 z.us, .string z.mc, .int .i64 z.ip, .int .i64 z.be, .int .i64 z.la, .int .i64 z.ud, .int .i64 z.qu, .int .i64 z.un, .int .i64 z.il], .pointer (some ⟨B, 0, none⟩)] w fun e w' => e = .returned (.bool (mrN (begB g.es z.id) (endB g.es z.id) != 1)) ∧ Below w.heap.size w w' := by
  have HX : Hid (∀ W, Below w.heap.size w W → Calls Tryz.prog 103 #[.slice A.ra g.es.length A.rc, .int .i64 z.id] W fun e w' => e = .returned (.int .i64 (mrN (begB g.es z.id) (endB g.es z.id))) ∧ Below W.heap.size W w') := fun W b => marksOf_any _ _ _ g.es z.id W (h.keep ReR.kp b) rfl hn
  have hc := (hb.below ((Below.refl _ _).alloc (Nat.le_refl _) (.cells #[.int .i64 z.id, .int .i64 z.us, .string z.mc, .int .i64 z.ip, .int .i64 z.be, .int .i64 z.la, .int .i64 z.ud, .int .i64 z.qu, .int .i64 z.un, .int .i64 z.il] 137))).cell 11 rfl
  clear h hb
  generalize mrN (begB g.es z.id) (endB g.es z.id) = m at HX ⊢
  go_enter Tryz.func102, Tryz.ntmps102
  go_wp2_with fail
  refine (HX.out _ ((Below.refl _ _).alloc (Nat.le_refl _) _)).mono ?_
  rintro e w1 ⟨rfl, b1⟩
  have B1 : Hid (Below w.heap.size w w1) := ((Below.refl _ _).alloc (Nat.le_refl _) _).trans (b1.mono (by simp))
  clear b1
  go_wp2
  go_ret
  exact ⟨rfl, B1.out⟩
set_option maxHeartbeats 4000000 in
theorem implBytesHold_any (A : GtA) (g : GtV) (w : World) (h : GtR w A g) (hs : GtS g) :
    Calls Tryz.prog 33 #[.agg #[.int .i64 g.ip, .int .i64 g.b, .int .i64 g.gt, .string g.gm, .string g.wm, .int .i64 g.rs, .slice A.x g.ps.length A.xc, .slice A.y g.ros.length A.yc, .slice A.ua g.us.length A.uc, .slice A.sa g.ss.length A.sc, .slice A.fa g.fs.length A.fc, .slice A.ra g.es.length A.rc, .int .i64 g.nx, .slice A.la g.fl.length A.lc, .slice A.ca g.co.length A.cc, .int .i64 g.nw, .int .i64 g.dr, .int .i64 g.sn]] w fun e w' => e = .returned (.tuple #[.bool (bhB g), .int .i64 (bhC g)]) ∧ Below w.heap.size w w' := by
  have GR : Hid (GtR w A g) := h
  have HG : Hid (∀ w, GtR w A g → Calls Tryz.prog 24 #[.agg #[.int .i64 g.ip, .int .i64 g.b, .int .i64 g.gt, .string g.gm, .string g.wm, .int .i64 g.rs, .slice A.x g.ps.length A.xc, .slice A.y g.ros.length A.yc, .slice A.ua g.us.length A.uc, .slice A.sa g.ss.length A.sc, .slice A.fa g.fs.length A.fc, .slice A.ra g.es.length A.rc, .int .i64 g.nx, .slice A.la g.fl.length A.lc, .slice A.ca g.co.length A.cc, .int .i64 g.nw, .int .i64 g.dr, .int .i64 g.sn]] w fun e w' => e = .returned (.bool (gtB g)) ∧ Below w.heap.size w w') := fun w h => implGate_any A g w h hs
  have HR : Hid (gtB g = true → ∀ w, GtR w A g → Calls Tryz.prog 101 #[.slice A.ra g.es.length A.rc] w fun e w' => e = .returned (.tuple #[.bool (recB g.es), .int .i64 0]) ∧ Below w.heap.size w w') := fun hg w h => implRecordsHold_any _ _ _ g.es w h.es rfl (by have := (gt_lens hg).2.2; omega)
  have HF : Hid (∀ W B, GtR W A g → Bx W B [.int .i64 g.ip, .int .i64 g.b, .int .i64 g.gt, .string g.gm, .string g.wm, .int .i64 g.rs, .slice A.x g.ps.length A.xc, .slice A.y g.ros.length A.yc, .slice A.ua g.us.length A.uc, .slice A.sa g.ss.length A.sc, .slice A.fa g.fs.length A.fc, .slice A.ra g.es.length A.rc, .int .i64 g.nx, .slice A.la g.fl.length A.lc, .slice A.ca g.co.length A.cc, .int .i64 g.nw, .int .i64 g.dr, .int .i64 g.sn] → Calls Tryz.prog 97 #[.slice A.sa g.ss.length A.sc, .func (.func 102) #[] #[.pointer (some ⟨B, 0, none⟩)]] W fun e w' => ∃ v, e = .returned v ∧ OwnS svG 10 137 w' W.heap.size v (g.ss.filter (fun s => mrN (begB g.es s.id) (endB g.es s.id) != 1)) ∧ Below W.heap.size W w') := fun W B h hb => filtSess_any _ _ _ g.ss 102 _ (fun s => mrN (begB g.es s.id) (endB g.es s.id) != 1) W h.ss rfl hs.ss (enters_of Tryz.func102 (by kernel_rfl) rfl) (fun z hz W2 b2 => bh1_any A g z B W2 (h.below b2).es hs.es (hb.below b2))
  have EL : Hid (recB g.es = true → (((g.ss.filter (fun s => mrN (begB g.es s.id) (endB g.es s.id) != 1)).length : Int) == 0) = g.ss.all (fun s => opnB g.es s.id)) := fun hr => flt_astray (fun s _ => by show (mrN (begB g.es s.id) (endB g.es s.id) != 1) = !(opnB g.es s.id); rw [mk_one, opn_marks hr])
  have EB : Hid (bhB g = (gtB g && (recB g.es && g.ss.all (fun s => opnB g.es s.id)))) := rfl
  have EC : Hid (bhC g = if gtB g = true then 0 else 1) := rfl
  have G0 : Hid (Bx (w.alloc (.cells #[.int .i64 g.ip, .int .i64 g.b, .int .i64 g.gt, .string g.gm, .string g.wm, .int .i64 g.rs, .slice A.x g.ps.length A.xc, .slice A.y g.ros.length A.yc, .slice A.ua g.us.length A.uc, .slice A.sa g.ss.length A.sc, .slice A.fa g.fs.length A.fc, .slice A.ra g.es.length A.rc, .int .i64 g.nx, .slice A.la g.fl.length A.lc, .slice A.ca g.co.length A.cc, .int .i64 g.nw, .int .i64 g.dr, .int .i64 g.sn] 50)) w.heap.size [.int .i64 g.ip, .int .i64 g.b, .int .i64 g.gt, .string g.gm, .string g.wm, .int .i64 g.rs, .slice A.x g.ps.length A.xc, .slice A.y g.ros.length A.yc, .slice A.ua g.us.length A.uc, .slice A.sa g.ss.length A.sc, .slice A.fa g.fs.length A.fc, .slice A.ra g.es.length A.rc, .int .i64 g.nx, .slice A.la g.fl.length A.lc, .slice A.ca g.co.length A.cc, .int .i64 g.nw, .int .i64 g.dr, .int .i64 g.sn]) := Bx.new w #[.int .i64 g.ip, .int .i64 g.b, .int .i64 g.gt, .string g.gm, .string g.wm, .int .i64 g.rs, .slice A.x g.ps.length A.xc, .slice A.y g.ros.length A.yc, .slice A.ua g.us.length A.uc, .slice A.sa g.ss.length A.sc, .slice A.fa g.fs.length A.fc, .slice A.ra g.es.length A.rc, .int .i64 g.nx, .slice A.la g.fl.length A.lc, .slice A.ca g.co.length A.cc, .int .i64 g.nw, .int .i64 g.dr, .int .i64 g.sn] 50
  have X0 : Hid (Below w.heap.size w (w.alloc (.cells #[.int .i64 g.ip, .int .i64 g.b, .int .i64 g.gt, .string g.gm, .string g.wm, .int .i64 g.rs, .slice A.x g.ps.length A.xc, .slice A.y g.ros.length A.yc, .slice A.ua g.us.length A.uc, .slice A.sa g.ss.length A.sc, .slice A.fa g.fs.length A.fc, .slice A.ra g.es.length A.rc, .int .i64 g.nx, .slice A.la g.fl.length A.lc, .slice A.ca g.co.length A.cc, .int .i64 g.nw, .int .i64 g.dr, .int .i64 g.sn] 50))) := (Below.refl _ _).alloc (Nat.le_refl _) _
  rw [EB.out, EC.out]
  clear EB EC h hs
  generalize gtB g = z at HG HR ⊢
  generalize hL : g.ss.filter (fun s => mrN (begB g.es s.id) (endB g.es s.id) != 1) = L at HF EL
  clear hL
  generalize g.ss.all (fun s => opnB g.es s.id) = za at EL ⊢
  generalize recB g.es = zr at HR EL ⊢
  go_enter Tryz.func33, Tryz.ntmps33
  go_wp2_with (first | (refine wpl_getO 50 rfl _ rfl w.heap.size 0 [.int .i64 g.ip, .int .i64 g.b, .int .i64 g.gt, .string g.gm, .string g.wm, .int .i64 g.rs, .slice A.x g.ps.length A.xc, .slice A.y g.ros.length A.yc, .slice A.ua g.us.length A.uc, .slice A.sa g.ss.length A.sc, .slice A.fa g.fs.length A.fc, .slice A.ra g.es.length A.rc, .int .i64 g.nx, .slice A.la g.fl.length A.lc, .slice A.ca g.co.length A.cc, .int .i64 g.nw, .int .i64 g.dr, .int .i64 g.sn] rfl G0.out rfl _ Tryz.underlying50 rfl rfl ?_) | fail)
  refine (HG.out _ (GR.out.below X0.out)).mono ?_
  rintro e w1 ⟨rfl, bx⟩
  have G1 : Hid (Bx w1 w.heap.size [.int .i64 g.ip, .int .i64 g.b, .int .i64 g.gt, .string g.gm, .string g.wm, .int .i64 g.rs, .slice A.x g.ps.length A.xc, .slice A.y g.ros.length A.yc, .slice A.ua g.us.length A.uc, .slice A.sa g.ss.length A.sc, .slice A.fa g.fs.length A.fc, .slice A.ra g.es.length A.rc, .int .i64 g.nx, .slice A.la g.fl.length A.lc, .slice A.ca g.co.length A.cc, .int .i64 g.nw, .int .i64 g.dr, .int .i64 g.sn]) := G0.out.below bx
  have X1 : Hid (Below w.heap.size w w1) := X0.out.trans (bx.mono X0.out.size)
  clear bx G0 X0 HG
  cases z with
  | false =>
    go_wp2
    go_ret2
    exact ⟨rfl, X1.out⟩
  | true =>
    have HR2 : Hid (∀ w, GtR w A g → Calls Tryz.prog 101 #[.slice A.ra g.es.length A.rc] w fun e w' => e = .returned (.tuple #[.bool zr, .int .i64 0]) ∧ Below w.heap.size w w') := HR.out (by simp)
    clear HR
    have u11 := G1.out.cell 11 rfl
    go_wp2_with fail
    refine (HR2.out _ (GR.out.below X1.out)).mono ?_
    rintro e w2 ⟨rfl, bx⟩
    have G2 : Hid (Bx w2 w.heap.size [.int .i64 g.ip, .int .i64 g.b, .int .i64 g.gt, .string g.gm, .string g.wm, .int .i64 g.rs, .slice A.x g.ps.length A.xc, .slice A.y g.ros.length A.yc, .slice A.ua g.us.length A.uc, .slice A.sa g.ss.length A.sc, .slice A.fa g.fs.length A.fc, .slice A.ra g.es.length A.rc, .int .i64 g.nx, .slice A.la g.fl.length A.lc, .slice A.ca g.co.length A.cc, .int .i64 g.nw, .int .i64 g.dr, .int .i64 g.sn]) := G1.out.below bx
    have X2 : Hid (Below w.heap.size w w2) := X1.out.trans (bx.mono X1.out.size)
    clear bx G1 X1 HR2 u11
    cases zr with
    | false =>
      have u9 := G2.out.cell 9 rfl
      go_wp2_with (go_at_call 97; refine (HF.out _ _ (GR.out.below X2.out) G2.out).mono ?_; rintro e w3 ⟨v, rfl, o3, bx⟩; obtain ⟨ax, cx, rfl, -⟩ := o3.slice; have X3 : Hid (Below w.heap.size w w3) := X2.out.trans (bx.mono X2.out.size); clear bx o3 G2 X2 u9 HF)
      go_ret2
      exact ⟨by first | rfl | simp, X3.out⟩
    | true =>
      have EL2 : Hid (((L.length : Int) == 0) = za) := EL.out (by simp)
      have u9 := G2.out.cell 9 rfl
      go_wp2_with (go_at_call 97; refine (HF.out _ _ (GR.out.below X2.out) G2.out).mono ?_; rintro e w3 ⟨v, rfl, o3, bx⟩; obtain ⟨ax, cx, rfl, -⟩ := o3.slice; have X3 : Hid (Below w.heap.size w w3) := X2.out.trans (bx.mono X2.out.size); clear bx o3 G2 X2 u9 HF)
      go_ret2
      exact ⟨by rw [← EL2.out]; rfl, X3.out⟩
end Go.Proofs.YtlebblmlbhnppaaGreat
