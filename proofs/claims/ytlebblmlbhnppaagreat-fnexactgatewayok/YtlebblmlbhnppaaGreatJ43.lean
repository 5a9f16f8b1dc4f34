/- GatewayOK of the program. -/
import Derived.Test.YtlebblmlbhnppaaGreatJ41
import Derived.Test.YtlebblmlbhnppaaGreatJ42
namespace Go.Proofs.YtlebblmlbhnppaaGreat
open Go.RowKit Go.PlainAid Go.Proofs.YtlebblmlbhnppaaGreat.Bt Go.Sort
set_option linter.unusedVariables false
set_option maxRecDepth 20000
set_option maxHeartbeats 4000000 in
theorem implGate_any (A : GtA) (g : GtV) (w : World) (h : GtR w A g) (hs : GtS g) :
    Calls Tryz.prog 24 #[.agg #[.int .i64 g.ip, .int .i64 g.b, .int .i64 g.gt, .string g.gm, .string g.wm, .int .i64 g.rs, .slice A.x g.ps.length A.xc, .slice A.y g.ros.length A.yc, .slice A.ua g.us.length A.uc, .slice A.sa g.ss.length A.sc, .slice A.fa g.fs.length A.fc, .slice A.ra g.es.length A.rc, .int .i64 g.nx, .slice A.la g.fl.length A.lc, .slice A.ca g.co.length A.cc, .int .i64 g.nw, .int .i64 g.dr, .int .i64 g.sn]] w fun e w' => e = .returned (.bool (gtB g)) ∧ Below w.heap.size w w' := by
  have GR : Hid (GtR w A g) := h
  have hok : Hid (∀ x, x ∈ g.fl → FlRok x) := flok_of h.fl
  have H1 : Hid (∀ w, GtR w A g → Calls Tryz.prog 49 #[.agg #[.int .i64 g.ip, .int .i64 g.b, .int .i64 g.gt, .string g.gm, .string g.wm, .int .i64 g.rs, .slice A.x g.ps.length A.xc, .slice A.y g.ros.length A.yc], .agg #[.slice A.ua g.us.length A.uc, .slice A.sa g.ss.length A.sc, .slice A.fa g.fs.length A.fc, .slice A.ra g.es.length A.rc, .int .i64 g.nx]] w fun e w' => e = .returned (.bool (gokB g.ip g.b g.gt g.gm g.wm g.rs g.ps g.ros g.us g.ss g.fs g.es g.nx)) ∧ Below w.heap.size w w') := fun w h => implGuests_any _ _ _ _ _ _ _ _ _ _ _ _ g.ps g.ros _ _ _ _ _ _ _ _ _ _ _ _ g.us g.ss g.fs g.es g.nx w h.ps rfl h.ros rfl hs.szr hs.ros h.us rfl h.ss rfl h.fs rfl h.es rfl (szU_of hs.szu (Int.le_refl _)) hs.us
  have H2 : Hid (∀ w, GtR w A g → Calls Tryz.prog 81 #[.slice A.la g.fl.length A.lc] w fun e w' => e = .returned (.bool (foB g.fl)) ∧ Below w.heap.size w w') := fun w h => implFlowsOK_any _ _ _ g.fl w h.fl hok.out rfl hs.fl
  have H3 : Hid (∀ w, GtR w A g → Calls Tryz.prog 82 #[.agg #[.int .i64 g.ip, .int .i64 g.b, .int .i64 g.gt, .string g.gm, .string g.wm, .int .i64 g.rs, .slice A.x g.ps.length A.xc, .slice A.y g.ros.length A.yc, .slice A.ua g.us.length A.uc, .slice A.sa g.ss.length A.sc, .slice A.fa g.fs.length A.fc, .slice A.ra g.es.length A.rc, .int .i64 g.nx, .slice A.la g.fl.length A.lc, .slice A.ca g.co.length A.cc, .int .i64 g.nw, .int .i64 g.dr, .int .i64 g.sn]] w fun e w' => e = .returned (.bool (owB g.ss g.fl)) ∧ Below w.heap.size w w') := fun w h => (ownersOK_any A g w h.ss h.fl hs.ss hs.fl).mono fun e w' h => ⟨h.1, h.2.below⟩
  have H4 : Hid (∀ w, GtR w A g → Calls Tryz.prog 83 #[.slice A.ca g.co.length A.cc] w fun e w' => e = .returned (.bool (cnB g.co)) ∧ Below w.heap.size w w') := fun w h => (connsOK_any _ _ _ g.co w h.co rfl hs.co h.kc hs.szc).mono fun e w' h => ⟨h.1, h.2.below⟩
  have H5 : Hid (∀ w, GtR w A g → Calls Tryz.prog 84 #[.int .i64 g.nw] w fun e w' => e = .returned (.bool (dec (0 ≤ g.nw ∧ g.nw ≤ 100000))) ∧ Below w.heap.size w w') := fun w h => (timeOK_any g.nw w).mono fun e w' h => ⟨h.1, by rw [h.2]; exact Below.refl _ _⟩
  have H6 : Hid (∀ w, GtR w A g → Calls Tryz.prog 85 #[.int .i64 g.dr, .int .i64 0, .int .i64 1000000] w fun e w' => e = .returned (.bool (dec (0 ≤ g.dr ∧ g.dr ≤ 1000000))) ∧ Below w.heap.size w w') := fun w h => (between_any g.dr 0 1000000 w).mono fun e w' h => ⟨h.1, by rw [h.2]; exact Below.refl _ _⟩
  have H7 : Hid (∀ w, GtR w A g → Calls Tryz.prog 86 #[.int .i64 g.sn] w fun e w' => e = .returned (.bool (dec (0 ≤ g.sn ∧ g.sn ≤ 4294967295))) ∧ Below w.heap.size w w') := fun w h => (seqOK_any g.sn w).mono fun e w' h => ⟨h.1, by rw [h.2]; exact Below.refl _ _⟩
  have E : Hid (gtB g = (gokB g.ip g.b g.gt g.gm g.wm g.rs g.ps g.ros g.us g.ss g.fs g.es g.nx && (foB g.fl && (owB g.ss g.fl && (cnB g.co && (dec (0 ≤ g.nw ∧ g.nw ≤ 100000) && (dec (0 ≤ g.dr ∧ g.dr ≤ 1000000) && dec (0 ≤ g.sn ∧ g.sn ≤ 4294967295)))))))) := rfl
  rw [E.out]
  clear E h hs hok
  generalize gokB g.ip g.b g.gt g.gm g.wm g.rs g.ps g.ros g.us g.ss g.fs g.es g.nx = q1 at H1 ⊢
  generalize foB g.fl = q2 at H2 ⊢
  generalize owB g.ss g.fl = q3 at H3 ⊢
  generalize cnB g.co = q4 at H4 ⊢
  generalize dec (0 ≤ g.nw ∧ g.nw ≤ 100000) = q5 at H5 ⊢
  generalize dec (0 ≤ g.dr ∧ g.dr ≤ 1000000) = q6 at H6 ⊢
  generalize dec (0 ≤ g.sn ∧ g.sn ≤ 4294967295) = q7 at H7 ⊢
  have G0 : Hid (Bx (w.alloc (.cells #[.int .i64 g.ip, .int .i64 g.b, .int .i64 g.gt, .string g.gm, .string g.wm, .int .i64 g.rs, .slice A.x g.ps.length A.xc, .slice A.y g.ros.length A.yc, .slice A.ua g.us.length A.uc, .slice A.sa g.ss.length A.sc, .slice A.fa g.fs.length A.fc, .slice A.ra g.es.length A.rc, .int .i64 g.nx, .slice A.la g.fl.length A.lc, .slice A.ca g.co.length A.cc, .int .i64 g.nw, .int .i64 g.dr, .int .i64 g.sn] 50)) w.heap.size [.int .i64 g.ip, .int .i64 g.b, .int .i64 g.gt, .string g.gm, .string g.wm, .int .i64 g.rs, .slice A.x g.ps.length A.xc, .slice A.y g.ros.length A.yc, .slice A.ua g.us.length A.uc, .slice A.sa g.ss.length A.sc, .slice A.fa g.fs.length A.fc, .slice A.ra g.es.length A.rc, .int .i64 g.nx, .slice A.la g.fl.length A.lc, .slice A.ca g.co.length A.cc, .int .i64 g.nw, .int .i64 g.dr, .int .i64 g.sn]) := Bx.new w #[.int .i64 g.ip, .int .i64 g.b, .int .i64 g.gt, .string g.gm, .string g.wm, .int .i64 g.rs, .slice A.x g.ps.length A.xc, .slice A.y g.ros.length A.yc, .slice A.ua g.us.length A.uc, .slice A.sa g.ss.length A.sc, .slice A.fa g.fs.length A.fc, .slice A.ra g.es.length A.rc, .int .i64 g.nx, .slice A.la g.fl.length A.lc, .slice A.ca g.co.length A.cc, .int .i64 g.nw, .int .i64 g.dr, .int .i64 g.sn] 50
  have X0 : Hid (Below w.heap.size w (w.alloc (.cells #[.int .i64 g.ip, .int .i64 g.b, .int .i64 g.gt, .string g.gm, .string g.wm, .int .i64 g.rs, .slice A.x g.ps.length A.xc, .slice A.y g.ros.length A.yc, .slice A.ua g.us.length A.uc, .slice A.sa g.ss.length A.sc, .slice A.fa g.fs.length A.fc, .slice A.ra g.es.length A.rc, .int .i64 g.nx, .slice A.la g.fl.length A.lc, .slice A.ca g.co.length A.cc, .int .i64 g.nw, .int .i64 g.dr, .int .i64 g.sn] 50))) := (Below.refl _ _).alloc (Nat.le_refl _) _
  go_enter Tryz.func24, Tryz.ntmps24
  go_wp2_with fail
  refine (H1.out _ (GR.out.below X0.out)).mono ?_
  rintro e w1 ⟨rfl, bx⟩
  have G1 : Hid (Bx w1 w.heap.size [.int .i64 g.ip, .int .i64 g.b, .int .i64 g.gt, .string g.gm, .string g.wm, .int .i64 g.rs, .slice A.x g.ps.length A.xc, .slice A.y g.ros.length A.yc, .slice A.ua g.us.length A.uc, .slice A.sa g.ss.length A.sc, .slice A.fa g.fs.length A.fc, .slice A.ra g.es.length A.rc, .int .i64 g.nx, .slice A.la g.fl.length A.lc, .slice A.ca g.co.length A.cc, .int .i64 g.nw, .int .i64 g.dr, .int .i64 g.sn]) := G0.out.below bx
  have X1 : Hid (Below w.heap.size w w1) := X0.out.trans (bx.mono X0.out.size)
  clear bx G0 X0
  cases q1 with
  | false =>
    go_wp2
    go_ret
    exact ⟨rfl, X1.out⟩
  | true =>
    have u13 := G1.out.cell 13 rfl
    go_wp2_with fail
    refine (H2.out _ (GR.out.below X1.out)).mono ?_
    rintro e w2 ⟨rfl, bx⟩
    clear u13
    have G2 : Hid (Bx w2 w.heap.size [.int .i64 g.ip, .int .i64 g.b, .int .i64 g.gt, .string g.gm, .string g.wm, .int .i64 g.rs, .slice A.x g.ps.length A.xc, .slice A.y g.ros.length A.yc, .slice A.ua g.us.length A.uc, .slice A.sa g.ss.length A.sc, .slice A.fa g.fs.length A.fc, .slice A.ra g.es.length A.rc, .int .i64 g.nx, .slice A.la g.fl.length A.lc, .slice A.ca g.co.length A.cc, .int .i64 g.nw, .int .i64 g.dr, .int .i64 g.sn]) := G1.out.below bx
    have X2 : Hid (Below w.heap.size w w2) := X1.out.trans (bx.mono X1.out.size)
    clear bx G1 X1
    cases q2 with
    | false =>
      go_wp2
      go_ret
      exact ⟨rfl, X2.out⟩
    | true =>
      have u0 := G2.out.cell 0 rfl
      have u1 := G2.out.cell 1 rfl
      have u2 := G2.out.cell 2 rfl
      have u3 := G2.out.cell 3 rfl
      have u4 := G2.out.cell 4 rfl
      have u5 := G2.out.cell 5 rfl
      have u6 := G2.out.cell 6 rfl
      have u7 := G2.out.cell 7 rfl
      have u8 := G2.out.cell 8 rfl
      have u9 := G2.out.cell 9 rfl
      have u10 := G2.out.cell 10 rfl
      have u11 := G2.out.cell 11 rfl
      have u12 := G2.out.cell 12 rfl
      have u13 := G2.out.cell 13 rfl
      have u14 := G2.out.cell 14 rfl
      have u15 := G2.out.cell 15 rfl
      have u16 := G2.out.cell 16 rfl
      have u17 := G2.out.cell 17 rfl
      go_wp2_with fail
      refine (H3.out _ (GR.out.below X2.out)).mono ?_
      rintro e w3 ⟨rfl, bx⟩
      clear u0
      clear u1
      clear u2
      clear u3
      clear u4
      clear u5
      clear u6
      clear u7
      clear u8
      clear u9
      clear u10
      clear u11
      clear u12
      clear u13
      clear u14
      clear u15
      clear u16
      clear u17
      have G3 : Hid (Bx w3 w.heap.size [.int .i64 g.ip, .int .i64 g.b, .int .i64 g.gt, .string g.gm, .string g.wm, .int .i64 g.rs, .slice A.x g.ps.length A.xc, .slice A.y g.ros.length A.yc, .slice A.ua g.us.length A.uc, .slice A.sa g.ss.length A.sc, .slice A.fa g.fs.length A.fc, .slice A.ra g.es.length A.rc, .int .i64 g.nx, .slice A.la g.fl.length A.lc, .slice A.ca g.co.length A.cc, .int .i64 g.nw, .int .i64 g.dr, .int .i64 g.sn]) := G2.out.below bx
      have X3 : Hid (Below w.heap.size w w3) := X2.out.trans (bx.mono X2.out.size)
      clear bx G2 X2
      cases q3 with
      | false =>
        go_wp2
        go_ret
        exact ⟨rfl, X3.out⟩
      | true =>
        have u14 := G3.out.cell 14 rfl
        go_wp2_with fail
        refine (H4.out _ (GR.out.below X3.out)).mono ?_
        rintro e w4 ⟨rfl, bx⟩
        clear u14
        have G4 : Hid (Bx w4 w.heap.size [.int .i64 g.ip, .int .i64 g.b, .int .i64 g.gt, .string g.gm, .string g.wm, .int .i64 g.rs, .slice A.x g.ps.length A.xc, .slice A.y g.ros.length A.yc, .slice A.ua g.us.length A.uc, .slice A.sa g.ss.length A.sc, .slice A.fa g.fs.length A.fc, .slice A.ra g.es.length A.rc, .int .i64 g.nx, .slice A.la g.fl.length A.lc, .slice A.ca g.co.length A.cc, .int .i64 g.nw, .int .i64 g.dr, .int .i64 g.sn]) := G3.out.below bx
        have X4 : Hid (Below w.heap.size w w4) := X3.out.trans (bx.mono X3.out.size)
        clear bx G3 X3
        cases q4 with
        | false =>
          go_wp2
          go_ret
          exact ⟨rfl, X4.out⟩
        | true =>
          have u15 := G4.out.cell 15 rfl
          go_wp2_with fail
          refine (H5.out _ (GR.out.below X4.out)).mono ?_
          rintro e w5 ⟨rfl, bx⟩
          clear u15
          have G5 : Hid (Bx w5 w.heap.size [.int .i64 g.ip, .int .i64 g.b, .int .i64 g.gt, .string g.gm, .string g.wm, .int .i64 g.rs, .slice A.x g.ps.length A.xc, .slice A.y g.ros.length A.yc, .slice A.ua g.us.length A.uc, .slice A.sa g.ss.length A.sc, .slice A.fa g.fs.length A.fc, .slice A.ra g.es.length A.rc, .int .i64 g.nx, .slice A.la g.fl.length A.lc, .slice A.ca g.co.length A.cc, .int .i64 g.nw, .int .i64 g.dr, .int .i64 g.sn]) := G4.out.below bx
          have X5 : Hid (Below w.heap.size w w5) := X4.out.trans (bx.mono X4.out.size)
          clear bx G4 X4
          cases q5 with
          | false =>
            go_wp2
            go_ret
            exact ⟨rfl, X5.out⟩
          | true =>
            have u16 := G5.out.cell 16 rfl
            go_wp2_with fail
            refine (H6.out _ (GR.out.below X5.out)).mono ?_
            rintro e w6 ⟨rfl, bx⟩
            clear u16
            have G6 : Hid (Bx w6 w.heap.size [.int .i64 g.ip, .int .i64 g.b, .int .i64 g.gt, .string g.gm, .string g.wm, .int .i64 g.rs, .slice A.x g.ps.length A.xc, .slice A.y g.ros.length A.yc, .slice A.ua g.us.length A.uc, .slice A.sa g.ss.length A.sc, .slice A.fa g.fs.length A.fc, .slice A.ra g.es.length A.rc, .int .i64 g.nx, .slice A.la g.fl.length A.lc, .slice A.ca g.co.length A.cc, .int .i64 g.nw, .int .i64 g.dr, .int .i64 g.sn]) := G5.out.below bx
            have X6 : Hid (Below w.heap.size w w6) := X5.out.trans (bx.mono X5.out.size)
            clear bx G5 X5
            cases q6 with
            | false =>
              go_wp2
              go_ret
              exact ⟨rfl, X6.out⟩
            | true =>
              have u17 := G6.out.cell 17 rfl
              go_wp2_with fail
              refine (H7.out _ (GR.out.below X6.out)).mono ?_
              rintro e w7 ⟨rfl, bx⟩
              clear u17
              have G7 : Hid (Bx w7 w.heap.size [.int .i64 g.ip, .int .i64 g.b, .int .i64 g.gt, .string g.gm, .string g.wm, .int .i64 g.rs, .slice A.x g.ps.length A.xc, .slice A.y g.ros.length A.yc, .slice A.ua g.us.length A.uc, .slice A.sa g.ss.length A.sc, .slice A.fa g.fs.length A.fc, .slice A.ra g.es.length A.rc, .int .i64 g.nx, .slice A.la g.fl.length A.lc, .slice A.ca g.co.length A.cc, .int .i64 g.nw, .int .i64 g.dr, .int .i64 g.sn]) := G6.out.below bx
              have X7 : Hid (Below w.heap.size w w7) := X6.out.trans (bx.mono X6.out.size)
              clear bx G6 X6
              cases q7 with
              | false =>
                go_wp2
                go_ret
                exact ⟨rfl, X7.out⟩
              | true =>
                go_wp2
                go_ret
                exact ⟨rfl, X7.out⟩
end Go.Proofs.YtlebblmlbhnppaaGreat
