/- GatewayOK of the model. -/
import Derived.Test.YtlebblmlbhnppaaGreatJ47
import Derived.Test.YtlebblmlbhnppaaGreatJ42
namespace Go.Proofs.YtlebblmlbhnppaaGreat
open Go.RowKit Go.PlainAid Go.Proofs.YtlebblmlbhnppaaGreat.Bt Go.Sort
set_option linter.unusedVariables false
set_option maxRecDepth 20000
set_option maxHeartbeats 4000000 in
theorem specGate_any (A : GtA) (g : GtV) (w : World) (h : GtR w A g) (hs : GtS g) :
    Calls Tryz.prog 22 #[.agg #[.int .i64 g.ip, .int .i64 g.b, .int .i64 g.gt, .string g.gm, .string g.wm, .int .i64 g.rs, .slice A.x g.ps.length A.xc, .slice A.y g.ros.length A.yc, .slice A.ua g.us.length A.uc, .slice A.sa g.ss.length A.sc, .slice A.fa g.fs.length A.fc, .slice A.ra g.es.length A.rc, .int .i64 g.nx, .slice A.la g.fl.length A.lc, .slice A.ca g.co.length A.cc, .int .i64 g.nw, .int .i64 g.dr, .int .i64 g.sn]] w fun e w' => e = .returned (.bool (gtB g)) ∧ Grw w w' := by
  have GR : Hid (GtR w A g) := h
  have H1 : Hid (∀ w, GtR w A g → Calls Tryz.prog 40 #[.agg #[.int .i64 g.ip, .int .i64 g.b, .int .i64 g.gt, .string g.gm, .string g.wm, .int .i64 g.rs, .slice A.x g.ps.length A.xc, .slice A.y g.ros.length A.yc], .agg #[.slice A.ua g.us.length A.uc, .slice A.sa g.ss.length A.sc, .slice A.fa g.fs.length A.fc, .slice A.ra g.es.length A.rc, .int .i64 g.nx]] w fun e w' => e = .returned (.bool (gokB g.ip g.b g.gt g.gm g.wm g.rs g.ps g.ros g.us g.ss g.fs g.es g.nx)) ∧ Grw w w') := fun w h => specGuests_any _ _ _ _ _ _ _ _ _ _ _ _ g.ps g.ros _ _ _ _ _ _ _ _ _ _ _ _ g.us g.ss g.fs g.es g.nx w h.ps rfl h.ros rfl hs.szr hs.ros h.us rfl h.ss rfl h.fs rfl h.es rfl (szU_of hs.szu (Int.le_refl _)) hs.us
  have H2 : Hid (∀ w, GtR w A g → Calls Tryz.prog 74 #[.slice A.la g.fl.length A.lc] w fun e w' => e = .returned (.bool (foB g.fl)) ∧ Grw w w') := fun w h => specFlowsOK_any _ _ _ g.fl w h.fl rfl hs.fl
  have H3 : Hid (∀ w, GtR w A g → Calls Tryz.prog 75 #[.slice A.ca g.co.length A.cc] w fun e w' => e = .returned (.bool (cnB g.co)) ∧ Grw w w') := fun w h => l13Conns_any _ _ _ g.co w h.co rfl hs.co hs.szc
  have H4 : Hid (∀ w, GtR w A g → Calls Tryz.prog 76 #[.int .i64 g.nw, .int .i64 0, .int .i64 100000] w fun e w' => e = .returned (.bool (dec (0 ≤ g.nw ∧ g.nw ≤ 100000))) ∧ Grw w w') := fun w h => (l01In_any g.nw 0 100000 w).mono fun e w' h => ⟨h.1, by rw [h.2]; exact Grw.refl _⟩
  have H5 : Hid (∀ w, GtR w A g → Calls Tryz.prog 76 #[.int .i64 g.dr, .int .i64 0, .int .i64 1000000] w fun e w' => e = .returned (.bool (dec (0 ≤ g.dr ∧ g.dr ≤ 1000000))) ∧ Grw w w') := fun w h => (l01In_any g.dr 0 1000000 w).mono fun e w' h => ⟨h.1, by rw [h.2]; exact Grw.refl _⟩
  have H6 : Hid (∀ w, GtR w A g → Calls Tryz.prog 77 #[.int .i64 g.sn] w fun e w' => e = .returned (.bool (dec (0 ≤ g.sn ∧ g.sn ≤ 4294967295))) ∧ Grw w w') := fun w h => (specIp_any g.sn w).mono fun e w' h => ⟨h.1, by rw [h.2]; exact Grw.refl _⟩
  have H7 : Hid (∀ (q : Int) w, GtR w A g → Calls Tryz.prog 78 #[.agg #[.slice A.ua g.us.length A.uc, .slice A.sa g.ss.length A.sc, .slice A.fa g.fs.length A.fc, .slice A.ra g.es.length A.rc, .int .i64 g.nx], .int .i64 q] w fun e w' => e = .returned (.int .i64 (ixI (siP q) g.ss)) ∧ Grw w w') := fun q w h => l08Session_any A g q w h.ss hs.ss
  have hfl := hs.fl
  have OWN : Hid (foB g.fl = true → ∀ f, f ∈ g.fl → 0 ≤ f.ow) := fun h f hf => ow_nonneg h hf
  have E : Hid (gtB g = (gokB g.ip g.b g.gt g.gm g.wm g.rs g.ps g.ros g.us g.ss g.fs g.es g.nx && (foB g.fl && (owB g.ss g.fl && (cnB g.co && (dec (0 ≤ g.nw ∧ g.nw ≤ 100000) && (dec (0 ≤ g.dr ∧ g.dr ≤ 1000000) && dec (0 ≤ g.sn ∧ g.sn ≤ 4294967295)))))))) := rfl
  rw [E.out]
  clear E h hs
  generalize gokB g.ip g.b g.gt g.gm g.wm g.rs g.ps g.ros g.us g.ss g.fs g.es g.nx = q1 at H1 ⊢
  generalize foB g.fl = q2 at H2 OWN ⊢
  generalize cnB g.co = q3 at H3 ⊢
  generalize dec (0 ≤ g.nw ∧ g.nw ≤ 100000) = q4 at H4 ⊢
  generalize dec (0 ≤ g.dr ∧ g.dr ≤ 1000000) = q5 at H5 ⊢
  generalize dec (0 ≤ g.sn ∧ g.sn ≤ 4294967295) = q6 at H6 ⊢
  have G0 : Hid (Bx (w.alloc (.cells #[.int .i64 g.ip, .int .i64 g.b, .int .i64 g.gt, .string g.gm, .string g.wm, .int .i64 g.rs, .slice A.x g.ps.length A.xc, .slice A.y g.ros.length A.yc, .slice A.ua g.us.length A.uc, .slice A.sa g.ss.length A.sc, .slice A.fa g.fs.length A.fc, .slice A.ra g.es.length A.rc, .int .i64 g.nx, .slice A.la g.fl.length A.lc, .slice A.ca g.co.length A.cc, .int .i64 g.nw, .int .i64 g.dr, .int .i64 g.sn] 50)) w.heap.size [.int .i64 g.ip, .int .i64 g.b, .int .i64 g.gt, .string g.gm, .string g.wm, .int .i64 g.rs, .slice A.x g.ps.length A.xc, .slice A.y g.ros.length A.yc, .slice A.ua g.us.length A.uc, .slice A.sa g.ss.length A.sc, .slice A.fa g.fs.length A.fc, .slice A.ra g.es.length A.rc, .int .i64 g.nx, .slice A.la g.fl.length A.lc, .slice A.ca g.co.length A.cc, .int .i64 g.nw, .int .i64 g.dr, .int .i64 g.sn]) := Bx.new w #[.int .i64 g.ip, .int .i64 g.b, .int .i64 g.gt, .string g.gm, .string g.wm, .int .i64 g.rs, .slice A.x g.ps.length A.xc, .slice A.y g.ros.length A.yc, .slice A.ua g.us.length A.uc, .slice A.sa g.ss.length A.sc, .slice A.fa g.fs.length A.fc, .slice A.ra g.es.length A.rc, .int .i64 g.nx, .slice A.la g.fl.length A.lc, .slice A.ca g.co.length A.cc, .int .i64 g.nw, .int .i64 g.dr, .int .i64 g.sn] 50
  have X0 : Hid (Grw w (w.alloc (.cells #[.int .i64 g.ip, .int .i64 g.b, .int .i64 g.gt, .string g.gm, .string g.wm, .int .i64 g.rs, .slice A.x g.ps.length A.xc, .slice A.y g.ros.length A.yc, .slice A.ua g.us.length A.uc, .slice A.sa g.ss.length A.sc, .slice A.fa g.fs.length A.fc, .slice A.ra g.es.length A.rc, .int .i64 g.nx, .slice A.la g.fl.length A.lc, .slice A.ca g.co.length A.cc, .int .i64 g.nw, .int .i64 g.dr, .int .i64 g.sn] 50))) := (Grw.refl _).alloc _
  go_enter Tryz.func22, Tryz.ntmps22
  go_wp2_with fail
  refine (H1.out _ (GR.out.below X0.out.below)).mono ?_
  rintro e w1 ⟨rfl, gx⟩
  have G1 : Hid (Bx w1 w.heap.size [.int .i64 g.ip, .int .i64 g.b, .int .i64 g.gt, .string g.gm, .string g.wm, .int .i64 g.rs, .slice A.x g.ps.length A.xc, .slice A.y g.ros.length A.yc, .slice A.ua g.us.length A.uc, .slice A.sa g.ss.length A.sc, .slice A.fa g.fs.length A.fc, .slice A.ra g.es.length A.rc, .int .i64 g.nx, .slice A.la g.fl.length A.lc, .slice A.ca g.co.length A.cc, .int .i64 g.nw, .int .i64 g.dr, .int .i64 g.sn]) := G0.out.below gx.below
  have X1 : Hid (Grw w w1) := X0.out.trans gx
  clear gx G0 X0
  cases q1 with
  | false =>
    go_wp2
    go_ret
    exact ⟨by first | rfl | simp, X1.out⟩
  | true =>
    have u13 := G1.out.cell 13 rfl
    go_wp2_with fail
    refine (H2.out _ (GR.out.below X1.out.below)).mono ?_
    rintro e w2 ⟨rfl, gx⟩
    clear u13
    have G2 : Hid (Bx w2 w.heap.size [.int .i64 g.ip, .int .i64 g.b, .int .i64 g.gt, .string g.gm, .string g.wm, .int .i64 g.rs, .slice A.x g.ps.length A.xc, .slice A.y g.ros.length A.yc, .slice A.ua g.us.length A.uc, .slice A.sa g.ss.length A.sc, .slice A.fa g.fs.length A.fc, .slice A.ra g.es.length A.rc, .int .i64 g.nx, .slice A.la g.fl.length A.lc, .slice A.ca g.co.length A.cc, .int .i64 g.nw, .int .i64 g.dr, .int .i64 g.sn]) := G1.out.below gx.below
    have X2 : Hid (Grw w w2) := X1.out.trans gx
    clear gx G1 X1
    cases q2 with
    | false =>
      go_wp2
      go_ret
      exact ⟨by first | rfl | simp, X2.out⟩
    | true =>
      have u14 := G2.out.cell 14 rfl
      go_wp2_with fail
      refine (H3.out _ (GR.out.below X2.out.below)).mono ?_
      rintro e w3 ⟨rfl, gx⟩
      clear u14
      have G3 : Hid (Bx w3 w.heap.size [.int .i64 g.ip, .int .i64 g.b, .int .i64 g.gt, .string g.gm, .string g.wm, .int .i64 g.rs, .slice A.x g.ps.length A.xc, .slice A.y g.ros.length A.yc, .slice A.ua g.us.length A.uc, .slice A.sa g.ss.length A.sc, .slice A.fa g.fs.length A.fc, .slice A.ra g.es.length A.rc, .int .i64 g.nx, .slice A.la g.fl.length A.lc, .slice A.ca g.co.length A.cc, .int .i64 g.nw, .int .i64 g.dr, .int .i64 g.sn]) := G2.out.below gx.below
      have X3 : Hid (Grw w w3) := X2.out.trans gx
      clear gx G2 X2
      cases q3 with
      | false =>
        go_wp2
        go_ret
        exact ⟨by first | rfl | simp, X3.out⟩
      | true =>
        have u15 := G3.out.cell 15 rfl
        go_wp2_with fail
        refine (H4.out _ (GR.out.below X3.out.below)).mono ?_
        rintro e w4 ⟨rfl, gx⟩
        clear u15
        have G4 : Hid (Bx w4 w.heap.size [.int .i64 g.ip, .int .i64 g.b, .int .i64 g.gt, .string g.gm, .string g.wm, .int .i64 g.rs, .slice A.x g.ps.length A.xc, .slice A.y g.ros.length A.yc, .slice A.ua g.us.length A.uc, .slice A.sa g.ss.length A.sc, .slice A.fa g.fs.length A.fc, .slice A.ra g.es.length A.rc, .int .i64 g.nx, .slice A.la g.fl.length A.lc, .slice A.ca g.co.length A.cc, .int .i64 g.nw, .int .i64 g.dr, .int .i64 g.sn]) := G3.out.below gx.below
        have X4 : Hid (Grw w w4) := X3.out.trans gx
        clear gx G3 X3
        cases q4 with
        | false =>
          go_wp2
          go_ret
          exact ⟨by first | rfl | simp, X4.out⟩
        | true =>
          have u16 := G4.out.cell 16 rfl
          go_wp2_with fail
          refine (H5.out _ (GR.out.below X4.out.below)).mono ?_
          rintro e w5 ⟨rfl, gx⟩
          clear u16
          have G5 : Hid (Bx w5 w.heap.size [.int .i64 g.ip, .int .i64 g.b, .int .i64 g.gt, .string g.gm, .string g.wm, .int .i64 g.rs, .slice A.x g.ps.length A.xc, .slice A.y g.ros.length A.yc, .slice A.ua g.us.length A.uc, .slice A.sa g.ss.length A.sc, .slice A.fa g.fs.length A.fc, .slice A.ra g.es.length A.rc, .int .i64 g.nx, .slice A.la g.fl.length A.lc, .slice A.ca g.co.length A.cc, .int .i64 g.nw, .int .i64 g.dr, .int .i64 g.sn]) := G4.out.below gx.below
          have X5 : Hid (Grw w w5) := X4.out.trans gx
          clear gx G4 X4
          cases q5 with
          | false =>
            go_wp2
            go_ret
            exact ⟨by first | rfl | simp, X5.out⟩
          | true =>
            have u17 := G5.out.cell 17 rfl
            go_wp2_with fail
            refine (H6.out _ (GR.out.below X5.out.below)).mono ?_
            rintro e w6 ⟨rfl, gx⟩
            clear u17
            have G6 : Hid (Bx w6 w.heap.size [.int .i64 g.ip, .int .i64 g.b, .int .i64 g.gt, .string g.gm, .string g.wm, .int .i64 g.rs, .slice A.x g.ps.length A.xc, .slice A.y g.ros.length A.yc, .slice A.ua g.us.length A.uc, .slice A.sa g.ss.length A.sc, .slice A.fa g.fs.length A.fc, .slice A.ra g.es.length A.rc, .int .i64 g.nx, .slice A.la g.fl.length A.lc, .slice A.ca g.co.length A.cc, .int .i64 g.nw, .int .i64 g.dr, .int .i64 g.sn]) := G5.out.below gx.below
            have X6 : Hid (Grw w w6) := X5.out.trans gx
            clear gx G5 X5
            cases q6 with
            | false =>
              go_wp2
              go_ret
              exact ⟨by first | rfl | simp, X6.out⟩
            | true =>
              have OW := OWN.out (by simp)
              replace OW : Hid (∀ f, f ∈ g.fl → 0 ≤ f.ow) := OW
              clear OWN H1 H2 H3 H4 H5 H6
              have u13 := G6.out.cell 13 rfl
              go_wp2
              clear u13
              have E : Hid (∀ z, owB g.ss g.fl = z → (true && (true && (owB g.ss g.fl && (true && (true && (true && true)))))) = z) := fun z h => by rw [h]; simp
              go_loopw [3] (fun x wr => ∃ k : Nat, k ≤ g.fl.length ∧ x = .int .i64 k ∧ Hid ((g.fl.take k).any (owP g.ss) = false) ∧ Hid (Bx wr w.heap.size [.int .i64 g.ip, .int .i64 g.b, .int .i64 g.gt, .string g.gm, .string g.wm, .int .i64 g.rs, .slice A.x g.ps.length A.xc, .slice A.y g.ros.length A.yc, .slice A.ua g.us.length A.uc, .slice A.sa g.ss.length A.sc, .slice A.fa g.fs.length A.fc, .slice A.ra g.es.length A.rc, .int .i64 g.nx, .slice A.la g.fl.length A.lc, .slice A.ca g.co.length A.cc, .int .i64 g.nw, .int .i64 g.dr, .int .i64 g.sn]) ∧ Hid (Grw w wr)) (fun x _ => g.fl.length - (intOf x).toNat)
              case atStart => exact ⟨0, Nat.zero_le _, rfl, by show _ = _; simp, G6, X6⟩
              case round =>
                obtain ⟨k, hk, rfl, HO, HB, HG⟩ := hrel
                have u13 := HB.out.cell 13 rfl
                by_cases hlt : k < g.fl.length
                · obtain ⟨x, hx⟩ := at_of rfl hlt
                  have hltz : (k : Int) < (g.fl.length : Int) := by omega
                  obtain ⟨b, off, vs, ea, hb, hvl, hR, hc⟩ := GR.out.fl.at FR.kp HG.out.below hx
                  rw [ea] at u13
                  clear ea
                  have hst := any_take_step (p := owP g.ss) hx
                  rw [HO.out, Bool.false_or] at hst
                  have HST : Hid ((g.fl.take (k + 1)).any (owP g.ss) = owP g.ss x) := hst
                  have HNO : Hid (owP g.ss x = true → owB g.ss g.fl = false) := fun h => by
                    unfold owB
                    have : g.fl.any (owP g.ss) = true := List.any_eq_true.2 ⟨x, List.mem_of_getElem? hx, h⟩
                    rw [this]; rfl
                  have hox := OW.out x (List.mem_of_getElem? hx)
                  obtain ⟨rfl, -⟩ := hR
                  have q8 : wr.cell? ⟨b, off + k * 9 + 8, none⟩ = some (.int .i64 x.ow) := hc 8 _ rfl
                  have EO : Hid (owP g.ss x = ((x.ow != 0) && decide (ixI (siP x.ow) g.ss < 0))) := by show _ = _; rw [ixI_neg]; rfl
                  rw [EO.out] at HST HNO
                  have HC := H7.out x.ow
                  generalize ixI (siP x.ow) g.ss = r at HC HST HNO
                  replace HC : Hid (∀ w, GtR w A g → Calls Tryz.prog 78 #[.agg #[.slice A.ua g.us.length A.uc, .slice A.sa g.ss.length A.sc, .slice A.fa g.fs.length A.fc, .slice A.ra g.es.length A.rc, .int .i64 g.nx], .int .i64 x.ow] w fun e w' => e = .returned (.int .i64 r) ∧ Grw w w') := HC
                  clear EO hst hx hc hvl HO
                  by_cases h0 : x.ow = 0
                  · have h0z : (x.ow != 0) = false := by simp [h0]
                    have h0p : decide ((0 : Int) < x.ow) = false := by simp [h0]
                    have h0q : ¬ (0 : Int) < x.ow := by omega
                    rw [h0z] at HST
                    have HO2 : Hid ((g.fl.take (k + 1)).any (owP g.ss) = false) := HST.out
                    clear HST HNO h0 hox
                    go_wp2
                    go_roundw
                    case rel => exact ⟨k + 1, by omega, by go_num, HO2, HB, HG⟩
                    case measure => simp [intOf]; omega
                  · have h0z : (x.ow != 0) = true := by simp [h0]
                    have h0p : decide ((0 : Int) < x.ow) = true := by simp; omega
                    have h0q : (0 : Int) < x.ow := by omega
                    rw [h0z] at HST HNO
                    clear h0 hox
                    have u8 := HB.out.cell 8 rfl
                    have u9 := HB.out.cell 9 rfl
                    have u10 := HB.out.cell 10 rfl
                    have u11 := HB.out.cell 11 rfl
                    have u12 := HB.out.cell 12 rfl
                    go_wp2_with fail
                    refine (HC.out _ (GR.out.below HG.out.below)).mono ?_
                    rintro e w7 ⟨rfl, g7⟩
                    have HB7 : Hid (Bx w7 w.heap.size [.int .i64 g.ip, .int .i64 g.b, .int .i64 g.gt, .string g.gm, .string g.wm, .int .i64 g.rs, .slice A.x g.ps.length A.xc, .slice A.y g.ros.length A.yc, .slice A.ua g.us.length A.uc, .slice A.sa g.ss.length A.sc, .slice A.fa g.fs.length A.fc, .slice A.ra g.es.length A.rc, .int .i64 g.nx, .slice A.la g.fl.length A.lc, .slice A.ca g.co.length A.cc, .int .i64 g.nw, .int .i64 g.dr, .int .i64 g.sn]) := HB.out.below g7.below
                    have HG7 : Hid (Grw w w7) := HG.out.trans g7
                    clear g7 HB HG u13 q8 u8 u9 u10 u11 u12
                    by_cases hr : r < 0
                    · have hrz : decide (r < 0) = true := by simp [hr]
                      have hd : Hid (owB g.ss g.fl = false) := HNO.out (by simp [hr])
                      clear HST HNO
                      go_wp2
                      go_ret
                      exact ⟨by first | (rw [E.out false hd.out]; rfl) | (rw [hd.out]; rfl), HG7.out⟩
                    · have hrz : decide (r < 0) = false := by simp; omega
                      have HO2 : Hid ((g.fl.take (k + 1)).any (owP g.ss) = false) := by show _ = _; rw [HST.out]; simp; omega
                      clear HST HNO
                      go_wp2
                      go_roundw
                      case rel => exact ⟨k + 1, by omega, by go_num, HO2, HB7, HG7⟩
                      case measure => simp [intOf]; omega
                · have hkn : k = g.fl.length := by omega
                  have hd : Hid (owB g.ss g.fl = true) := by
                    show _ = _
                    have := HO.out
                    rw [any_take_all (by omega)] at this
                    unfold owB; rw [this]; rfl
                  have hltz : ¬ ((k : Int) < (g.fl.length : Int)) := by omega
                  clear HO
                  go_wp2
                  go_ret
                  exact ⟨by first | (rw [E.out true hd.out]; rfl) | (rw [hd.out]; rfl), HG.out⟩
end Go.Proofs.YtlebblmlbhnppaaGreat
