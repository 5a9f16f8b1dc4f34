/- The walk of laws.FnUsers. -/
import Derived.Test.YtnlepjcjakghcaaGreatDoorJ16
import Derived.Test.YtnlepjcjakghcaaGreatDoorJ24
namespace Go.Proofs.YtnlepjcjakghcaaGreatDoor
open Go.RowKit Go.PlainAid Go.Proofs.YtnlepjcjakghcaaGreatDoor.Bt Go.Sort
set_option linter.unusedVariables false
set_option maxRecDepth 20000
theorem PlainConfig_any (w : World) :
    Calls Tryz.prog 8 #[] w fun e w' => ∃ (C : CfA) (X : List RoX), e = .returned (.agg #[.int .i64 167772160, .int .i64 24, .int .i64 167772161, .string ⟨#[2, 0, 0, 0, 0, 0]⟩, .string ⟨#[2, 0, 0, 0, 0, 255]⟩, .int .i64 16843009, .slice C.x 1 C.xc, .slice C.y 2 C.yc]) ∧ OwnCf w' w.heap.size C plC X ∧ Below w.heap.size w w' := by
  have HP : Hid (∀ w, Calls Tryz.prog 20 #[] w fun e w' => ∃ (C : CfA) (X : List RoX), e = .returned (.agg #[.int .i64 167772160, .int .i64 24, .int .i64 167772161, .string ⟨#[2, 0, 0, 0, 0, 0]⟩, .string ⟨#[2, 0, 0, 0, 0, 255]⟩, .int .i64 16843009, .slice C.x 1 C.xc, .slice C.y 2 C.yc]) ∧ OwnCf w' w.heap.size C plC X ∧ Below w.heap.size w w') := fun w => l07Plain_any w
  have R0 : Hid (Bx (w.alloc (.cells #[.int .i64 0, .int .i64 0, .int .i64 0, .string ⟨#[]⟩, .string ⟨#[]⟩, .int .i64 0, .slice none 0 0, .slice none 0 0] 35)) w.heap.size [.int .i64 0, .int .i64 0, .int .i64 0, .string ⟨#[]⟩, .string ⟨#[]⟩, .int .i64 0, .slice none 0 0, .slice none 0 0]) := Bx.new w #[.int .i64 0, .int .i64 0, .int .i64 0, .string ⟨#[]⟩, .string ⟨#[]⟩, .int .i64 0, .slice none 0 0, .slice none 0 0] 35
  have B0 : Hid (Below w.heap.size w (w.alloc (.cells #[.int .i64 0, .int .i64 0, .int .i64 0, .string ⟨#[]⟩, .string ⟨#[]⟩, .int .i64 0, .slice none 0 0, .slice none 0 0] 35))) := (Below.refl _ _).alloc (Nat.le_refl _) _
  go_enter Tryz.func8, Tryz.ntmps8
  go_wp2_with fail
  refine (HP.out _).mono ?_
  rintro e w1 ⟨C, X, rfl, o, b⟩
  have R1 : Hid (Bx w1 w.heap.size [.int .i64 0, .int .i64 0, .int .i64 0, .string ⟨#[]⟩, .string ⟨#[]⟩, .int .i64 0, .slice none 0 0, .slice none 0 0]) := R0.out.below b
  have B1 : Hid (Below w.heap.size w w1) := B0.out.trans (b.mono B0.out.size)
  rw [World.size_alloc] at o
  have O1 : Hid (OwnCf w1 (w.heap.size + 1) C plC X) := o
  clear o b HP R0 B0
  go_wp2_with (first | (refine wpl_putT 35 rfl _ _ rfl (w.heap.size) _ rfl rfl R1.out rfl rfl rfl ?_; intro W5 hw5 R5; have B5 : Hid (Below w.heap.size w W5) := (by rw [hw5]; exact below_cells (Nat.le_refl _) _ _ _ B1.out); have O5 : Hid (OwnCf W5 (w.heap.size + 1) C plC X) := (by rw [hw5]; exact O1.out.keep (fun k hk => (Rlw.heap_cells _ _ _).2.2.2.2 k (by have := (O1.out.lt k hk).1; omega))); clear hw5) | fail)
  refine bodyPost_ret (v := .agg #[.int .i64 167772160, .int .i64 24, .int .i64 167772161, .string ⟨#[2, 0, 0, 0, 0, 0]⟩, .string ⟨#[2, 0, 0, 0, 0, 255]⟩, .int .i64 16843009, .slice C.x 1 C.xc, .slice C.y 2 C.yc]) (results_cell Tryz.results8 (w.heap.size) rfl R5 _ Tryz.underlying35 rfl rfl) rfl ?_
  have o := O5.out
  exact ⟨C, rfl, ⟨X, ⟨o.ro, o.ps.lower (by omega), o.rs.lower (by omega)⟩⟩, B5.out⟩
set_option maxHeartbeats 16000000 in
theorem lawUsers_any (a b : Option Addr) (la ca lb cb : Nat) (f g : Nat → Int) (w : World) (hK : KTab w) (hH : HTab w) (h1 : Bytes w a la f) (h2 : Bytes w b lb g)
    (pa : ∀ b off, 0 < la → a = some ⟨b, off, none⟩ → b < w.heap.size) (pb : ∀ b' off, 0 < lb → b = some ⟨b', off, none⟩ → b' < w.heap.size) (l1 : la ≤ 1048576) (l2 : lb ≤ 1048576) :
    Calls Tryz.prog 3 #[.slice a la ca, .slice b lb cb] w fun e w' => e = .returned (.bool true) ∧ Below w.heap.size w w' := by
  have D1 : Hid (∀ wx, Below w.heap.size w wx → Calls Tryz.prog 4 #[.slice a la ca, .int .i64 20] wx fun e w' => ∃ (g c : Nat) (L : List Int), e = .returned (.slice (some ⟨g, 0, none⟩) L.length c) ∧ OwnL 5 w' wx.heap.size (.slice (some ⟨g, 0, none⟩) L.length c) L ∧ AllB L ∧ (L.length : Int) ≤ 20 ∧ Below wx.heap.size wx w') := fun wx bx =>
    BytesOf_any wx a la ca f 20 (h1.below bx pa) l1 (fun b' o' h0 e => Nat.lt_of_lt_of_le (pa b' o' h0 e) bx.size) (by omega) (by omega)
  have DM : Hid (∀ wx, Below w.heap.size w wx → Calls Tryz.prog 10 #[.slice b lb cb] wx fun e w' => (∃ s : ByteArray, e = .returned (.string s) ∧ s.size = 6) ∧ Below wx.heap.size wx w') := fun wx bx =>
    (MacOf_any wx b lb cb g (h2.below bx pb) l2 (fun b' o' h0 e => Nat.lt_of_lt_of_le (pb b' o' h0 e) bx.size)).mono fun e w' ⟨s, h1, h2, h3⟩ => ⟨⟨s, h1, h2⟩, h3⟩
  have DL : Hid (∀ wx, Below w.heap.size w wx → Calls Tryz.prog 11 #[.slice b lb cb] wx fun e w' => (∃ v : Int, e = .returned (.int .i64 v) ∧ 167772162 ≤ v ∧ v ≤ 167772164) ∧ Below wx.heap.size wx w') := fun wx bx =>
    (LanOf_any wx b lb cb g (h2.below bx pb) l2 (fun b' o' h0 e => Nat.lt_of_lt_of_le (pb b' o' h0 e) bx.size)).mono fun e w' ⟨s, h1, h2, h3, h4⟩ => ⟨⟨s, h1, h2, h3⟩, h4⟩
  have HT : Hid (KTab w ∧ HTab w) := ⟨hK, hH⟩
  have B0 : Hid (Below w.heap.size w w) := Below.refl _ _
  clear hK hH h1 h2 pa pb
  go_enter Tryz.func3, Tryz.ntmps3
  go_wp2_with fail
  refine (D1.out _ B0.out).mono ?_
  rintro e w1 ⟨g9, c9, L, rfl, o1, hL, hl, bx⟩
  obtain ⟨a8, c8, e8, hB8, -⟩ := OwnL.slice o1 hL
  cases e8
  have hcv := conv_own (P := Tryz.prog) w1 22 9 5 Tryz.underlying22 Tryz.underlying5 Tryz.underlying9 (some ⟨g9, 0, none⟩) c9 L hB8
  clear hB8
  obtain ⟨wd, hwd⟩ : ∃ wd, wd = strOfNums L := ⟨_, rfl⟩
  have hws : wd.size ≤ 20 := by rw [hwd, strOfNums_size]; omega
  rw [← hwd] at hcv
  have LW : Hid (wd.size ≤ 20) := hws
  have B1 : Hid (Below w.heap.size w w1) := B0.out.trans (bx.mono B0.out.size)
  clear o1 hL bx B0 D1 hwd hws
  obtain ⟨sa, hsa⟩ : ∃ x, x = cyS := ⟨_, rfl⟩
  obtain ⟨ha, hha⟩ : ∃ x, x = passS cyS wd 3 := ⟨_, rfl⟩
  have hco : (snB cyN && (dec (wd.size ≤ 40) && (snB cyR && (dec (0 ≤ (70 : Int) ∧ (70 : Int) ≤ 1000000) && dec (0 ≤ (2 : Int) ∧ (2 : Int) ≤ 1000))))) = true := by
    rw [dec_y (show wd.size ≤ 40 by have := LW.out; omega)]
    decide +kernel
  have hcn : (snB ⟨#[110, 105, 110, 101, 99, 104, 97, 114, 115]⟩ && (dec (wd.size ≤ 40) && (snB cyR && (dec (0 ≤ (70 : Int) ∧ (70 : Int) ≤ 1000000) && dec (0 ≤ (2 : Int) ∧ (2 : Int) ≤ 1000))))) = false := by
    rw [show snB ⟨#[110, 105, 110, 101, 99, 104, 97, 114, 115]⟩ = false by decide +kernel]
    rfl
  have M1 : Hid (∀ wx, Below w.heap.size w wx → Calls Tryz.prog 5 #[.string ⟨#[99, 121]⟩, .string wd, .string ⟨#[103, 117, 101, 115, 116]⟩, .int .i64 70, .int .i64 2] wx fun e w' => e = .returned (.tuple #[.agg #[.string ⟨#[99, 121]⟩, .string sa, .string ha, .string ⟨#[103, 117, 101, 115, 116]⟩, .int .i64 70, .int .i64 2], .int .i64 0]) ∧ Below wx.heap.size wx w') := fun wx bx => by
    rw [hsa, hha]
    exact implMake_yes cyN wd cyR 70 2 wx (HT.out.1.below bx) (HT.out.2.below bx) (by decide) (by have := LW.out; omega) (by decide) hco
  have M2 : Hid (∀ wx, Calls Tryz.prog 6 #[.string ⟨#[99, 121]⟩, .string wd, .string ⟨#[103, 117, 101, 115, 116]⟩, .int .i64 70, .int .i64 2] wx fun e w' => e = .returned (.tuple #[.agg #[.string ⟨#[99, 121]⟩, .string sa, .string ha, .string ⟨#[103, 117, 101, 115, 116]⟩, .int .i64 70, .int .i64 2], .int .i64 0]) ∧ Below wx.heap.size wx w') := fun wx => by
    rw [hsa, hha]
    exact specMake_yes cyN wd cyR 70 2 wx (by decide) (by have := LW.out; omega) (by decide) hco
  have M3 : Hid (∀ wx, Below w.heap.size w wx → Calls Tryz.prog 7 #[.string sa, .string wd, .int .i64 3] wx fun e w' => e = .returned (.tuple #[.string ha, .int .i64 0]) ∧ Below wx.heap.size wx w') := fun wx bx => by
    rw [hsa, hha]
    exact passHash_yes cyS wd 3 wx (HT.out.1.below bx) (HT.out.2.below bx) (by decide) (by have := LW.out; omega) (by omega)
  have M4 : Hid (∀ wx, Calls Tryz.prog 5 #[.string ⟨#[110, 105, 110, 101, 99, 104, 97, 114, 115]⟩, .string wd, .string ⟨#[103, 117, 101, 115, 116]⟩, .int .i64 70, .int .i64 2] wx fun e w' => e = .returned (.tuple #[.agg #[.string ⟨#[]⟩, .string ⟨#[]⟩, .string ⟨#[]⟩, .string ⟨#[]⟩, .int .i64 0, .int .i64 0], .int .i64 4]) ∧ Below wx.heap.size wx w') := fun wx => implMake_no ⟨#[110, 105, 110, 101, 99, 104, 97, 114, 115]⟩ wd cyR 70 2 wx (by decide) (by have := LW.out; omega) (by decide) hcn
  have EHA : Hid (sa = cyS ∧ ha = passS cyS wd 3) := ⟨hsa, hha⟩
  clear hco hcn hsa hha
  go_wp2_with fail
  refine (M1.out _ B1.out).mono ?_
  rintro e w2 ⟨rfl, bx⟩
  have B2 : Hid (Below w.heap.size w w2) := B1.out.trans (bx.mono B1.out.size)
  clear bx B1 hcv
  go_wp2_with (first | (refine wpl_putT 25 rfl _ _ rfl (w2.heap.size) _ rfl rfl (Bx.new w2 #[.string ⟨#[]⟩, .string ⟨#[]⟩, .string ⟨#[]⟩, .string ⟨#[]⟩, .int .i64 0, .int .i64 0] 25) rfl rfl rfl ?_; intro W2 hW2 nW2; have U2 : Hid (Bx W2 (w2.heap.size) [.string ⟨#[99, 121]⟩, .string sa, .string ha, .string ⟨#[103, 117, 101, 115, 116]⟩, .int .i64 70, .int .i64 2]) := nW2; have zW2 : Below w2.heap.size w2 W2 := (by rw [hW2]; exact below_cells (Nat.le_refl _) _ _ _ ((Below.refl _ _).alloc (Nat.le_refl _) _)); have B3 : Hid (Below w.heap.size w W2) := B2.out.trans (zW2.mono B2.out.size); clear hW2 nW2 zW2 B2) | fail)
  refine (M2.out _).mono ?_
  rintro e w3 ⟨rfl, bx⟩
  have U3 : Hid (Bx w3 (w2.heap.size) [.string ⟨#[99, 121]⟩, .string sa, .string ha, .string ⟨#[103, 117, 101, 115, 116]⟩, .int .i64 70, .int .i64 2]) := U2.out.below bx
  have B4 : Hid (Below w.heap.size w w3) := B3.out.trans (bx.mono B3.out.size)
  clear bx U2 B3 M2
  go_wp2_with (first | (refine wpl_putT 25 rfl _ _ rfl (w3.heap.size) _ rfl rfl (Bx.new w3 #[.string ⟨#[]⟩, .string ⟨#[]⟩, .string ⟨#[]⟩, .string ⟨#[]⟩, .int .i64 0, .int .i64 0] 25) rfl rfl rfl ?_; intro W3 hW3 nW3; have V4 : Hid (Bx W3 (w3.heap.size) [.string ⟨#[99, 121]⟩, .string sa, .string ha, .string ⟨#[103, 117, 101, 115, 116]⟩, .int .i64 70, .int .i64 2]) := nW3; have zW3 : Below w3.heap.size w3 W3 := (by rw [hW3]; exact below_cells (Nat.le_refl _) _ _ _ ((Below.refl _ _).alloc (Nat.le_refl _) _)); have U4 : Hid (Bx W3 (w2.heap.size) [.string ⟨#[99, 121]⟩, .string sa, .string ha, .string ⟨#[103, 117, 101, 115, 116]⟩, .int .i64 70, .int .i64 2]) := U3.out.below zW3; have B5 : Hid (Below w.heap.size w W3) := B4.out.trans (zW3.mono B4.out.size); clear hW3 nW3 zW3 U3 B4; have c1 := U4.out.cell 1 rfl) | fail)
  refine (M3.out _ B5.out).mono ?_
  rintro e w4 ⟨rfl, bx⟩
  have U5 : Hid (Bx w4 (w2.heap.size) [.string ⟨#[99, 121]⟩, .string sa, .string ha, .string ⟨#[103, 117, 101, 115, 116]⟩, .int .i64 70, .int .i64 2]) := U4.out.below bx
  have V5 : Hid (Bx w4 (w3.heap.size) [.string ⟨#[99, 121]⟩, .string sa, .string ha, .string ⟨#[103, 117, 101, 115, 116]⟩, .int .i64 70, .int .i64 2]) := V4.out.below bx
  have B6 : Hid (Below w.heap.size w w4) := B5.out.trans (bx.mono B5.out.size)
  clear bx U4 V4 B5 c1 M3
  go_wp2_with fail
  refine (M4.out _).mono ?_
  rintro e w5 ⟨rfl, bx⟩
  have U6 : Hid (Bx w5 (w2.heap.size) [.string ⟨#[99, 121]⟩, .string sa, .string ha, .string ⟨#[103, 117, 101, 115, 116]⟩, .int .i64 70, .int .i64 2]) := U5.out.below bx
  have V6 : Hid (Bx w5 (w3.heap.size) [.string ⟨#[99, 121]⟩, .string sa, .string ha, .string ⟨#[103, 117, 101, 115, 116]⟩, .int .i64 70, .int .i64 2]) := V5.out.below bx
  have B7 : Hid (Below w.heap.size w w5) := B6.out.trans (bx.mono B6.out.size)
  clear bx U5 V5 B6 M4 M1
  go_wp2_with (first | (refine wpl_putT 25 rfl _ _ rfl (w5.heap.size) _ rfl rfl (Bx.new w5 #[.string ⟨#[]⟩, .string ⟨#[]⟩, .string ⟨#[]⟩, .string ⟨#[]⟩, .int .i64 0, .int .i64 0] 25) rfl rfl rfl ?_; intro W5 hW5 nW5; have Y7 : Hid (Bx W5 (w5.heap.size) [.string ⟨#[]⟩, .string ⟨#[]⟩, .string ⟨#[]⟩, .string ⟨#[]⟩, .int .i64 0, .int .i64 0]) := nW5; have zW5 : Below w5.heap.size w5 W5 := (by rw [hW5]; exact below_cells (Nat.le_refl _) _ _ _ ((Below.refl _ _).alloc (Nat.le_refl _) _)); have U7 : Hid (Bx W5 (w2.heap.size) [.string ⟨#[99, 121]⟩, .string sa, .string ha, .string ⟨#[103, 117, 101, 115, 116]⟩, .int .i64 70, .int .i64 2]) := U6.out.below zW5; have V7 : Hid (Bx W5 (w3.heap.size) [.string ⟨#[99, 121]⟩, .string sa, .string ha, .string ⟨#[103, 117, 101, 115, 116]⟩, .int .i64 70, .int .i64 2]) := V6.out.below zW5; have B8 : Hid (Below w.heap.size w W5) := B7.out.trans (zW5.mono B7.out.size); clear hW5 nW5 zW5 U6 V6 B7) | fail)
  refine (PlainConfig_any _).mono ?_
  rintro e w6 ⟨C, X, rfl, oc, bx⟩
  have U8 : Hid (Bx w6 (w2.heap.size) [.string ⟨#[99, 121]⟩, .string sa, .string ha, .string ⟨#[103, 117, 101, 115, 116]⟩, .int .i64 70, .int .i64 2]) := U7.out.below bx
  have V8 : Hid (Bx w6 (w3.heap.size) [.string ⟨#[99, 121]⟩, .string sa, .string ha, .string ⟨#[103, 117, 101, 115, 116]⟩, .int .i64 70, .int .i64 2]) := V7.out.below bx
  have B9 : Hid (Below w.heap.size w w6) := B8.out.trans (bx.mono B8.out.size)
  have OC : Hid (OwnCf w6 W5.heap.size C plC X) := oc
  have hz6 : W5.heap.size ≤ w6.heap.size := bx.size
  clear bx U7 V7 Y7 B8 oc
  go_wp2_with (first | (refine wpl_putT 35 rfl _ _ rfl (w6.heap.size) _ rfl rfl (Bx.new w6 #[.int .i64 0, .int .i64 0, .int .i64 0, .string ⟨#[]⟩, .string ⟨#[]⟩, .int .i64 0, .slice none 0 0, .slice none 0 0] 35) rfl rfl rfl ?_; intro W6 hW6 nW6; have C9 : Hid (Bx W6 (w6.heap.size) [.int .i64 167772160, .int .i64 24, .int .i64 167772161, .string ⟨#[2, 0, 0, 0, 0, 0]⟩, .string ⟨#[2, 0, 0, 0, 0, 255]⟩, .int .i64 16843009, .slice C.x 1 C.xc, .slice C.y 2 C.yc]) := nW6; have zW6 : Below w6.heap.size w6 W6 := (by rw [hW6]; exact below_cells (Nat.le_refl _) _ _ _ ((Below.refl _ _).alloc (Nat.le_refl _) _)); have U9 : Hid (Bx W6 (w2.heap.size) [.string ⟨#[99, 121]⟩, .string sa, .string ha, .string ⟨#[103, 117, 101, 115, 116]⟩, .int .i64 70, .int .i64 2]) := U8.out.below zW6; have V9 : Hid (Bx W6 (w3.heap.size) [.string ⟨#[99, 121]⟩, .string sa, .string ha, .string ⟨#[103, 117, 101, 115, 116]⟩, .int .i64 70, .int .i64 2]) := V8.out.below zW6; have B10 : Hid (Below w.heap.size w W6) := B9.out.trans (zW6.mono B9.out.size); have OC9 : Hid (OwnCf W6 W5.heap.size C plC X) := OC.out.now zW6; clear hW6 nW6 zW6 U8 V8 B9) | (refine wpl_getT 25 rfl _ rfl (w2.heap.size) rfl U9.out _ Tryz.underlying25 rfl rfl ?_) | (refine wpl_putT 42 rfl _ _ rfl (W6.heap.size + 1) _ rfl rfl (show Bx ((W6.alloc (.cells #[.string ⟨#[99, 121]⟩, .string sa, .string ha, .string ⟨#[103, 117, 101, 115, 116]⟩, .int .i64 70, .int .i64 2] 25)).alloc (.cells #[.slice none 0 0, .slice none 0 0, .slice none 0 0, .slice none 0 0, .int .i64 0] 42)) (W6.heap.size + 1) [.slice none 0 0, .slice none 0 0, .slice none 0 0, .slice none 0 0, .int .i64 0] from (by have h9 := Bx.new (W6.alloc (.cells #[.string ⟨#[99, 121]⟩, .string sa, .string ha, .string ⟨#[103, 117, 101, 115, 116]⟩, .int .i64 70, .int .i64 2] 25)) #[.slice none 0 0, .slice none 0 0, .slice none 0 0, .slice none 0 0, .int .i64 0] 42; rw [World.size_alloc] at h9; exact h9)) rfl rfl rfl ?_; intro W7 hW7 nW7; have G11 : Hid (Bx W7 (W6.heap.size + 1) [.slice (some ⟨W6.heap.size, 0, none⟩) 1 1, .slice none 0 0, .slice none 0 0, .slice none 0 0, .int .i64 1]) := nW7; have zr : Below (W6.alloc (.cells #[.string ⟨#[99, 121]⟩, .string sa, .string ha, .string ⟨#[103, 117, 101, 115, 116]⟩, .int .i64 70, .int .i64 2] 25)).heap.size (W6.alloc (.cells #[.string ⟨#[99, 121]⟩, .string sa, .string ha, .string ⟨#[103, 117, 101, 115, 116]⟩, .int .i64 70, .int .i64 2] 25)) W7 := (by rw [hW7]; exact below_cells (by simp) _ _ _ ((Below.refl _ _).alloc (Nat.le_refl _) _)); have R10 : Hid (OwnS uvG 6 25 W7 W6.heap.size (.slice (some ⟨W6.heap.size, 0, none⟩) 1 1) [⟨⟨#[99, 121]⟩, sa, ha, ⟨#[103, 117, 101, 115, 116]⟩, 70, 2⟩]) := OwnS.now (World.ownsRow_lit W6 #[.string ⟨#[99, 121]⟩, .string sa, .string ha, .string ⟨#[103, 117, 101, 115, 116]⟩, .int .i64 70, .int .i64 2] 1 (Nat.le_refl _) (by unfold maxLen; omega) rfl) zr; have OC10 : Hid (OwnCf W7 W5.heap.size C plC X) := OC9.out.now (((Below.refl _ _).alloc (Nat.le_refl _) _).trans (zr.mono (by simp))); have z7 : Below W6.heap.size W6 W7 := ((Below.refl _ _).alloc (Nat.le_refl _) _).trans (zr.mono (by simp)); have U10 : Hid (Bx W7 (w2.heap.size) [.string ⟨#[99, 121]⟩, .string sa, .string ha, .string ⟨#[103, 117, 101, 115, 116]⟩, .int .i64 70, .int .i64 2]) := U9.out.below z7; have V10 : Hid (Bx W7 (w3.heap.size) [.string ⟨#[99, 121]⟩, .string sa, .string ha, .string ⟨#[103, 117, 101, 115, 116]⟩, .int .i64 70, .int .i64 2]) := V9.out.below z7; have C10 : Hid (Bx W7 (w6.heap.size) [.int .i64 167772160, .int .i64 24, .int .i64 167772161, .string ⟨#[2, 0, 0, 0, 0, 0]⟩, .string ⟨#[2, 0, 0, 0, 0, 255]⟩, .int .i64 16843009, .slice C.x 1 C.xc, .slice C.y 2 C.yc]) := C9.out.below z7; have B11 : Hid (Below w.heap.size w W7) := B10.out.trans (z7.mono B10.out.size); clear hW7 nW7 zr z7 U9 V9 C9 B10) | fail)
  have LG : Hid (∀ (mc : ByteArray) (ip : Int) wx, Below W7.heap.size W7 wx → mc.size = 6 → (167772162 ≤ ip ∧ ip ≤ 167772164) → Calls Tryz.prog 9 #[.agg #[.int .i64 167772160, .int .i64 24, .int .i64 167772161, .string ⟨#[2, 0, 0, 0, 0, 0]⟩, .string ⟨#[2, 0, 0, 0, 0, 255]⟩, .int .i64 16843009, .slice C.x 1 C.xc, .slice C.y 2 C.yc], .agg #[.slice (some ⟨W6.heap.size, 0, none⟩) 1 1, .slice none 0 0, .slice none 0 0, .slice none 0 0, .int .i64 1], .string ⟨#[99, 121]⟩, .string wd, .string mc, .int .i64 ip, .int .i64 5] wx fun e w' => ∃ v, e = .returned v ∧ (kUs wd).own w' wx.heap.size v ∧ Below wx.heap.size wx w') := fun mc ip wx hb hm hi => by
    have hh : ha.size = 32 := by rw [EHA.out.2]; exact passS_size _ _ _
    have hb0 := B11.out.trans (hb.mono B11.out.size)
    have oc : OwnCf wx W5.heap.size C plC X := OC10.out.now hb
    have oh : OwnHu wx W6.heap.size ⟨some ⟨W6.heap.size, 0, none⟩, none, none, none, 1, 0, 0, 0⟩ (usH ha) := by
      have hr : OwnS uvG 6 25 wx W6.heap.size (.slice (some ⟨W6.heap.size, 0, none⟩) 1 1) [usV ha] := by
        have := R10.out.now hb
        rw [EHA.out.1] at this
        exact this
      exact ⟨hr, OwnS.nil _ _, OwnS.nil _ _, OwnS.nil _ _, (ap_none _ _ _).symm, (ap_none _ _ _).symm, (ap_none _ _ _).symm, ap_none _ _ _, ap_none _ _ _, ap_none _ _ _⟩
    have hL := implLogin_any C plC _ (usH ha) cyN wd mc ip 5 wx (oc.rw plC_fok) (oh.rw (usH_fok ha hh)) (oh.srcs (usH_fok ha hh) (usH_hl ha)) plC_sz (usH_sz ha hh) (HT.out.1.below hb0) (HT.out.2.below hb0) (by decide) (by have := LW.out; omega) (by omega)
    rw [EHA.out.2, us_login wd mc ip (by have := LW.out; omega) hm hi] at hL


    exact hL.mono fun e w' ⟨R, h1, h2, h3⟩ => ⟨_, h1, ⟨R, mc, ip, rfl, h2⟩, h3⟩
  have mixed : Tryz.prog.follows .mixedOrders = true := by kernel_rfl
  refine Rlw.wp_region_rel (w := W7) [Rlw.valR 0 [] (.agg #[.int .i64 167772160, .int .i64 24, .int .i64 167772161, .string ⟨#[2, 0, 0, 0, 0, 0]⟩, .string ⟨#[2, 0, 0, 0, 0, 255]⟩, .int .i64 16843009, .slice C.x 1 C.xc, .slice C.y 2 C.yc]), Rlw.valR 1 [] (.agg #[.slice (some ⟨W6.heap.size, 0, none⟩) 1 1, .slice none 0 0, .slice none 0 0, .slice none 0 0, .int .i64 1]), Rlw.valR 2 [] (.string wd), Rlw.valR 3 [] (.slice b lb cb), Rlw.twoR 4 4 [3] (fun x _ => ∃ s : ByteArray, x = .string s ∧ s.size = 6), Rlw.valR 5 [] (.slice b lb cb), Rlw.twoR 6 6 [5] (fun x _ => ∃ v : Int, x = .int .i64 v ∧ 167772162 ≤ v ∧ v ≤ 167772164), Rlw.kndR 7 [0, 1, 2, 4, 6] (kUs wd) W7.heap.size, Rlw.twoR 8 7 [7] (fun x y => x = y ∧ ∃ R, x = .tuple #[.agg (usC R).toArray, .int .i64 1, .int .i64 0]), Rlw.twoR 9 8 [8] (fun x y => ∃ R, x = .agg (usC R).toArray ∧ y = .tuple #[x, .int .i64 1, .int .i64 0]), Rlw.valR 10 [8] (.int .i64 1), Rlw.valR 11 [8] (.int .i64 0), Rlw.boxR 12 [] [.slice none 0 0, .slice none 0 0, .slice none 0 0, .slice none 0 0, .int .i64 0], Rlw.putV 12 9 [9], Rlw.valR 14 [10] (.int .i64 1), Rlw.valR 15 [11] (.int .i64 0)] [] [0, 1, 2, 3, 4, 5, 6, 7, 8, 9, 10, 11, 13, 14, 15] (fun b => b < W7.heap.size) (by kernel_rfl) (by kernel_rfl) (by kernel_rfl) ?_ (fun b h => h) (fun k r hk => by cases hk) (fun j k rj rk hj => by cases hj) ?_ ?_
  · exact Rlw.ov (Rlw.ov (Rlw.ov (Rlw.ov (Rlw.oc (Rlw.twoR_ok _ _ _ _) (Rlw.ov (Rlw.oc (Rlw.twoR_ok _ _ _ _) (Rlw.oc (Rlw.kndR_ok _ _ _ _) (Rlw.oc (Rlw.twoR_ok _ _ _ _) (Rlw.oc (Rlw.twoR_ok _ _ _ _) (Rlw.ov (Rlw.ov (Rlw.oc (Rlw.boxR_ok _ _ _) (Rlw.oc (Rlw.putV_ok _ _ _) (Rlw.ov (Rlw.ov (List.forall_mem_nil _))))))))))))))))
  · refine Rlw.wk rfl ?_ ?_
    · intro σ wx hK hF post hp
      have hb := Rlw.keep_below hK
      refine Rlw.yld_get 35 _ rfl (q := w6.heap.size) (by go_simp) (C10.out.below hb) _ Tryz.underlying35 rfl rfl ?_
      exact hp _ _ Rlw.left_val
    refine Rlw.wk rfl ?_ ?_
    · intro σ wx hK hF post hp
      have hb := Rlw.keep_below hK
      refine Rlw.yld_get 42 _ rfl (q := W6.heap.size + 1) (by go_simp) (G11.out.below hb) _ Tryz.underlying42 rfl rfl ?_
      exact hp _ _ Rlw.left_val
    refine Rlw.wk rfl ?_ ?_
    · intro σ wx hK hF post hp
      go_simp
      exact Rlw.yv hp
    refine Rlw.wk rfl ?_ ?_
    · intro σ wx hK hF post hp
      go_simp
      exact Rlw.yv hp
    refine Rlw.wk rfl ?_ ?_
    · intro σ wx hK hF post hp
      have f3 := Rlw.fv hF 3 rfl rfl
      have hb := Rlw.keep_below hK
      go_simp
      refine Rlw.yld_call ?_
      refine (DM.out _ (B11.out.trans (hb.mono B11.out.size))).mono ?_
      rintro e w9 ⟨⟨s9, rfl, hs9⟩, b9⟩
      exact ⟨_, rfl, hp _ _ (Rlw.left_below ⟨s9, by simp [Rlw.upd], hs9⟩ (fun b h => h.elim) b9)⟩
    refine Rlw.wk rfl ?_ ?_
    · intro σ wx hK hF post hp
      go_simp
      exact Rlw.yv hp
    refine Rlw.wk rfl ?_ ?_
    · intro σ wx hK hF post hp
      have f5 := Rlw.fv hF 5 rfl rfl
      have hb := Rlw.keep_below hK
      go_simp
      refine Rlw.yld_call ?_
      refine (DL.out _ (B11.out.trans (hb.mono B11.out.size))).mono ?_
      rintro e w9 ⟨⟨s9, rfl, hs9⟩, b9⟩
      exact ⟨_, rfl, hp _ _ (Rlw.left_below ⟨s9, by simp [Rlw.upd], hs9⟩ (fun b h => h.elim) b9)⟩
    refine Rlw.wk rfl ?_ ?_
    · intro σ wx hK hF post hp
      have f0 := Rlw.fv hF 0 rfl rfl
      have f1 := Rlw.fv hF 1 rfl rfl
      have f2 := Rlw.fv hF 2 rfl rfl
      have f4 : ∃ s : ByteArray, σ 4 = .string s ∧ s.size = 6 := Rlw.fact_of hF (j := 4) rfl rfl
      have f6 : ∃ v : Int, σ 6 = .int .i64 v ∧ 167772162 ≤ v ∧ v ≤ 167772164 := Rlw.fact_of hF (j := 6) rfl rfl
      have hb := Rlw.keep_below hK
      obtain ⟨mc, h4, hm⟩ := f4
      obtain ⟨ip, h6, hi⟩ := f6
      go_simp
      refine Rlw.yld_call ?_
      refine (LG.out mc ip _ hb hm hi).mono ?_
      rintro e w9 ⟨v9, rfl, o9, b9⟩
      exact ⟨_, rfl, hp _ _ (Rlw.left_knd o9 hK.size b9)⟩
    refine Rlw.wk rfl ?_ ?_
    · intro σ wx hK hF post hp
      have f7 : (kUs wd).own wx W7.heap.size (σ 7) := Rlw.fact_of hF (j := 7) rfl rfl
      obtain ⟨R9, mc9, ip9, hv9, -⟩ := f7
      go_simp
      refine Rlw.yld_val ?_
      refine hp _ _ (Rlw.left_below ?_ (fun b h => h.elim) (Below.refl _ _))
      exact ⟨by simp [Rlw.upd, hv9], R9, by simp [Rlw.upd]⟩
    refine Rlw.wk rfl ?_ ?_
    · intro σ wx hK hF post hp
      have f8 : σ 8 = σ 7 ∧ ∃ R, σ 8 = .tuple #[.agg (usC R).toArray, .int .i64 1, .int .i64 0] := Rlw.fact_of hF (j := 8) rfl rfl
      obtain ⟨-, R9, h9⟩ := f8
      go_simp
      refine Rlw.yld_val ?_
      refine hp _ _ (Rlw.left_below ?_ (fun b h => h.elim) (Below.refl _ _))
      exact ⟨R9, by simp [Rlw.upd], by simp [Rlw.upd, h9]⟩
    refine Rlw.wk rfl ?_ ?_
    · intro σ wx hK hF post hp
      have f8 : σ 8 = σ 7 ∧ ∃ R, σ 8 = .tuple #[.agg (usC R).toArray, .int .i64 1, .int .i64 0] := Rlw.fact_of hF (j := 8) rfl rfl
      obtain ⟨-, R9, h9⟩ := f8
      go_simp
      exact Rlw.yv hp
    refine Rlw.wk rfl ?_ ?_
    · intro σ wx hK hF post hp
      have f8 : σ 8 = σ 7 ∧ ∃ R, σ 8 = .tuple #[.agg (usC R).toArray, .int .i64 1, .int .i64 0] := Rlw.fact_of hF (j := 8) rfl rfl
      obtain ⟨-, R9, h9⟩ := f8
      go_simp
      exact Rlw.yv hp
    refine Rlw.wk rfl ?_ ?_
    · intro σ wx hK hF post hp
      go_simp
      refine Rlw.yld_val ?_
      exact hp _ _ (Rlw.left_box #[.slice none 0 0, .slice none 0 0, .slice none 0 0, .slice none 0 0, .int .i64 0] _)
    refine Rlw.wk rfl ?_ ?_
    · intro σ wx hK hF post hp
      have f12 : Rlw.boxF [.slice none 0 0, .slice none 0 0, .slice none 0 0, .slice none 0 0, .int .i64 0] (σ 12) wx := Rlw.fact_of hF (j := 12) rfl rfl
      have f9 : ∃ R, σ 9 = .agg (usC R).toArray ∧ σ 8 = .tuple #[σ 9, .int .i64 1, .int .i64 0] := Rlw.fact_of hF (j := 9) rfl rfl
      obtain ⟨q9, hq9, hb9⟩ := f12
      obtain ⟨R9, h9, -⟩ := f9
      refine Rlw.yld_put 42 _ _ rfl (q := q9) (cells := (usC R9).toArray) (by go_simp; try exact hq9) (by go_simp; try exact h9) hb9 rfl (by rfl) rfl ?_
      exact hp _ _ (Rlw.left_putV (t := 9) rfl (by decide) (by decide) hq9 h9 hb9 rfl)
    refine Rlw.wk rfl ?_ ?_
    · intro σ wx hK hF post hp
      have f10 := Rlw.fv hF 10 rfl rfl
      go_simp
      exact Rlw.yv hp
    refine Rlw.wk rfl ?_ ?_
    · intro σ wx hK hF post hp
      have f11 := Rlw.fv hF 11 rfl rfl
      go_simp
      exact Rlw.yv hp
    exact Rlw.walk_nil
  · intro σ w8 hK hF hA
    have b9 : Below W7.heap.size W7 w8 := Rlw.keep_below hK
    have f7 : (kUs wd).own w8 W7.heap.size (σ 7) := Rlw.fact_of hF (j := 7) rfl rfl
    have f8 : σ 8 = σ 7 ∧ ∃ R, σ 8 = .tuple #[.agg (usC R).toArray, .int .i64 1, .int .i64 0] := Rlw.fact_of hF (j := 8) rfl rfl
    have f9 : ∃ R, σ 9 = .agg (usC R).toArray ∧ σ 8 = .tuple #[σ 9, .int .i64 1, .int .i64 0] := Rlw.fact_of hF (j := 9) rfl rfl
    have f13 : ∃ cs : List Value, σ 9 = .agg cs.toArray ∧ Rlw.boxF cs (σ 12) w8 := Rlw.fact_of hF (j := 13) rfl rfl
    have f14 : σ 14 = .int .i64 1 := Rlw.fact_of hF (j := 14) rfl rfl
    have f15 : σ 15 = .int .i64 0 := Rlw.fact_of hF (j := 15) rfl rfl
    obtain ⟨R, mc, ip, n8, hn8, o8, x8⟩ := leafUs f7 f8 f9 f13
    have U12 : Hid (Bx w8 (w2.heap.size) [.string ⟨#[99, 121]⟩, .string sa, .string ha, .string ⟨#[103, 117, 101, 115, 116]⟩, .int .i64 70, .int .i64 2]) := U10.out.below b9
    have V12 : Hid (Bx w8 (w3.heap.size) [.string ⟨#[99, 121]⟩, .string sa, .string ha, .string ⟨#[103, 117, 101, 115, 116]⟩, .int .i64 70, .int .i64 2]) := V10.out.below b9
    have N12 : Hid (Bx w8 n8 [.slice R.u 1 R.uc, .slice R.s 1 R.sc, .slice R.f 0 R.fc, .slice R.r 1 R.rc, .int .i64 2]) := x8
    have B12 : Hid (Below w.heap.size w w8) := B11.out.trans (b9.mono B11.out.size)
    simp only [Rlw.putAll, Nat.zero_add, Nat.reduceAdd, hn8, f14, f15]
    obtain ⟨ru, rs, rf, rr, ruc, rsc, rfc, rrc⟩ := R
    have O8 : Own4 w8 W7.heap.size (.slice ru 1 ruc) (.slice rs 1 rsc) (.slice rf 0 rfc) (.slice rr 1 rrc) (usG wd mc ip).us (usG wd mc ip).ss (usG wd mc ip).fs (usG wd mc ip).es := o8
    obtain ⟨gs, hgs, -, -, -⟩ := O8.s.form (by show 0 < 1; omega)
    obtain ⟨gu, hgu, -, -, -⟩ := O8.u.form (by show 0 < 1; omega)
    subst hgs hgu
    have k7 : w8.cell? ⟨gs, 7, none⟩ = some (.int .i64 70) := (O8.s.cell svG_len (i := 0) (j := 7) (x := lgS (usH (passS cyS wd 3)) gsR (cyU wd) 0 mc ip 5) rfl rfl).1
    have k5 : w8.cell? ⟨gu, 5, none⟩ = some (.int .i64 1) := (O8.u.cell uvG_len (i := 0) (j := 5) (x := { cyU wd with lg := (cyU wd).lg - 1 }) rfl rfl).1
    have n0 := N12.out.cell 0 rfl
    have n1 := N12.out.cell 1 rfl
    have u2 := U12.out.cell 2 rfl
    clear hF hA hK f7 f8 f9 f13 f14 f15 hn8 o8 O8 x8 b9 U10 V10 C10 G11 R10 B11 LG DM DL OC OC9 OC10 HT EHA
    go_simp
    go_wp2_with (first | (refine wpl_getW 25 (by rfl) _ rfl (w2.heap.size) rfl U12.out _ Tryz.underlying25 rfl rfl ?_) | (refine wpl_getW 25 (by rfl) _ rfl (w3.heap.size) rfl V12.out _ Tryz.underlying25 rfl rfl ?_) | fail)
    go_ret
    exact ⟨rfl, B12.out⟩
theorem lawUsers_skip (a b : Option Addr) (la ca lb cb : Nat) (w : World) (h : 1048576 < la ∨ 1048576 < lb) :
    Calls Tryz.prog 3 #[.slice a la ca, .slice b lb cb] w fun e w' => e = .returned (.bool true) ∧ Below w.heap.size w w' := by
  by_cases h1 : 1048576 < la
  · go_enter Tryz.func3, Tryz.ntmps3
    go_wp2
    go_ret
    exact ⟨rfl, Below.refl _ _⟩
  · have h2 : 1048576 < lb := by omega
    go_enter Tryz.func3, Tryz.ntmps3
    go_wp2
    go_ret
    exact ⟨rfl, Below.refl _ _⟩
end Go.Proofs.YtnlepjcjakghcaaGreatDoor
