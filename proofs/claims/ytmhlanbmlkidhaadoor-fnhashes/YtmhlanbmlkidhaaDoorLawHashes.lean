/- The walk of laws.FnHashes. -/
import Derived.Test.YtmhlanbmlkidhaaDoorPass
import Derived.Test.YtmhlanbmlkidhaaDoorHashN
import Derived.Test.YtmhlanbmlkidhaaDoorCrc
import Derived.Test.YtmhlanbmlkidhaaDoorHashT
import Derived.Test.YtmhlanbmlkidhaaDoorHashR
import Derived.Test.YtmhlanbmlkidhaaDoorHashBit
import Derived.Test.YtmhlanbmlkidhaaDoorHashSame
import Derived.Test.YtmhlanbmlkidhaaDoorAt
namespace Go.Proofs.YtmhlanbmlkidhaaDoor
open Go.RowKit Go.PlainAid
set_option linter.unusedVariables false
set_option maxRecDepth 20000

/-! A hash is read back from its text. -/
theorem hxl_at (f : Nat → Int) : ∀ (n k : Nat), k < n → (hxl f n).getD (2 * k) 0 = hx (f k / 16) ∧ (hxl f n).getD (2 * k + 1) 0 = hx (f k % 16)
  | 0, k, h => absurd h (by omega)
  | n + 1, k, h => by
    have hl := hxl_len f n
    simp only [List.getD_eq_getElem?_getD]
    by_cases e : k = n
    · subst e
      rw [hxl, List.getElem?_append_right (by omega), List.getElem?_append_right (by omega), hl, show 2 * k - 2 * k = 0 by omega, show 2 * k + 1 - 2 * k = 1 by omega]
      exact ⟨rfl, rfl⟩
    · have ih := hxl_at f n k (by omega)
      simp only [List.getD_eq_getElem?_getD] at ih
      rw [hxl, List.getElem?_append_left (by omega), List.getElem?_append_left (by omega)]
      exact ih
theorem half_hx_all : ∀ n : Fin 16, half (hx (n.val : Int)) = n.val := by decide +kernel
theorem half_hx (n : Int) (h0 : 0 ≤ n) (h1 : n < 16) : half (hx n) = n := by
  obtain ⟨m, rfl⟩ := Int.eq_ofNat_of_zero_le h0
  exact half_hx_all ⟨m, by omega⟩
theorem bt_str (L : List Int) (h : ∀ x ∈ L, 0 ≤ x ∧ x ≤ 255) (j : Nat) : bt (strOfNums L) j = L.getD j 0 := by
  rw [← nums_getD, nums_strOfNums L h]
theorem back_at (h : ByteArray) (k : Nat) (hk : k < 32) : half (bt (strOfNums (hxl (bt h) 32)) (2 * k)) = bt h k / 16 ∧ half (bt (strOfNums (hxl (bt h) 32)) (2 * k + 1)) = bt h k % 16 := by
  have b0 := bt_nonneg h k
  have b1 := bt_le h k
  rw [bt_str _ (hxl_bd _ 32), bt_str _ (hxl_bd _ 32), (hxl_at (bt h) 32 k hk).1, (hxl_at (bt h) 32 k hk).2]
  exact ⟨half_hx _ (by omega) (by omega), half_hx _ (by omega) (by omega)⟩
theorem back_h (h : ByteArray) (hs : h.size = 32) : rhT (bt (strOfNums (hxl (bt h) 32))) = h ∧ rhC (bt (strOfNums (hxl (bt h) 32))) = 0 := by
  have hall : ∀ j, j < 32 → badH (bt (strOfNums (hxl (bt h) 32))) j = false := by
    intro j hj
    have b0 := bt_nonneg h j
    have := back_at h j hj
    unfold badH
    rw [this.1, this.2]
    simp
    omega
  refine ⟨?_, (rh_ok _ hall).2⟩
  rw [(rh_ok _ hall).1]
  have e : rhl (bt (strOfNums (hxl (bt h) 32))) 32 = nums h := by
    have e1 := range_getD (nums h)
    rw [nums_len, hs] at e1
    rw [← e1]
    unfold rhl
    apply List.map_congr_left
    intro j hj
    have hj' : j < 32 := by simpa using hj
    have := back_at h j hj'
    rw [this.1, this.2, nums_getD]
    omega
  rw [e, strOfNums_nums]
theorem text_size (h : ByteArray) : (strOfNums (hxl (bt h) 32)).size = 64 := by
  have := nums_len (strOfNums (hxl (bt h) 32))
  rw [nums_strOfNums _ (hxl_bd _ 32), hxl_len] at this
  omega
theorem sameB_self (a : ByteArray) (h : a.size = 32) : sameB a a = true := by rw [sameB_y a a h]; simp
def saltS : ByteArray := ⟨#[115, 97, 108, 116]⟩

theorem lawHashes_skip (a b : Option Addr) (la ca lb cb : Nat) (w : World) (h : 1048576 < la ∨ 1048576 < lb) :
    Calls Tryd.prog 4 #[.slice a la ca, .slice b lb cb] w fun e w' => e = .returned (.bool true) ∧ Below w.heap.size w w' := by
  by_cases h1 : 1048576 < la
  · go_enter Tryd.func4, Tryd.ntmps4
    go_wp2
    go_ret
    exact ⟨rfl, Below.refl _ _⟩
  · have h2 : 1048576 < lb := by omega
    go_enter Tryd.func4, Tryd.ntmps4
    go_wp2
    go_ret
    exact ⟨rfl, Below.refl _ _⟩
set_option maxHeartbeats 400000 in
theorem lawHashes_long (a b : Option Addr) (la ca lb cb : Nat) (w : World) (h1 : la ≤ 1048576) (h2 : lb ≤ 1048576) (h3 : 65536 < la) :
    Calls Tryd.prog 4 #[.slice a la ca, .slice b lb cb] w fun e w' => e = .returned (.bool true) ∧ Below w.heap.size w w' := by
  go_enter Tryd.func4, Tryd.ntmps4
  go_wp2_with (first
    | (go_at_call 16; refine (hash_long _ _ _ _ h3).mono ?_; rintro e w' ⟨rfl, hw⟩; subst hw)
    | (go_at_call 17; refine (check32_long _ _ _ _ h3).mono ?_; rintro e w' ⟨rfl, hw⟩; subst hw))
  go_ret
  exact ⟨rfl, Below.refl _ _⟩

set_option maxHeartbeats 2000000 in
theorem lawHashes_any (a b : Option Addr) (la ca lb cb : Nat) (f g : Nat → Int) (w : World) (hK : KTab w) (hH : HTab w) (hC : CTab w) (ha : Bytes w a la f) (hb : Bytes w b lb g)
    (pa : ∀ b off, 0 < la → a = some ⟨b, off, none⟩ → b < w.heap.size) (pb : ∀ b' off, 0 < lb → b = some ⟨b', off, none⟩ → b' < w.heap.size) (na : a = none → la = 0 ∧ ca = 0) (qa : ∀ y, a = some y → 0 < ca → ∃ b off, y = ⟨b, off, none⟩)
    (h1 : la ≤ 65536) (h2 : lb ≤ 1048576) (h3 : la ≤ ca) (h4 : ca ≤ 9223372036854775807) :
    Calls Tryd.prog 4 #[.slice a la ca, .slice b lb cb] w fun e w' => e = .returned (.bool true) ∧ Below w.heap.size w w' := by
  obtain ⟨h, hh⟩ : ∃ h, h = hashF f la := ⟨_, rfl⟩
  have hs : h.size = 32 := by rw [hh]; exact hashF_size _ _
  obtain ⟨T, hT⟩ : ∃ T, T = strOfNums (hxl (bt h) 32) := ⟨_, rfl⟩
  obtain ⟨Bt, hBt⟩ : ∃ B, B = strOfNums (btl (bt h) 256) := ⟨_, rfl⟩
  have ts : T.size = 64 := by rw [hT]; exact text_size h
  obtain ⟨cr, hcr⟩ : ∃ c, c = crcOf f la := ⟨_, rfl⟩
  have I1 : Hid (∀ wx, Below w.heap.size w wx → Calls Tryd.prog 16 #[.slice a la ca] wx fun e w' => e = .returned (.string h) ∧ Below wx.heap.size wx w') := fun wx bx => by
    rw [hh]
    exact hash_gen a la ca f wx (hK.below bx) (hH.below bx) (ha.below bx pa) na qa (fun b' o' h0 e => Nat.lt_of_lt_of_le (pa b' o' h0 e) bx.size) h1 h3 h4
  have S1 : Hid (∀ wx, Below w.heap.size w wx → Calls Tryd.prog 25 #[.slice a la ca] wx fun e w' => e = .returned (.string h) ∧ Below wx.heap.size wx w') := fun wx bx => by
    rw [hh]
    exact specHash_any a la ca f wx (ha.below bx pa) h1 na (fun b' o' h0 e => Nat.lt_of_lt_of_le (pa b' o' h0 e) bx.size)
  have I2 : Hid (∀ wx, Calls Tryd.prog 18 #[.string h] wx fun e w' => e = .returned (.tuple #[.string T, .int .i64 0]) ∧ Below wx.heap.size wx w') := fun wx => by rw [hT]; exact hashText_yes h wx hs
  have I3 : Hid (∀ wx, Calls Tryd.prog 19 #[.string T] wx fun e w' => e = .returned (.tuple #[.string h, .int .i64 0]) ∧ Below wx.heap.size wx w') := fun wx => by
    have e := readHash_yes T wx ts
    rw [hT, (back_h h hs).1, (back_h h hs).2] at e
    rw [hT]; exact e
  have I4 : Hid (∀ wx, Calls Tryd.prog 20 #[.string h] wx fun e w' => e = .returned (.tuple #[.string Bt, .int .i64 0]) ∧ Below wx.heap.size wx w') := fun wx => by rw [hBt]; exact hashBits_yes h wx hs
  have S4 : Hid (∀ wx, Calls Tryd.prog 21 #[.string h] wx fun e w' => e = .returned (.tuple #[.string Bt, .int .i64 0]) ∧ Below wx.heap.size wx w') := fun wx => by rw [hBt]; exact specHashBits_yes h wx hs
  have I5 : Hid (∀ wx, Below w.heap.size w wx → Calls Tryd.prog 17 #[.slice a la ca] wx fun e w' => e = .returned (.int .i64 cr) ∧ w' = wx) := fun wx bx => by rw [hcr]; exact check32_any a la ca f wx (ha.below bx pa) h1 (fun i hi => by rw [bx.cell (World.block_lt_of_cell? w _ (hC i hi))]; exact hC i hi)
  have S5 : Hid (∀ wx, Below w.heap.size w wx → Calls Tryd.prog 27 #[.slice a la ca] wx fun e w' => e = .returned (.int .i64 cr) ∧ w' = wx) := fun wx bx => by rw [hcr]; exact specCheck32_any a la ca f wx (ha.below bx pa) h1
  have D1 : Hid (∀ wx, Below w.heap.size w wx → Calls Tryd.prog 22 #[.slice b lb cb, .int .i64 20] wx fun e w' => ∃ (g c : Nat) (L : List Int), e = .returned (.slice (some ⟨g, 0, none⟩) L.length c) ∧ Hid (OwnL 5 w' wx.heap.size (.slice (some ⟨g, 0, none⟩) L.length c) L) ∧ Hid (AllB L) ∧ (L.length : Int) ≤ 20 ∧ Hid (Below wx.heap.size wx w')) := fun wx bx =>
    BytesOf_any wx b lb cb g 20 (hb.below bx pb) h2 (fun b' o' h0 e => Nat.lt_of_lt_of_le (pb b' o' h0 e) bx.size) (by omega) (by omega)
  have D2 : Hid (∀ wx, Below w.heap.size w wx → Calls Tryd.prog 10 #[.slice b lb cb, .int .i64 0, .int .i64 6] wx fun e w' => ∃ v : Nat, e = .returned (.int .i64 (v : Int)) ∧ v < 6 ∧ ∃ k, w' = wx.drewN k) := fun wx bx =>
    (at_any wx b lb cb g 0 6 (hb.below bx pb) h2 (by omega) (by omega) (by omega)).mono fun e w' ⟨v, h1, h2, h3, h4⟩ => by
      obtain ⟨m, rfl⟩ := Int.eq_ofNat_of_zero_le h2
      exact ⟨m, h1, by omega, h4⟩
  have P1 : Hid (∀ (wd : ByteArray) (n : Nat) wx, wd.size ≤ 40 → n ≤ 20 → Below w.heap.size w wx → Calls Tryd.prog 23 #[.string ⟨#[115, 97, 108, 116]⟩, .string wd, .int .i64 n] wx fun e w' => e = .returned (.tuple #[.string (passS saltS wd n), .int .i64 0]) ∧ Below wx.heap.size wx w') := fun wd n wx e1 e2 bx => passHash_yes saltS wd n wx (hK.below bx) (hH.below bx) (by decide) e1 e2
  have P2 : Hid (∀ (wd : ByteArray) (n : Nat) wx, wd.size ≤ 40 → n ≤ 20 → Calls Tryd.prog 24 #[.string ⟨#[115, 97, 108, 116]⟩, .string wd, .int .i64 n] wx fun e w' => e = .returned (.tuple #[.string (passS saltS wd n), .int .i64 0]) ∧ Below wx.heap.size wx w') := fun wd n wx e1 e2 => specPassHash_yes saltS wd n wx (by decide) e1 e2
  have A1 : Hid (∀ (s : ByteArray) (cap b : Nat) (wx : World), s.size ≤ 200 → Bytes wx (some ⟨b, 0, none⟩) s.size (bt s) → b < wx.heap.size → s.size ≤ cap → cap ≤ 9223372036854775807 → Below w.heap.size w wx → Calls Tryd.prog 16 #[.slice (some ⟨b, 0, none⟩) s.size cap] wx fun e w' => e = .returned (.string (hashS s)) ∧ Below wx.heap.size wx w') := fun s cap b wx e1 e2 e3 e4 e5 e6 => hash_some b 0 s.size cap (bt s) wx (hK.below e6) (hH.below e6) e2 e3 (by omega) e4 e5
  have h32 : ((h.size : Int) == 32) = true := by simp; omega
  have BW : Hid (Below w.heap.size w w) := Below.refl _ _
  clear hK hH hC ha hb pa pb na qa hh hT hBt hcr ts
  have hsz : h.size ≤ 32 := by omega
  clear hs
  go_enter Tryd.func4, Tryd.ntmps4
  go_wp2_with fail
  refine (I1.out _ BW.out).mono ?_
  rintro e w1 ⟨rfl, b1⟩
  have B1 : Hid (Below w.heap.size w w1) := b1
  clear b1 BW
  go_wp2_with fail
  refine (I2.out _).mono ?_
  rintro e w2 ⟨rfl, b2⟩
  have B2 : Hid (Below w.heap.size w w2) := B1.out.trans (b2.mono B1.out.size)
  clear b2 B1
  go_wp2_with fail
  refine (I3.out _).mono ?_
  rintro e w3 ⟨rfl, b3⟩
  have B3 : Hid (Below w.heap.size w w3) := B2.out.trans (b3.mono B2.out.size)
  clear b3 B2
  go_wp2_with fail
  refine (I4.out _).mono ?_
  rintro e w4 ⟨rfl, b4⟩
  have B4 : Hid (Below w.heap.size w w4) := B3.out.trans (b4.mono B3.out.size)
  clear b4 B3
  go_wp2_with fail
  refine (S4.out _).mono ?_
  rintro e w5 ⟨rfl, b5⟩
  have B5 : Hid (Below w.heap.size w w5) := B4.out.trans (b5.mono B4.out.size)
  clear b5 B4
  go_wp2_with fail
  refine (D1.out _ B5.out).mono ?_
  rintro e w6 ⟨gw, cw, L, rfl, O6, A6, l6, b6⟩
  have B6 : Hid (Below w.heap.size w w6) := B5.out.trans (b6.out.mono B5.out.size)
  obtain ⟨a6, c6, hv6, hby6, -⟩ := OwnL.slice O6.out A6.out
  have hc6 := conv_own (P := Tryd.prog) w6 22 9 5 Tryd.underlying22 Tryd.underlying5 Tryd.underlying9 a6 c6 _ hby6
  rw [← hv6] at hc6
  obtain ⟨wd, hwd⟩ : ∃ x, x = strOfNums L := ⟨_, rfl⟩
  have swd : wd.size ≤ 40 := by
    have e := nums_len (strOfNums L)
    rw [nums_strOfNums L A6.out] at e
    rw [hwd]; omega
  rw [← hwd] at hc6
  clear b6 B5 hv6 hby6 O6 A6 hwd l6
  go_wp2_with fail
  refine (D2.out _ B6.out).mono ?_
  rintro e w7 ⟨n, rfl, hn, kq, hw7⟩
  have B7 : Hid (Below w.heap.size w w7) := by rw [hw7]; exact ⟨B6.out.os, B6.out.tape, B6.out.output, B6.out.size, B6.out.block⟩
  clear hw7 B6 hc6
  obtain ⟨p, hp⟩ : ∃ p, p = passS saltS wd n := ⟨_, rfl⟩
  obtain ⟨q, hq⟩ : ∃ q, q = passS saltS wd (n + 1) := ⟨_, rfl⟩
  have ps : p.size = 32 := by rw [hp]; exact passS_size _ _ _
  have QA : Hid (hashS (saltS ++ p) = q) := by show _ = _; rw [hq, hp]; rfl
  have Q1 : Hid (∀ wx, Below w.heap.size w wx → Calls Tryd.prog 23 #[.string ⟨#[115, 97, 108, 116]⟩, .string wd, .int .i64 (n : Int)] wx fun e w' => e = .returned (.tuple #[.string p, .int .i64 0]) ∧ Below wx.heap.size wx w') := fun wx bx => by rw [hp]; exact P1.out wd n wx swd (by omega) bx
  have Q2 : Hid (∀ wx, Calls Tryd.prog 24 #[.string ⟨#[115, 97, 108, 116]⟩, .string wd, .int .i64 (n : Int)] wx fun e w' => e = .returned (.tuple #[.string p, .int .i64 0]) ∧ Below wx.heap.size wx w') := fun wx => by rw [hp]; exact P2.out wd n wx swd (by omega)
  have Q3 : Hid (∀ wx, Below w.heap.size w wx → Calls Tryd.prog 23 #[.string ⟨#[115, 97, 108, 116]⟩, .string wd, .int .i64 ((n : Int) + 1)] wx fun e w' => e = .returned (.tuple #[.string q, .int .i64 0]) ∧ Below wx.heap.size wx w') := fun wx bx => by rw [hq]; exact P1.out wd (n + 1) wx swd (by omega) bx
  have hsm : sameB p p = true := sameB_self p ps
  have Q4 : Hid (∀ wx, Calls Tryd.prog 26 #[.string p, .string p] wx fun e w' => e = .returned (.bool true) ∧ w' = wx) := fun wx => by rw [← hsm]; exact sameHash_any p p wx (by omega)
  have psz : p.size ≤ 32 := by omega
  clear hp hq hsm ps P1 P2
  go_wp2_with fail
  refine (Q1.out _ B7.out).mono ?_
  rintro e w8 ⟨rfl, b8⟩
  have B8 : Hid (Below w.heap.size w w8) := B7.out.trans (b8.mono B7.out.size)
  clear b8 B7
  go_wp2_with fail
  refine (Q2.out _).mono ?_
  rintro e w9 ⟨rfl, b9⟩
  have B9 : Hid (Below w.heap.size w w9) := B8.out.trans (b9.mono B8.out.size)
  clear b9 B8
  go_wp2_with fail
  refine (Q3.out _ B9.out).mono ?_
  rintro e w10 ⟨rfl, b10⟩
  have B10 : Hid (Below w.heap.size w w10) := B9.out.trans (b10.mono B9.out.size)
  clear b10 B9
  obtain ⟨U, hU⟩ : ∃ U, U = saltS ++ p := ⟨_, rfl⟩
  have su : U.size ≤ 40 := by rw [hU, ByteArray.size_append]; show 4 + p.size ≤ 40; omega
  obtain ⟨capU, w11, hcU, bU, zU, yU, pU, qU⟩ := conv_b w10 U (by omega)
  have B11 : Hid (Below w.heap.size w w11) := B10.out.trans (bU.mono B10.out.size)
  have HX : Hid (Calls Tryd.prog 16 #[.slice (some ⟨w10.heap.size, 0, none⟩) U.size capU] w11 fun e w' => e = .returned (.string q) ∧ Below w11.heap.size w11 w') := by rw [← QA.out, ← hU]; exact A1.out U capU w10.heap.size w11 (by omega) yU (by omega) pU qU B11.out
  obtain ⟨mU, hmU⟩ : ∃ m, m = U.size := ⟨_, rfl⟩
  rw [← hmU] at hcU HX
  rw [hU] at hcU
  clear hmU hU bU yU zU pU qU su A1 B10
  unfold saltS at hcU
  go_wp2_with fail
  refine HX.out.mono ?_
  rintro e w12 ⟨rfl, b12⟩
  have B12 : Hid (Below w.heap.size w w12) := B11.out.trans (b12.mono B11.out.size)
  clear b12 B11 HX hcU
  go_wp2_with fail
  refine (S1.out _ B12.out).mono ?_
  rintro e w13 ⟨rfl, b13⟩
  have B13 : Hid (Below w.heap.size w w13) := B12.out.trans (b13.mono B12.out.size)
  clear b13 B12
  go_wp2_with (first
    | (go_at_call 26; refine (Q4.out _).mono ?_; rintro e w' ⟨rfl, hw⟩; subst hw)
    | (go_at_call 17; refine (I5.out _ B13.out).mono ?_; rintro e w' ⟨rfl, hw⟩; subst hw)
    | (go_at_call 27; refine (S5.out _ B13.out).mono ?_; rintro e w' ⟨rfl, hw⟩; subst hw))
  go_ret
  exact ⟨rfl, B13.out⟩
end Go.Proofs.YtmhlanbmlkidhaaDoor
