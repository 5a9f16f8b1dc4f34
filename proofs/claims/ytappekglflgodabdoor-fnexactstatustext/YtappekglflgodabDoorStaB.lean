/- StatusText of the model. -/
import Derived.Test.YtappekglflgodabDoorStaA
import Derived.Deep.RegionHeld3
namespace Go.Proofs.YtappekglflgodabDoor
open Go.RowKit Go.PlainAid Go.Proofs.YtappekglflgodabDoor.Bt Go.Sort
set_option linter.unusedVariables false
set_option maxRecDepth 20000

structure KpT (w wx : World) : Prop where
  out : Below w.heap.size w wx
set_option maxHeartbeats 8000000 in
theorem l12Status_any (ua sa fa ra : Option Addr) (ul uc sl sc fl fc rl rc : Nat) (nx : Int) (us : List UserV) (ss : List SessV) (mac : ByteArray) (q now : Int) (w : World) (h : Rw SeR 10 w sa ss) (hl : ss.length = sl) (hu : Rw UsR 6 w ua us) (hul : us.length = ul) (hs3 : sl ≤ 3) (hB : ss.all (stB us.length) = true) (hn : 0 ≤ now ∧ now ≤ 100000) (hz : ∀ u ∈ us, u.nm.size ≤ 1048576) :
    Calls Tryd.prog 14 #[.agg #[.slice ua ul uc, .slice sa sl sc, .slice fa fl fc, .slice ra rl rc, .int .i64 nx], .string mac, .int .i64 q, .int .i64 now] w fun e w' => e = .returned (.string (stF us ss mac q now)) ∧ Below w.heap.size w w' := by
  have RS : Hid (Rw SeR 10 w sa ss) := h
  have RU : Hid (Rw UsR 6 w ua us) := hu
  have HA : Hid (∀ w, Rw SeR 10 w sa ss → Calls Tryd.prog 29 #[.agg #[.slice ua ul uc, .slice sa sl sc, .slice fa fl fc, .slice ra rl rc, .int .i64 nx], .string mac, .int .i64 q] w fun e w' => ∃ r : Int, e = .returned (.int .i64 r) ∧ ((r = -1 ∧ ss.find? (saP mac q) = none) ∨ ∃ (k : Nat) (s : SessV), r = k ∧ ss[k]? = some s ∧ ss.find? (saP mac q) = some s) ∧ Grw w w') := fun w h => l08At_any ua sa fa ra ul uc sl sc fl fc rl rc nx ss mac q w h hl hs3
  have HN : Hid (ss.find? (saP mac q) = none → stF us ss mac q now = ⟨#[110, 111, 32, 115, 101, 115, 115, 105, 111, 110]⟩) := fun h => by unfold stF; rw [h]
  have HY : Hid (∀ s, ss.find? (saP mac q) = some s → stF us ss mac q now = stT (stN us s.us) s now) := fun s h => by unfold stF; rw [h]
  have HB : Hid (∀ s, s ∈ ss → stB us.length s = true) := fun s hs => List.all_eq_true.1 hB s hs
  generalize stF us ss mac q now = Z at HN HY ⊢
  clear h hu hB
  obtain ⟨hn0, hn1⟩ := hn
  go_enter Tryd.func14, Tryd.ntmps14
  go_wp2_with fail
  refine (HA.out _ (RS.out.keep SeR.kp ((Grw.refl w).alloc _).below)).mono ?_
  rintro e w1 ⟨r, rfl, hr, g1⟩
  have k0 : w1.cell? ⟨w.heap.size, 0, none⟩ = some (.slice ua ul uc) := g1.keep (a := ⟨w.heap.size, 0, none⟩) (v := .slice ua ul uc) (by simp [go_sem])
  have k1 : w1.cell? ⟨w.heap.size, 1, none⟩ = some (.slice sa sl sc) := g1.keep (a := ⟨w.heap.size, 1, none⟩) (v := .slice sa sl sc) (by simp [go_sem])
  have BX : Hid (Grw w w1) := ((Grw.refl _).alloc _).trans g1
  clear g1 HA
  rcases hr with ⟨rfl, hf⟩ | ⟨k, s, rfl, hs, hf⟩
  · have hd : Hid (Z = ⟨#[110, 111, 32, 115, 101, 115, 115, 105, 111, 110]⟩) := HN.out hf
    clear hf HN HY
    go_wp2
    go_ret
    exact ⟨by rw [hd.out]; rfl, BX.out.below⟩
  · have hd : Z = stT (stN us s.us) s now := HY.out s hf
    have hks : k < sl := by have := (List.getElem?_eq_some_iff.1 hs).1; omega
    obtain ⟨⟨u0, u1⟩, ⟨i0, i1⟩, ⟨c0, c1⟩, ⟨d0, d1⟩, ⟨e0, e1⟩⟩ := stB_says (HB.out s (List.mem_of_getElem? hs))
    obtain ⟨n, u, hun, hua, hnm⟩ := stN_at (us := us) u0 u1
    have hnu : n < ul := by have := (List.getElem?_eq_some_iff.1 hua).1; omega
    have hsz := hz u (List.mem_of_getElem? hua)
    obtain ⟨b, off, vs, rfl, hb, hvl, hR, hc⟩ := RS.out.at SeR.kp BX.out.below hs
    obtain ⟨ub, uo, uvs, rfl, hub, huvl, huR, huc⟩ := RU.out.at UsR.kp BX.out.below hua
    obtain ⟨id, uid, mc, ip, be, la, ud, qu, un, il⟩ := s
    obtain ⟨rfl, -⟩ := hR
    obtain ⟨nm, sa2, ha2, ro2, bl2, lg2⟩ := u
    obtain ⟨rfl, -⟩ := huR
    dsimp only at *
    subst hun
    rw [hnm] at hd
    have m0 : w1.cell? ⟨ub, uo + n * 6, none⟩ = some (.string nm) := huc 0 _ rfl
    have q0 : w1.cell? ⟨b, off + k * 10, none⟩ = some (.int .i64 id) := hc 0 _ rfl
    have q1 : w1.cell? ⟨b, off + k * 10 + 1, none⟩ = some (.int .i64 (n : Int)) := hc 1 _ rfl
    have q2 : w1.cell? ⟨b, off + k * 10 + 2, none⟩ = some (.string mc) := hc 2 _ rfl
    have q3 : w1.cell? ⟨b, off + k * 10 + 3, none⟩ = some (.int .i64 ip) := hc 3 _ rfl
    have q4 : w1.cell? ⟨b, off + k * 10 + 4, none⟩ = some (.int .i64 be) := hc 4 _ rfl
    have q5 : w1.cell? ⟨b, off + k * 10 + 5, none⟩ = some (.int .i64 la) := hc 5 _ rfl
    have q6 : w1.cell? ⟨b, off + k * 10 + 6, none⟩ = some (.int .i64 ud) := hc 6 _ rfl
    have q7 : w1.cell? ⟨b, off + k * 10 + 7, none⟩ = some (.int .i64 qu) := hc 7 _ rfl
    have q8 : w1.cell? ⟨b, off + k * 10 + 8, none⟩ = some (.int .i64 un) := hc 8 _ rfl
    have q9 : w1.cell? ⟨b, off + k * 10 + 9, none⟩ = some (.int .i64 il) := hc 9 _ rfl
    have hkz : (k : Int) < (sl : Int) := by omega
    have hnz : (n : Int) < (ul : Int) := by omega
    clear hc huc hvl huvl hf hs hua HN HY HB hnm RS RU
    unfold stT at hd
    dsimp only at hd
    rcases Int.lt_or_le now un with hc | hc
    · have hM : (if un - now < 0 then 0 else un - now) = (un - now) := by rw [if_neg (by omega)]
      rw [hM] at hd
      have TD : ∀ (m : Int) (w : World), 0 ≤ m → m ≤ 1000000 → Calls Tryd.prog 30 #[.int .i64 m] w fun e w' => e = .returned (.string (stD m)) ∧ Below w.heap.size w w' := fun m w h0 h1 => by
        obtain ⟨p, rfl⟩ := Int.eq_ofNat_of_zero_le h0
        have := l00Digits_any p w (by omega)
        unfold stD
        rw [Int.toNat_natCast]
        exact this
      have T1 : Hid (∀ w, Calls Tryd.prog 30 #[.int .i64 id] w fun e w' => e = .returned (.string (stD id)) ∧ Below w.heap.size w w') := fun w => TD id w i0 (by omega)
      have T2 : Hid (∀ w, Calls Tryd.prog 30 #[.int .i64 (qu - ud)] w fun e w' => e = .returned (.string (stD (qu - ud))) ∧ Below w.heap.size w w') := fun w => TD _ w (by omega) (by omega)
      have T3 : Hid (∀ w, Calls Tryd.prog 30 #[.int .i64 (un - now)] w fun e w' => e = .returned (.string (stD (un - now))) ∧ Below w.heap.size w w') := fun w => TD (un - now) w (by omega) (by omega)
      have g1 := stD_size i0 (by omega : id ≤ 1000000)
      have g2 := stD_size (by omega : 0 ≤ qu - ud) (by omega)
      have g3 := stD_size (by omega : 0 ≤ ((un - now) : Int)) (by omega)
      generalize stD id = D1 at T1 g1 hd
      generalize stD (qu - ud) = D2 at T2 g2 hd
      generalize stD (un - now) = D3 at T3 g3 hd
      have zs1 : (⟨#[115, 101, 115, 115, 105, 111, 110, 32]⟩ : ByteArray).size = 8 := rfl
      have zs2 : (⟨#[32, 111, 102, 32]⟩ : ByteArray).size = 4 := rfl
      have zs3 : (⟨#[44, 32]⟩ : ByteArray).size = 2 := rfl
      have zs4 : (⟨#[32, 108, 101, 102, 116, 44, 32]⟩ : ByteArray).size = 7 := rfl
      have zs5 : (⟨#[32, 116, 105, 99, 107, 115]⟩ : ByteArray).size = 6 := rfl
      have ha0 : ∀ wx : World, (Op.stringOp .add (⟨#[115, 101, 115, 115, 105, 111, 110, 32]⟩) (D1)).run Tryd.prog wx = .ok (.string (⟨#[115, 101, 115, 115, 105, 111, 110, 32]⟩ ++ D1)) wx := fun wx => run_string_add_sum (P := Tryd.prog) (w := wx) _ _ (by (repeat rw [ByteArray.size_append]); omega)
      have ha1 : ∀ wx : World, (Op.stringOp .add (⟨#[115, 101, 115, 115, 105, 111, 110, 32]⟩ ++ D1) (⟨#[32, 111, 102, 32]⟩)).run Tryd.prog wx = .ok (.string (⟨#[115, 101, 115, 115, 105, 111, 110, 32]⟩ ++ D1 ++ ⟨#[32, 111, 102, 32]⟩)) wx := fun wx => run_string_add_sum (P := Tryd.prog) (w := wx) _ _ (by (repeat rw [ByteArray.size_append]); omega)
      have ha2 : ∀ wx : World, (Op.stringOp .add (⟨#[115, 101, 115, 115, 105, 111, 110, 32]⟩ ++ D1 ++ ⟨#[32, 111, 102, 32]⟩) (nm)).run Tryd.prog wx = .ok (.string (⟨#[115, 101, 115, 115, 105, 111, 110, 32]⟩ ++ D1 ++ ⟨#[32, 111, 102, 32]⟩ ++ nm)) wx := fun wx => run_string_add_sum (P := Tryd.prog) (w := wx) _ _ (by (repeat rw [ByteArray.size_append]); omega)
      have ha3 : ∀ wx : World, (Op.stringOp .add (⟨#[115, 101, 115, 115, 105, 111, 110, 32]⟩ ++ D1 ++ ⟨#[32, 111, 102, 32]⟩ ++ nm) (⟨#[44, 32]⟩)).run Tryd.prog wx = .ok (.string (⟨#[115, 101, 115, 115, 105, 111, 110, 32]⟩ ++ D1 ++ ⟨#[32, 111, 102, 32]⟩ ++ nm ++ ⟨#[44, 32]⟩)) wx := fun wx => run_string_add_sum (P := Tryd.prog) (w := wx) _ _ (by (repeat rw [ByteArray.size_append]); omega)
      have ha4 : ∀ wx : World, (Op.stringOp .add (⟨#[115, 101, 115, 115, 105, 111, 110, 32]⟩ ++ D1 ++ ⟨#[32, 111, 102, 32]⟩ ++ nm ++ ⟨#[44, 32]⟩) (D2)).run Tryd.prog wx = .ok (.string (⟨#[115, 101, 115, 115, 105, 111, 110, 32]⟩ ++ D1 ++ ⟨#[32, 111, 102, 32]⟩ ++ nm ++ ⟨#[44, 32]⟩ ++ D2)) wx := fun wx => run_string_add_sum (P := Tryd.prog) (w := wx) _ _ (by (repeat rw [ByteArray.size_append]); omega)
      have ha5 : ∀ wx : World, (Op.stringOp .add (⟨#[115, 101, 115, 115, 105, 111, 110, 32]⟩ ++ D1 ++ ⟨#[32, 111, 102, 32]⟩ ++ nm ++ ⟨#[44, 32]⟩ ++ D2) (⟨#[32, 108, 101, 102, 116, 44, 32]⟩)).run Tryd.prog wx = .ok (.string (⟨#[115, 101, 115, 115, 105, 111, 110, 32]⟩ ++ D1 ++ ⟨#[32, 111, 102, 32]⟩ ++ nm ++ ⟨#[44, 32]⟩ ++ D2 ++ ⟨#[32, 108, 101, 102, 116, 44, 32]⟩)) wx := fun wx => run_string_add_sum (P := Tryd.prog) (w := wx) _ _ (by (repeat rw [ByteArray.size_append]); omega)
      have ha6 : ∀ wx : World, (Op.stringOp .add (⟨#[115, 101, 115, 115, 105, 111, 110, 32]⟩ ++ D1 ++ ⟨#[32, 111, 102, 32]⟩ ++ nm ++ ⟨#[44, 32]⟩ ++ D2 ++ ⟨#[32, 108, 101, 102, 116, 44, 32]⟩) (D3)).run Tryd.prog wx = .ok (.string (⟨#[115, 101, 115, 115, 105, 111, 110, 32]⟩ ++ D1 ++ ⟨#[32, 111, 102, 32]⟩ ++ nm ++ ⟨#[44, 32]⟩ ++ D2 ++ ⟨#[32, 108, 101, 102, 116, 44, 32]⟩ ++ D3)) wx := fun wx => run_string_add_sum (P := Tryd.prog) (w := wx) _ _ (by (repeat rw [ByteArray.size_append]); omega)
      have ha7 : ∀ wx : World, (Op.stringOp .add (⟨#[115, 101, 115, 115, 105, 111, 110, 32]⟩ ++ D1 ++ ⟨#[32, 111, 102, 32]⟩ ++ nm ++ ⟨#[44, 32]⟩ ++ D2 ++ ⟨#[32, 108, 101, 102, 116, 44, 32]⟩ ++ D3) (⟨#[32, 116, 105, 99, 107, 115]⟩)).run Tryd.prog wx = .ok (.string (⟨#[115, 101, 115, 115, 105, 111, 110, 32]⟩ ++ D1 ++ ⟨#[32, 111, 102, 32]⟩ ++ nm ++ ⟨#[44, 32]⟩ ++ D2 ++ ⟨#[32, 108, 101, 102, 116, 44, 32]⟩ ++ D3 ++ ⟨#[32, 116, 105, 99, 107, 115]⟩)) wx := fun wx => run_string_add_sum (P := Tryd.prog) (w := wx) _ _ (by (repeat rw [ByteArray.size_append]); omega)
      have ew1 : IntKind.i64.wrap (qu - ud) = qu - ud := by rw [IntKind.wrap_i64]; omega
      have ew2 : IntKind.i64.wrap (un - now) = un - now := by rw [IntKind.wrap_i64]; omega
      have HZ : Hid (Z = _) := hd
      clear hd TD hM zs1 zs2 zs3 zs4 zs5 hsz
      have x0 : (w1.alloc (.cells #[.int .i64 id, .int .i64 (n : Int), .string mc, .int .i64 ip, .int .i64 be, .int .i64 la, .int .i64 ud, .int .i64 qu, .int .i64 un, .int .i64 il] 45)).cell? ⟨w1.heap.size, 0, none⟩ = some (.int .i64 id) := by simp
      have x1 : (w1.alloc (.cells #[.int .i64 id, .int .i64 (n : Int), .string mc, .int .i64 ip, .int .i64 be, .int .i64 la, .int .i64 ud, .int .i64 qu, .int .i64 un, .int .i64 il] 45)).cell? ⟨w1.heap.size, 1, none⟩ = some (.int .i64 (n : Int)) := by simp
      have x6 : (w1.alloc (.cells #[.int .i64 id, .int .i64 (n : Int), .string mc, .int .i64 ip, .int .i64 be, .int .i64 la, .int .i64 ud, .int .i64 qu, .int .i64 un, .int .i64 il] 45)).cell? ⟨w1.heap.size, 6, none⟩ = some (.int .i64 ud) := by simp
      have x7 : (w1.alloc (.cells #[.int .i64 id, .int .i64 (n : Int), .string mc, .int .i64 ip, .int .i64 be, .int .i64 la, .int .i64 ud, .int .i64 qu, .int .i64 un, .int .i64 il] 45)).cell? ⟨w1.heap.size, 7, none⟩ = some (.int .i64 qu) := by simp
      have x8 : (w1.alloc (.cells #[.int .i64 id, .int .i64 (n : Int), .string mc, .int .i64 ip, .int .i64 be, .int .i64 la, .int .i64 ud, .int .i64 qu, .int .i64 un, .int .i64 il] 45)).cell? ⟨w1.heap.size, 8, none⟩ = some (.int .i64 un) := by simp
      have k9 : (w1.alloc (.cells #[.int .i64 id, .int .i64 (n : Int), .string mc, .int .i64 ip, .int .i64 be, .int .i64 la, .int .i64 ud, .int .i64 qu, .int .i64 un, .int .i64 il] 45)).cell? ⟨w.heap.size, 0, none⟩ = some (.slice (some ⟨ub, uo, none⟩) ul uc) := acell k0 _
      have m9 : (w1.alloc (.cells #[.int .i64 id, .int .i64 (n : Int), .string mc, .int .i64 ip, .int .i64 be, .int .i64 la, .int .i64 ud, .int .i64 qu, .int .i64 un, .int .i64 il] 45)).cell? ⟨ub, uo + n * 6, none⟩ = some (.string nm) := acell m0 _
      have B2 : Hid (Below w.heap.size w (w1.alloc (.cells #[.int .i64 id, .int .i64 (n : Int), .string mc, .int .i64 ip, .int .i64 be, .int .i64 la, .int .i64 ud, .int .i64 qu, .int .i64 un, .int .i64 il] 45))) := (BX.out.alloc _).below
      go_wp2_with fail
      generalize hWW : (w1.alloc (.cells #[.int .i64 id, .int .i64 (n : Int), .string mc, .int .i64 ip, .int .i64 be, .int .i64 la, .int .i64 ud, .int .i64 qu, .int .i64 un, .int .i64 il] 45)) = w2 at B2 x0 x1 x6 x7 x8 k9 m9 ⊢
      clear hWW k0 k1 m0 q0 q1 q2 q3 q4 q5 q6 q7 q8 q9
      have SS : Hid (w2.drew.cell? ⟨w1.heap.size, 0, none⟩ = some (.int .i64 id) ∧ w2.drew.cell? ⟨w1.heap.size, 1, none⟩ = some (.int .i64 (n : Int)) ∧ w2.drew.cell? ⟨w1.heap.size, 6, none⟩ = some (.int .i64 ud) ∧ w2.drew.cell? ⟨w1.heap.size, 7, none⟩ = some (.int .i64 qu) ∧ w2.drew.cell? ⟨w1.heap.size, 8, none⟩ = some (.int .i64 un) ∧ w2.drew.cell? ⟨w.heap.size, 0, none⟩ = some (.slice (some ⟨ub, uo, none⟩) ul uc) ∧ w2.drew.cell? ⟨ub, uo + n * 6, none⟩ = some (.string nm) ∧ KpT w w2.drew) := ⟨by simp [x0], by simp [x1], by simp [x6], by simp [x7], by simp [x8], by simp [k9], by simp [m9], ⟨B2.out.drew⟩⟩
      have CB : Hid (∀ wx wy, Below wx.heap.size wx wy → (wx.cell? ⟨w1.heap.size, 0, none⟩ = some (.int .i64 id) ∧ wx.cell? ⟨w1.heap.size, 1, none⟩ = some (.int .i64 (n : Int)) ∧ wx.cell? ⟨w1.heap.size, 6, none⟩ = some (.int .i64 ud) ∧ wx.cell? ⟨w1.heap.size, 7, none⟩ = some (.int .i64 qu) ∧ wx.cell? ⟨w1.heap.size, 8, none⟩ = some (.int .i64 un) ∧ wx.cell? ⟨w.heap.size, 0, none⟩ = some (.slice (some ⟨ub, uo, none⟩) ul uc) ∧ wx.cell? ⟨ub, uo + n * 6, none⟩ = some (.string nm) ∧ KpT w wx) → (wy.cell? ⟨w1.heap.size, 0, none⟩ = some (.int .i64 id) ∧ wy.cell? ⟨w1.heap.size, 1, none⟩ = some (.int .i64 (n : Int)) ∧ wy.cell? ⟨w1.heap.size, 6, none⟩ = some (.int .i64 ud) ∧ wy.cell? ⟨w1.heap.size, 7, none⟩ = some (.int .i64 qu) ∧ wy.cell? ⟨w1.heap.size, 8, none⟩ = some (.int .i64 un) ∧ wy.cell? ⟨w.heap.size, 0, none⟩ = some (.slice (some ⟨ub, uo, none⟩) ul uc) ∧ wy.cell? ⟨ub, uo + n * 6, none⟩ = some (.string nm) ∧ KpT w wy)) := fun wx wy hb h => ⟨bkeep hb h.1, bkeep hb h.2.1, bkeep hb h.2.2.1, bkeep hb h.2.2.2.1, bkeep hb h.2.2.2.2.1, bkeep hb h.2.2.2.2.2.1, bkeep hb h.2.2.2.2.2.2.1, ⟨h.2.2.2.2.2.2.2.out.trans (hb.mono h.2.2.2.2.2.2.2.out.size)⟩⟩
      go_region_held3 (fun wx => wx.cell? ⟨w1.heap.size, 0, none⟩ = some (.int .i64 id) ∧ wx.cell? ⟨w1.heap.size, 1, none⟩ = some (.int .i64 (n : Int)) ∧ wx.cell? ⟨w1.heap.size, 6, none⟩ = some (.int .i64 ud) ∧ wx.cell? ⟨w1.heap.size, 7, none⟩ = some (.int .i64 qu) ∧ wx.cell? ⟨w1.heap.size, 8, none⟩ = some (.int .i64 un) ∧ wx.cell? ⟨w.heap.size, 0, none⟩ = some (.slice (some ⟨ub, uo, none⟩) ul uc) ∧ wx.cell? ⟨ub, uo + n * 6, none⟩ = some (.string nm) ∧ KpT w wx)
        (first | (with_reducible exact SS.out) | (with_reducible assumption) | (with_reducible exact CB.out _ _ b6 SS.out) | (with_reducible exact CB.out _ _ b6 (by assumption)) | (with_reducible exact CB.out _ _ b7 (by assumption)) | (with_reducible exact CB.out _ _ b8 (by assumption)) | fail)
        (first | (go_at_call 30; (with_reducible refine (T1.out _).mono ?_); rintro e w6 ⟨rfl, b6⟩) | (go_at_call 30; (with_reducible refine (T2.out _).mono ?_); rintro e w7 ⟨rfl, b7⟩) | (go_at_call 30; (with_reducible refine (T3.out _).mono ?_); rintro e w8 ⟨rfl, b8⟩))
      all_goals
        have hS8 : w8.cell? ⟨w1.heap.size, 0, none⟩ = some (.int .i64 id) ∧ w8.cell? ⟨w1.heap.size, 1, none⟩ = some (.int .i64 (n : Int)) ∧ w8.cell? ⟨w1.heap.size, 6, none⟩ = some (.int .i64 ud) ∧ w8.cell? ⟨w1.heap.size, 7, none⟩ = some (.int .i64 qu) ∧ w8.cell? ⟨w1.heap.size, 8, none⟩ = some (.int .i64 un) ∧ w8.cell? ⟨w.heap.size, 0, none⟩ = some (.slice (some ⟨ub, uo, none⟩) ul uc) ∧ w8.cell? ⟨ub, uo + n * 6, none⟩ = some (.string nm) ∧ KpT w w8 := by assumption
        have B8 : Hid (Below w.heap.size w w8) := hS8.2.2.2.2.2.2.2.out
        clear hS8
        go_wp2
        go_ret
        exact ⟨by rw [HZ.out]; rfl, B8.out⟩
    · have hc2 : ¬ now < un := by omega
      have hM : (if un - now < 0 then 0 else un - now) = 0 := by split <;> omega
      rw [hM] at hd
      have TD : ∀ (m : Int) (w : World), 0 ≤ m → m ≤ 1000000 → Calls Tryd.prog 30 #[.int .i64 m] w fun e w' => e = .returned (.string (stD m)) ∧ Below w.heap.size w w' := fun m w h0 h1 => by
        obtain ⟨p, rfl⟩ := Int.eq_ofNat_of_zero_le h0
        have := l00Digits_any p w (by omega)
        unfold stD
        rw [Int.toNat_natCast]
        exact this
      have T1 : Hid (∀ w, Calls Tryd.prog 30 #[.int .i64 id] w fun e w' => e = .returned (.string (stD id)) ∧ Below w.heap.size w w') := fun w => TD id w i0 (by omega)
      have T2 : Hid (∀ w, Calls Tryd.prog 30 #[.int .i64 (qu - ud)] w fun e w' => e = .returned (.string (stD (qu - ud))) ∧ Below w.heap.size w w') := fun w => TD _ w (by omega) (by omega)
      have T3 : Hid (∀ w, Calls Tryd.prog 30 #[.int .i64 0] w fun e w' => e = .returned (.string (stD 0)) ∧ Below w.heap.size w w') := fun w => TD 0 w (by omega) (by omega)
      have g1 := stD_size i0 (by omega : id ≤ 1000000)
      have g2 := stD_size (by omega : 0 ≤ qu - ud) (by omega)
      have g3 := stD_size (by omega : 0 ≤ (0 : Int)) (by omega)
      generalize stD id = D1 at T1 g1 hd
      generalize stD (qu - ud) = D2 at T2 g2 hd
      generalize stD 0 = D3 at T3 g3 hd
      have zs1 : (⟨#[115, 101, 115, 115, 105, 111, 110, 32]⟩ : ByteArray).size = 8 := rfl
      have zs2 : (⟨#[32, 111, 102, 32]⟩ : ByteArray).size = 4 := rfl
      have zs3 : (⟨#[44, 32]⟩ : ByteArray).size = 2 := rfl
      have zs4 : (⟨#[32, 108, 101, 102, 116, 44, 32]⟩ : ByteArray).size = 7 := rfl
      have zs5 : (⟨#[32, 116, 105, 99, 107, 115]⟩ : ByteArray).size = 6 := rfl
      have ha0 : ∀ wx : World, (Op.stringOp .add (⟨#[115, 101, 115, 115, 105, 111, 110, 32]⟩) (D1)).run Tryd.prog wx = .ok (.string (⟨#[115, 101, 115, 115, 105, 111, 110, 32]⟩ ++ D1)) wx := fun wx => run_string_add_sum (P := Tryd.prog) (w := wx) _ _ (by (repeat rw [ByteArray.size_append]); omega)
      have ha1 : ∀ wx : World, (Op.stringOp .add (⟨#[115, 101, 115, 115, 105, 111, 110, 32]⟩ ++ D1) (⟨#[32, 111, 102, 32]⟩)).run Tryd.prog wx = .ok (.string (⟨#[115, 101, 115, 115, 105, 111, 110, 32]⟩ ++ D1 ++ ⟨#[32, 111, 102, 32]⟩)) wx := fun wx => run_string_add_sum (P := Tryd.prog) (w := wx) _ _ (by (repeat rw [ByteArray.size_append]); omega)
      have ha2 : ∀ wx : World, (Op.stringOp .add (⟨#[115, 101, 115, 115, 105, 111, 110, 32]⟩ ++ D1 ++ ⟨#[32, 111, 102, 32]⟩) (nm)).run Tryd.prog wx = .ok (.string (⟨#[115, 101, 115, 115, 105, 111, 110, 32]⟩ ++ D1 ++ ⟨#[32, 111, 102, 32]⟩ ++ nm)) wx := fun wx => run_string_add_sum (P := Tryd.prog) (w := wx) _ _ (by (repeat rw [ByteArray.size_append]); omega)
      have ha3 : ∀ wx : World, (Op.stringOp .add (⟨#[115, 101, 115, 115, 105, 111, 110, 32]⟩ ++ D1 ++ ⟨#[32, 111, 102, 32]⟩ ++ nm) (⟨#[44, 32]⟩)).run Tryd.prog wx = .ok (.string (⟨#[115, 101, 115, 115, 105, 111, 110, 32]⟩ ++ D1 ++ ⟨#[32, 111, 102, 32]⟩ ++ nm ++ ⟨#[44, 32]⟩)) wx := fun wx => run_string_add_sum (P := Tryd.prog) (w := wx) _ _ (by (repeat rw [ByteArray.size_append]); omega)
      have ha4 : ∀ wx : World, (Op.stringOp .add (⟨#[115, 101, 115, 115, 105, 111, 110, 32]⟩ ++ D1 ++ ⟨#[32, 111, 102, 32]⟩ ++ nm ++ ⟨#[44, 32]⟩) (D2)).run Tryd.prog wx = .ok (.string (⟨#[115, 101, 115, 115, 105, 111, 110, 32]⟩ ++ D1 ++ ⟨#[32, 111, 102, 32]⟩ ++ nm ++ ⟨#[44, 32]⟩ ++ D2)) wx := fun wx => run_string_add_sum (P := Tryd.prog) (w := wx) _ _ (by (repeat rw [ByteArray.size_append]); omega)
      have ha5 : ∀ wx : World, (Op.stringOp .add (⟨#[115, 101, 115, 115, 105, 111, 110, 32]⟩ ++ D1 ++ ⟨#[32, 111, 102, 32]⟩ ++ nm ++ ⟨#[44, 32]⟩ ++ D2) (⟨#[32, 108, 101, 102, 116, 44, 32]⟩)).run Tryd.prog wx = .ok (.string (⟨#[115, 101, 115, 115, 105, 111, 110, 32]⟩ ++ D1 ++ ⟨#[32, 111, 102, 32]⟩ ++ nm ++ ⟨#[44, 32]⟩ ++ D2 ++ ⟨#[32, 108, 101, 102, 116, 44, 32]⟩)) wx := fun wx => run_string_add_sum (P := Tryd.prog) (w := wx) _ _ (by (repeat rw [ByteArray.size_append]); omega)
      have ha6 : ∀ wx : World, (Op.stringOp .add (⟨#[115, 101, 115, 115, 105, 111, 110, 32]⟩ ++ D1 ++ ⟨#[32, 111, 102, 32]⟩ ++ nm ++ ⟨#[44, 32]⟩ ++ D2 ++ ⟨#[32, 108, 101, 102, 116, 44, 32]⟩) (D3)).run Tryd.prog wx = .ok (.string (⟨#[115, 101, 115, 115, 105, 111, 110, 32]⟩ ++ D1 ++ ⟨#[32, 111, 102, 32]⟩ ++ nm ++ ⟨#[44, 32]⟩ ++ D2 ++ ⟨#[32, 108, 101, 102, 116, 44, 32]⟩ ++ D3)) wx := fun wx => run_string_add_sum (P := Tryd.prog) (w := wx) _ _ (by (repeat rw [ByteArray.size_append]); omega)
      have ha7 : ∀ wx : World, (Op.stringOp .add (⟨#[115, 101, 115, 115, 105, 111, 110, 32]⟩ ++ D1 ++ ⟨#[32, 111, 102, 32]⟩ ++ nm ++ ⟨#[44, 32]⟩ ++ D2 ++ ⟨#[32, 108, 101, 102, 116, 44, 32]⟩ ++ D3) (⟨#[32, 116, 105, 99, 107, 115]⟩)).run Tryd.prog wx = .ok (.string (⟨#[115, 101, 115, 115, 105, 111, 110, 32]⟩ ++ D1 ++ ⟨#[32, 111, 102, 32]⟩ ++ nm ++ ⟨#[44, 32]⟩ ++ D2 ++ ⟨#[32, 108, 101, 102, 116, 44, 32]⟩ ++ D3 ++ ⟨#[32, 116, 105, 99, 107, 115]⟩)) wx := fun wx => run_string_add_sum (P := Tryd.prog) (w := wx) _ _ (by (repeat rw [ByteArray.size_append]); omega)
      have ew1 : IntKind.i64.wrap (qu - ud) = qu - ud := by rw [IntKind.wrap_i64]; omega
      have ew2 : IntKind.i64.wrap (un - now) = un - now := by rw [IntKind.wrap_i64]; omega
      have HZ : Hid (Z = _) := hd
      have hci : (if now < un then un - now else 0) = 0 := if_neg hc2
      clear hd TD hM zs1 zs2 zs3 zs4 zs5 hsz
      have x0 : (w1.alloc (.cells #[.int .i64 id, .int .i64 (n : Int), .string mc, .int .i64 ip, .int .i64 be, .int .i64 la, .int .i64 ud, .int .i64 qu, .int .i64 un, .int .i64 il] 45)).cell? ⟨w1.heap.size, 0, none⟩ = some (.int .i64 id) := by simp
      have x1 : (w1.alloc (.cells #[.int .i64 id, .int .i64 (n : Int), .string mc, .int .i64 ip, .int .i64 be, .int .i64 la, .int .i64 ud, .int .i64 qu, .int .i64 un, .int .i64 il] 45)).cell? ⟨w1.heap.size, 1, none⟩ = some (.int .i64 (n : Int)) := by simp
      have x6 : (w1.alloc (.cells #[.int .i64 id, .int .i64 (n : Int), .string mc, .int .i64 ip, .int .i64 be, .int .i64 la, .int .i64 ud, .int .i64 qu, .int .i64 un, .int .i64 il] 45)).cell? ⟨w1.heap.size, 6, none⟩ = some (.int .i64 ud) := by simp
      have x7 : (w1.alloc (.cells #[.int .i64 id, .int .i64 (n : Int), .string mc, .int .i64 ip, .int .i64 be, .int .i64 la, .int .i64 ud, .int .i64 qu, .int .i64 un, .int .i64 il] 45)).cell? ⟨w1.heap.size, 7, none⟩ = some (.int .i64 qu) := by simp
      have x8 : (w1.alloc (.cells #[.int .i64 id, .int .i64 (n : Int), .string mc, .int .i64 ip, .int .i64 be, .int .i64 la, .int .i64 ud, .int .i64 qu, .int .i64 un, .int .i64 il] 45)).cell? ⟨w1.heap.size, 8, none⟩ = some (.int .i64 un) := by simp
      have k9 : (w1.alloc (.cells #[.int .i64 id, .int .i64 (n : Int), .string mc, .int .i64 ip, .int .i64 be, .int .i64 la, .int .i64 ud, .int .i64 qu, .int .i64 un, .int .i64 il] 45)).cell? ⟨w.heap.size, 0, none⟩ = some (.slice (some ⟨ub, uo, none⟩) ul uc) := acell k0 _
      have m9 : (w1.alloc (.cells #[.int .i64 id, .int .i64 (n : Int), .string mc, .int .i64 ip, .int .i64 be, .int .i64 la, .int .i64 ud, .int .i64 qu, .int .i64 un, .int .i64 il] 45)).cell? ⟨ub, uo + n * 6, none⟩ = some (.string nm) := acell m0 _
      have B2 : Hid (Below w.heap.size w (w1.alloc (.cells #[.int .i64 id, .int .i64 (n : Int), .string mc, .int .i64 ip, .int .i64 be, .int .i64 la, .int .i64 ud, .int .i64 qu, .int .i64 un, .int .i64 il] 45))) := (BX.out.alloc _).below
      go_wp2_with fail
      generalize hWW : (w1.alloc (.cells #[.int .i64 id, .int .i64 (n : Int), .string mc, .int .i64 ip, .int .i64 be, .int .i64 la, .int .i64 ud, .int .i64 qu, .int .i64 un, .int .i64 il] 45)) = w2 at B2 x0 x1 x6 x7 x8 k9 m9 ⊢
      clear hWW k0 k1 m0 q0 q1 q2 q3 q4 q5 q6 q7 q8 q9
      have SS : Hid (w2.drew.cell? ⟨w1.heap.size, 0, none⟩ = some (.int .i64 id) ∧ w2.drew.cell? ⟨w1.heap.size, 1, none⟩ = some (.int .i64 (n : Int)) ∧ w2.drew.cell? ⟨w1.heap.size, 6, none⟩ = some (.int .i64 ud) ∧ w2.drew.cell? ⟨w1.heap.size, 7, none⟩ = some (.int .i64 qu) ∧ w2.drew.cell? ⟨w1.heap.size, 8, none⟩ = some (.int .i64 un) ∧ w2.drew.cell? ⟨w.heap.size, 0, none⟩ = some (.slice (some ⟨ub, uo, none⟩) ul uc) ∧ w2.drew.cell? ⟨ub, uo + n * 6, none⟩ = some (.string nm) ∧ KpT w w2.drew) := ⟨by simp [x0], by simp [x1], by simp [x6], by simp [x7], by simp [x8], by simp [k9], by simp [m9], ⟨B2.out.drew⟩⟩
      have CB : Hid (∀ wx wy, Below wx.heap.size wx wy → (wx.cell? ⟨w1.heap.size, 0, none⟩ = some (.int .i64 id) ∧ wx.cell? ⟨w1.heap.size, 1, none⟩ = some (.int .i64 (n : Int)) ∧ wx.cell? ⟨w1.heap.size, 6, none⟩ = some (.int .i64 ud) ∧ wx.cell? ⟨w1.heap.size, 7, none⟩ = some (.int .i64 qu) ∧ wx.cell? ⟨w1.heap.size, 8, none⟩ = some (.int .i64 un) ∧ wx.cell? ⟨w.heap.size, 0, none⟩ = some (.slice (some ⟨ub, uo, none⟩) ul uc) ∧ wx.cell? ⟨ub, uo + n * 6, none⟩ = some (.string nm) ∧ KpT w wx) → (wy.cell? ⟨w1.heap.size, 0, none⟩ = some (.int .i64 id) ∧ wy.cell? ⟨w1.heap.size, 1, none⟩ = some (.int .i64 (n : Int)) ∧ wy.cell? ⟨w1.heap.size, 6, none⟩ = some (.int .i64 ud) ∧ wy.cell? ⟨w1.heap.size, 7, none⟩ = some (.int .i64 qu) ∧ wy.cell? ⟨w1.heap.size, 8, none⟩ = some (.int .i64 un) ∧ wy.cell? ⟨w.heap.size, 0, none⟩ = some (.slice (some ⟨ub, uo, none⟩) ul uc) ∧ wy.cell? ⟨ub, uo + n * 6, none⟩ = some (.string nm) ∧ KpT w wy)) := fun wx wy hb h => ⟨bkeep hb h.1, bkeep hb h.2.1, bkeep hb h.2.2.1, bkeep hb h.2.2.2.1, bkeep hb h.2.2.2.2.1, bkeep hb h.2.2.2.2.2.1, bkeep hb h.2.2.2.2.2.2.1, ⟨h.2.2.2.2.2.2.2.out.trans (hb.mono h.2.2.2.2.2.2.2.out.size)⟩⟩
      go_region_held3 (fun wx => wx.cell? ⟨w1.heap.size, 0, none⟩ = some (.int .i64 id) ∧ wx.cell? ⟨w1.heap.size, 1, none⟩ = some (.int .i64 (n : Int)) ∧ wx.cell? ⟨w1.heap.size, 6, none⟩ = some (.int .i64 ud) ∧ wx.cell? ⟨w1.heap.size, 7, none⟩ = some (.int .i64 qu) ∧ wx.cell? ⟨w1.heap.size, 8, none⟩ = some (.int .i64 un) ∧ wx.cell? ⟨w.heap.size, 0, none⟩ = some (.slice (some ⟨ub, uo, none⟩) ul uc) ∧ wx.cell? ⟨ub, uo + n * 6, none⟩ = some (.string nm) ∧ KpT w wx)
        (first | (with_reducible exact SS.out) | (with_reducible assumption) | (with_reducible exact CB.out _ _ b6 SS.out) | (with_reducible exact CB.out _ _ b6 (by assumption)) | (with_reducible exact CB.out _ _ b7 (by assumption)) | (with_reducible exact CB.out _ _ b8 (by assumption)) | fail)
        (first | (go_at_call 30; (with_reducible refine (T1.out _).mono ?_); rintro e w6 ⟨rfl, b6⟩) | (go_at_call 30; (with_reducible refine (T2.out _).mono ?_); rintro e w7 ⟨rfl, b7⟩) | (go_at_call 30; (with_reducible refine (T3.out _).mono ?_); rintro e w8 ⟨rfl, b8⟩))
      all_goals
        have hS8 : w8.cell? ⟨w1.heap.size, 0, none⟩ = some (.int .i64 id) ∧ w8.cell? ⟨w1.heap.size, 1, none⟩ = some (.int .i64 (n : Int)) ∧ w8.cell? ⟨w1.heap.size, 6, none⟩ = some (.int .i64 ud) ∧ w8.cell? ⟨w1.heap.size, 7, none⟩ = some (.int .i64 qu) ∧ w8.cell? ⟨w1.heap.size, 8, none⟩ = some (.int .i64 un) ∧ w8.cell? ⟨w.heap.size, 0, none⟩ = some (.slice (some ⟨ub, uo, none⟩) ul uc) ∧ w8.cell? ⟨ub, uo + n * 6, none⟩ = some (.string nm) ∧ KpT w w8 := by assumption
        have B8 : Hid (Below w.heap.size w w8) := hS8.2.2.2.2.2.2.2.out
        clear hS8
        go_wp2
        go_ret
        exact ⟨by rw [HZ.out]; rfl, B8.out⟩
end Go.Proofs.YtappekglflgodabDoor
