/- StatusText of the program, at every argument. -/
import Derived.Test.YtappekglflgodabDoorStaD
namespace Go.Proofs.YtappekglflgodabDoor
open Go.RowKit Go.PlainAid Go.Proofs.YtappekglflgodabDoor.Bt Go.Sort
set_option linter.unusedVariables false
set_option maxRecDepth 20000

set_option maxHeartbeats 8000000 in
theorem implSt_any (ua sa fa ra : Option Addr) (ul uc sl sc fl fc rl rc : Nat) (nx : Int) (us : List UserV) (ss : List SessV) (mac : ByteArray) (q now : Int) (w : World) (h : Rw SeR 10 w sa ss) (hl : ss.length = sl) (hu : Rw UsR 6 w ua us) (hul : us.length = ul) (hm : mac.size ≤ 1048576) (hz : ∀ u ∈ us, u.nm.size ≤ 1048576) (hulz : ul ≤ 1048576) (hslz : sl ≤ 1048576) (ht : Tens w.heap.size w) :
    Calls Tryd.prog 7 #[.agg #[.slice ua ul uc, .slice sa sl sc, .slice fa fl fc, .slice ra rl rc, .int .i64 nx], .string mac, .int .i64 q, .int .i64 now] w fun e w' => e = .returned (.tuple #[.string (stS us ss mac q now), .int .i64 (stC us ss mac now)]) ∧ Below w.heap.size w w' := by
  have HT9 : Hid (Tens w.heap.size w) := ht
  clear ht
  have RS : Hid (Rw SeR 10 w sa ss) := h
  have RU : Hid (Rw UsR 6 w ua us) := hu
  clear h hu
  by_cases h1 : 65536 < mac.size
  · obtain ⟨ec, es⟩ := st_long (us := us) (ss := ss) (q := q) (now := now) h1
    rw [ec, es]
    have h1z : (65536 : Int) < (mac.size : Int) := by omega
    go_enter Tryd.func7, Tryd.ntmps7
    go_wp2
    go_ret2
    exact ⟨rfl, ((Grw.refl _).alloc _).below⟩
  have h1z : (mac.size : Int) ≤ 65536 := by omega
  have TE : Hid (∀ w, Rw SeR 10 w sa ss → Calls Tryd.prog 19 #[.agg #[.slice ua ul uc, .slice sa sl sc, .slice fa fl fc, .slice ra rl rc, .int .i64 nx]] w fun e w' => e = .returned (.bool (!decide (3 < ss.length) && ss.all (stB us.length))) ∧ Grw w w') := fun w h => tellable_any ua sa fa ra ul uc sl sc fl fc rl rc nx us ss w h hl hul hulz hslz
  have TN : Hid (∀ w, Calls Tryd.prog 20 #[.int .i64 now] w fun e w' => e = .returned (.bool (dec (0 ≤ now ∧ now ≤ 100000))) ∧ w' = w) := fun w => timeOK_any now w
  by_cases h2 : 3 < ss.length
  · obtain ⟨ec, es⟩ := st_many (us := us) (q := q) (now := now) h1 h2
    rw [ec, es]
    rw [decide_eq_true h2] at TE
    clear ec es h1
    have hf9 : (!true && ss.all (stB us.length)) = false := rfl
    go_enter Tryd.func7, Tryd.ntmps7
    go_wp2_with fail
    refine (TE.out _ (RS.out.keep SeR.kp ((Grw.refl w).alloc _).below)).mono ?_
    rintro e w1 ⟨rfl, g1⟩
    have BX : Hid (Grw w w1) := ((Grw.refl _).alloc _).trans g1
    clear g1
    go_wp2
    go_ret2
    exact ⟨rfl, BX.out.below⟩
  by_cases hb : ss.all (stB us.length) = true
  rotate_left
  · obtain ⟨ec, es⟩ := st_bad (us := us) (q := q) (now := now) h1 h2 (by simpa using hb)
    rw [ec, es]
    rw [decide_eq_false h2, (by simpa using hb : ss.all (stB us.length) = false)] at TE
    clear ec es h1
    have hf9 : (!true && ss.all (stB us.length)) = false := rfl
    go_enter Tryd.func7, Tryd.ntmps7
    go_wp2_with fail
    refine (TE.out _ (RS.out.keep SeR.kp ((Grw.refl w).alloc _).below)).mono ?_
    rintro e w1 ⟨rfl, g1⟩
    have BX : Hid (Grw w w1) := ((Grw.refl _).alloc _).trans g1
    clear g1
    go_wp2
    go_ret2
    exact ⟨rfl, BX.out.below⟩
  rw [decide_eq_false h2, hb] at TE
  by_cases hn : 0 ≤ now ∧ now ≤ 100000
  rotate_left
  · obtain ⟨ec, es⟩ := st_range (us := us) (q := q) (now := now) h1 h2 hb hn
    rw [ec, es]
    rw [dec_n hn] at TN
    clear ec es h1
    go_enter Tryd.func7, Tryd.ntmps7
    go_wp2_with fail
    refine (TE.out _ (RS.out.keep SeR.kp ((Grw.refl w).alloc _).below)).mono ?_
    rintro e w1 ⟨rfl, g1⟩
    have BX : Hid (Grw w w1) := ((Grw.refl _).alloc _).trans g1
    clear g1
    go_wp2_with fail
    refine (TN.out _).mono ?_
    rintro e w1 ⟨rfl, hw⟩
    subst hw
    go_wp2
    go_ret2
    exact ⟨rfl, BX.out.below⟩
  obtain ⟨ec, es⟩ := st_ok (us := us) (q := q) (now := now) h1 h2 hb hn
  rw [ec, es]
  rw [dec_y hn] at TN
  clear ec es h1
  have h2z : (sl : Int) ≤ 3 := by omega
  have NF : Hid (ss.find? (saP mac q) = none → stF us ss mac q now = ⟨#[110, 111, 32, 115, 101, 115, 115, 105, 111, 110]⟩) := fun h => by unfold stF; rw [h]
  have YF : Hid (∀ s, ss.find? (saP mac q) = some s → stF us ss mac q now = stT (stN us s.us) s now) := fun s h => by unfold stF; rw [h]
  have HB : Hid (∀ s, s ∈ ss → stB us.length s = true) := fun s hs => List.all_eq_true.1 hb s hs
  have TX : Hid (∀ (nm : ByteArray) (id uid : Int) (mc : ByteArray) (ip be la ud qu un il : Int) (w : World), 0 ≤ id ∧ id ≤ 10000 → 0 ≤ qu ∧ qu ≤ 1000000 → 0 ≤ ud ∧ ud ≤ qu → 0 ≤ un ∧ un ≤ 101000 → nm.size ≤ 1048576 → Tens w.heap.size w → Calls Tryd.prog 21 #[.agg #[.int .i64 id, .int .i64 uid, .string mc, .int .i64 ip, .int .i64 be, .int .i64 la, .int .i64 ud, .int .i64 qu, .int .i64 un, .int .i64 il], .string nm, .int .i64 now] w fun e w' => e = .returned (.string (stT nm ⟨id, uid, mc, ip, be, la, ud, qu, un, il⟩ now)) ∧ Grw w w') := fun nm id uid mc ip be la ud qu un il w a1 a2 a3 a4 a5 a6 => sessText_any nm id uid mc ip be la ud qu un il now w a1 a2 a3 a4 hn a5 a6
  obtain ⟨hn0, hn1⟩ := hn
  generalize stF us ss mac q now = Z at NF YF ⊢
  clear h2 hb
  go_enter Tryd.func7, Tryd.ntmps7
  go_wp2_with fail
  refine (TE.out _ (RS.out.keep SeR.kp ((Grw.refl w).alloc _).below)).mono ?_
  rintro e w1 ⟨rfl, g1⟩
  have BX : Hid (Grw w w1) := ((Grw.refl _).alloc _).trans g1
  have k0 : w1.cell? ⟨w.heap.size, 0, none⟩ = some (.slice ua ul uc) := g1.keep (a := ⟨w.heap.size, 0, none⟩) (v := .slice ua ul uc) (by simp [go_sem])
  have k1 : w1.cell? ⟨w.heap.size, 1, none⟩ = some (.slice sa sl sc) := g1.keep (a := ⟨w.heap.size, 1, none⟩) (v := .slice sa sl sc) (by simp [go_sem])
  clear g1 TE
  go_wp2_with fail
  refine (TN.out _).mono ?_
  rintro e w1 ⟨rfl, hw⟩
  subst hw
  clear TN
  go_wp2
  go_loopw [24] (fun x wr => ∃ k : Nat, k ≤ sl ∧ x = .int .i64 k ∧ Hid ((ss.take k).find? (saP mac q) = none) ∧ Hid (Grw w wr ∧ wr.cell? ⟨w.heap.size, 0, none⟩ = some (.slice ua ul uc))) (fun x _ => sl - (intOf x).toNat)
  case atStart => exact ⟨0, Nat.zero_le _, rfl, rfl, BX.out, k0⟩
  case round =>
    obtain ⟨k, hk, rfl, HO, HG⟩ := hrel
    have gs0 := HG.out.2
    by_cases hlt : k < sl
    · obtain ⟨x, hx⟩ := at_of hl hlt
      obtain ⟨b, off, vs, rfl, hbz, hvl, hR, hc⟩ := RS.out.at SeR.kp HG.out.1.below hx
      have HY : Hid (saP mac q x = true → Z = stT (stN us x.us) x now) := fun h => YF.out _ (find_yes hx HO.out h)
      have HN : Hid (saP mac q x = false → (ss.take (k + 1)).find? (saP mac q) = none) := fun h => find_no hx HO.out h
      obtain ⟨⟨u0, u1⟩, B2, B3, B4, B5⟩ := stB_says (HB.out x (List.mem_of_getElem? hx))
      obtain ⟨n, u, hun, hua, hnm⟩ := stN_at (us := us) u0 u1
      have hnu : n < ul := by have := (List.getElem?_eq_some_iff.1 hua).1; omega
      have hsz := hz u (List.mem_of_getElem? hua)
      obtain ⟨ub, uo, uvs, rfl, hub, huvl, huR, huc⟩ := RU.out.at UsR.kp HG.out.1.below hua
      clear hx
      obtain ⟨id, uid, mc, ip, be, la, ud, qu, un, il⟩ := x
      obtain ⟨rfl, -⟩ := hR
      obtain ⟨nm, sa2, ha2, ro2, bl2, lg2⟩ := u
      obtain ⟨rfl, -⟩ := huR
      have hsap : saP mac q ⟨id, uid, mc, ip, be, la, ud, qu, un, il⟩ = ((mc.toList == mac.toList) && (ip == q)) := rfl
      rw [hsap] at HY HN
      dsimp only at hun hnm u0 u1 B2 B3 B4 B5 HY hsz
      subst hun
      rw [hnm] at HY
      have m0 : wr.cell? ⟨ub, uo + n * 6, none⟩ = some (.string nm) := huc 0 _ rfl
      have q0 : wr.cell? ⟨b, off + k * 10, none⟩ = some (.int .i64 id) := hc 0 _ rfl
      have q1 : wr.cell? ⟨b, off + k * 10 + 1, none⟩ = some (.int .i64 (n : Int)) := hc 1 _ rfl
      have q2 : wr.cell? ⟨b, off + k * 10 + 2, none⟩ = some (.string mc) := hc 2 _ rfl
      have q3 : wr.cell? ⟨b, off + k * 10 + 3, none⟩ = some (.int .i64 ip) := hc 3 _ rfl
      have q4 : wr.cell? ⟨b, off + k * 10 + 4, none⟩ = some (.int .i64 be) := hc 4 _ rfl
      have q5 : wr.cell? ⟨b, off + k * 10 + 5, none⟩ = some (.int .i64 la) := hc 5 _ rfl
      have q6 : wr.cell? ⟨b, off + k * 10 + 6, none⟩ = some (.int .i64 ud) := hc 6 _ rfl
      have q7 : wr.cell? ⟨b, off + k * 10 + 7, none⟩ = some (.int .i64 qu) := hc 7 _ rfl
      have q8 : wr.cell? ⟨b, off + k * 10 + 8, none⟩ = some (.int .i64 un) := hc 8 _ rfl
      have q9 : wr.cell? ⟨b, off + k * 10 + 9, none⟩ = some (.int .i64 il) := hc 9 _ rfl
      have hltz : (k : Int) < (sl : Int) := by omega
      have hnz : (n : Int) < (ul : Int) := by omega
      obtain ⟨uu, hu⟩ : ∃ uu, (mc.toList == mac.toList) = uu := ⟨_, rfl⟩
      obtain ⟨v, hv⟩ : ∃ v, (ip == q) = v := ⟨_, rfl⟩
      rw [hu, hv] at HY HN
      clear hc hvl hsap huc huvl hnm hua
      have HG1 : Hid (Grw w (wr.alloc (.cells #[.int .i64 id, .int .i64 (n : Int), .string mc, .int .i64 ip, .int .i64 be, .int .i64 la, .int .i64 ud, .int .i64 qu, .int .i64 un, .int .i64 il] 45)) ∧ (wr.alloc (.cells #[.int .i64 id, .int .i64 (n : Int), .string mc, .int .i64 ip, .int .i64 be, .int .i64 la, .int .i64 ud, .int .i64 qu, .int .i64 un, .int .i64 il] 45)).cell? ⟨w.heap.size, 0, none⟩ = some (.slice (some ⟨ub, uo, none⟩) ul uc)) := ⟨HG.out.1.alloc _, acell gs0 _⟩
      cases uu with
      | false =>
        have HN' : Hid ((ss.take (k + 1)).find? (saP mac q) = none) := HN.out rfl
        clear HY HN
        go_wp2
        go_roundw
        case rel => exact ⟨k + 1, by omega, by go_num, HN', HG1⟩
        case measure => simp [intOf]; omega
      | true =>
        cases v with
        | false =>
          have HN' : Hid ((ss.take (k + 1)).find? (saP mac q) = none) := HN.out rfl
          clear HY HN
          go_wp2
          go_roundw
          case rel => exact ⟨k + 1, by omega, by go_num, HN', HG1⟩
          case measure => simp [intOf]; omega
        | true =>
          have HY' : Hid (Z = stT nm ⟨id, (n : Int), mc, ip, be, la, ud, qu, un, il⟩ now) := HY.out rfl
          clear HY HN
          have TX9 : Hid (∀ w : World, Tens w.heap.size w → Calls Tryd.prog 21 #[.agg #[.int .i64 id, .int .i64 (n : Int), .string mc, .int .i64 ip, .int .i64 be, .int .i64 la, .int .i64 ud, .int .i64 qu, .int .i64 un, .int .i64 il], .string nm, .int .i64 now] w fun e w' => e = .returned (.string (stT nm ⟨id, (n : Int), mc, ip, be, la, ud, qu, un, il⟩ now)) ∧ Grw w w') := fun w h => TX.out nm id n mc ip be la ud qu un il w B2 B3 B4 B5 hsz h
          clear TX
          have x0 : (wr.alloc (.cells #[.int .i64 id, .int .i64 (n : Int), .string mc, .int .i64 ip, .int .i64 be, .int .i64 la, .int .i64 ud, .int .i64 qu, .int .i64 un, .int .i64 il] 45)).cell? ⟨wr.heap.size, 0, none⟩ = some (.int .i64 id) := by simp
          have x1 : (wr.alloc (.cells #[.int .i64 id, .int .i64 (n : Int), .string mc, .int .i64 ip, .int .i64 be, .int .i64 la, .int .i64 ud, .int .i64 qu, .int .i64 un, .int .i64 il] 45)).cell? ⟨wr.heap.size, 1, none⟩ = some (.int .i64 (n : Int)) := by simp
          have x2 : (wr.alloc (.cells #[.int .i64 id, .int .i64 (n : Int), .string mc, .int .i64 ip, .int .i64 be, .int .i64 la, .int .i64 ud, .int .i64 qu, .int .i64 un, .int .i64 il] 45)).cell? ⟨wr.heap.size, 2, none⟩ = some (.string mc) := by simp
          have x3 : (wr.alloc (.cells #[.int .i64 id, .int .i64 (n : Int), .string mc, .int .i64 ip, .int .i64 be, .int .i64 la, .int .i64 ud, .int .i64 qu, .int .i64 un, .int .i64 il] 45)).cell? ⟨wr.heap.size, 3, none⟩ = some (.int .i64 ip) := by simp
          have x4 : (wr.alloc (.cells #[.int .i64 id, .int .i64 (n : Int), .string mc, .int .i64 ip, .int .i64 be, .int .i64 la, .int .i64 ud, .int .i64 qu, .int .i64 un, .int .i64 il] 45)).cell? ⟨wr.heap.size, 4, none⟩ = some (.int .i64 be) := by simp
          have x5 : (wr.alloc (.cells #[.int .i64 id, .int .i64 (n : Int), .string mc, .int .i64 ip, .int .i64 be, .int .i64 la, .int .i64 ud, .int .i64 qu, .int .i64 un, .int .i64 il] 45)).cell? ⟨wr.heap.size, 5, none⟩ = some (.int .i64 la) := by simp
          have x6 : (wr.alloc (.cells #[.int .i64 id, .int .i64 (n : Int), .string mc, .int .i64 ip, .int .i64 be, .int .i64 la, .int .i64 ud, .int .i64 qu, .int .i64 un, .int .i64 il] 45)).cell? ⟨wr.heap.size, 6, none⟩ = some (.int .i64 ud) := by simp
          have x7 : (wr.alloc (.cells #[.int .i64 id, .int .i64 (n : Int), .string mc, .int .i64 ip, .int .i64 be, .int .i64 la, .int .i64 ud, .int .i64 qu, .int .i64 un, .int .i64 il] 45)).cell? ⟨wr.heap.size, 7, none⟩ = some (.int .i64 qu) := by simp
          have x8 : (wr.alloc (.cells #[.int .i64 id, .int .i64 (n : Int), .string mc, .int .i64 ip, .int .i64 be, .int .i64 la, .int .i64 ud, .int .i64 qu, .int .i64 un, .int .i64 il] 45)).cell? ⟨wr.heap.size, 8, none⟩ = some (.int .i64 un) := by simp
          have x9 : (wr.alloc (.cells #[.int .i64 id, .int .i64 (n : Int), .string mc, .int .i64 ip, .int .i64 be, .int .i64 la, .int .i64 ud, .int .i64 qu, .int .i64 un, .int .i64 il] 45)).cell? ⟨wr.heap.size, 9, none⟩ = some (.int .i64 il) := by simp
          have x10 : (wr.alloc (.cells #[.int .i64 id, .int .i64 (n : Int), .string mc, .int .i64 ip, .int .i64 be, .int .i64 la, .int .i64 ud, .int .i64 qu, .int .i64 un, .int .i64 il] 45)).cell? ⟨w.heap.size, 0, none⟩ = some (.slice (some ⟨ub, uo, none⟩) ul uc) := HG1.out.2
          have x11 : (wr.alloc (.cells #[.int .i64 id, .int .i64 (n : Int), .string mc, .int .i64 ip, .int .i64 be, .int .i64 la, .int .i64 ud, .int .i64 qu, .int .i64 un, .int .i64 il] 45)).cell? ⟨ub, uo + n * 6, none⟩ = some (.string nm) := acell m0 _
          go_wp2_with fail
          generalize (wr.alloc (.cells #[.int .i64 id, .int .i64 (n : Int), .string mc, .int .i64 ip, .int .i64 be, .int .i64 la, .int .i64 ud, .int .i64 qu, .int .i64 un, .int .i64 il] 45)) = wv at HG1 x0 x1 x2 x3 x4 x5 x6 x7 x8 x9 x10 x11 ⊢
          clear gs0 m0 k0 k1 q0 q1 q2 q3 q4 q5 q6 q7 q8 q9
          have SS : Hid (wv.drew.cell? ⟨wr.heap.size, 0, none⟩ = some (.int .i64 id) ∧ wv.drew.cell? ⟨wr.heap.size, 1, none⟩ = some (.int .i64 (n : Int)) ∧ wv.drew.cell? ⟨wr.heap.size, 2, none⟩ = some (.string mc) ∧ wv.drew.cell? ⟨wr.heap.size, 3, none⟩ = some (.int .i64 ip) ∧ wv.drew.cell? ⟨wr.heap.size, 4, none⟩ = some (.int .i64 be) ∧ wv.drew.cell? ⟨wr.heap.size, 5, none⟩ = some (.int .i64 la) ∧ wv.drew.cell? ⟨wr.heap.size, 6, none⟩ = some (.int .i64 ud) ∧ wv.drew.cell? ⟨wr.heap.size, 7, none⟩ = some (.int .i64 qu) ∧ wv.drew.cell? ⟨wr.heap.size, 8, none⟩ = some (.int .i64 un) ∧ wv.drew.cell? ⟨wr.heap.size, 9, none⟩ = some (.int .i64 il) ∧ wv.drew.cell? ⟨w.heap.size, 0, none⟩ = some (.slice (some ⟨ub, uo, none⟩) ul uc) ∧ wv.drew.cell? ⟨ub, uo + n * 6, none⟩ = some (.string nm)) := ⟨by simp [x0], by simp [x1], by simp [x2], by simp [x3], by simp [x4], by simp [x5], by simp [x6], by simp [x7], by simp [x8], by simp [x9], by simp [x10], by simp [x11]⟩
          have BV : Hid (Below w.heap.size w wv.drew) := HG1.out.1.below.drew
          have HTV : Hid (Tens wv.drew.heap.size wv.drew) := fun W hW => HT9.out W (BV.out.trans (hW.mono BV.out.size))
          generalize stT nm ⟨id, (n : Int), mc, ip, be, la, ud, qu, un, il⟩ now = ZZ at HY' TX9
          go_region_held3 (fun wx => wx.cell? ⟨wr.heap.size, 0, none⟩ = some (.int .i64 id) ∧ wx.cell? ⟨wr.heap.size, 1, none⟩ = some (.int .i64 (n : Int)) ∧ wx.cell? ⟨wr.heap.size, 2, none⟩ = some (.string mc) ∧ wx.cell? ⟨wr.heap.size, 3, none⟩ = some (.int .i64 ip) ∧ wx.cell? ⟨wr.heap.size, 4, none⟩ = some (.int .i64 be) ∧ wx.cell? ⟨wr.heap.size, 5, none⟩ = some (.int .i64 la) ∧ wx.cell? ⟨wr.heap.size, 6, none⟩ = some (.int .i64 ud) ∧ wx.cell? ⟨wr.heap.size, 7, none⟩ = some (.int .i64 qu) ∧ wx.cell? ⟨wr.heap.size, 8, none⟩ = some (.int .i64 un) ∧ wx.cell? ⟨wr.heap.size, 9, none⟩ = some (.int .i64 il) ∧ wx.cell? ⟨w.heap.size, 0, none⟩ = some (.slice (some ⟨ub, uo, none⟩) ul uc) ∧ wx.cell? ⟨ub, uo + n * 6, none⟩ = some (.string nm))
            (first | (with_reducible exact SS.out) | (with_reducible exact KK.out) | (with_reducible assumption) | fail)
            ((go_at_call 21; (with_reducible refine (TX9.out _ HTV.out).mono ?_); rintro e w6 ⟨rfl, g6⟩; have KK : Hid (w6.cell? ⟨wr.heap.size, 0, none⟩ = some (.int .i64 id) ∧ w6.cell? ⟨wr.heap.size, 1, none⟩ = some (.int .i64 (n : Int)) ∧ w6.cell? ⟨wr.heap.size, 2, none⟩ = some (.string mc) ∧ w6.cell? ⟨wr.heap.size, 3, none⟩ = some (.int .i64 ip) ∧ w6.cell? ⟨wr.heap.size, 4, none⟩ = some (.int .i64 be) ∧ w6.cell? ⟨wr.heap.size, 5, none⟩ = some (.int .i64 la) ∧ w6.cell? ⟨wr.heap.size, 6, none⟩ = some (.int .i64 ud) ∧ w6.cell? ⟨wr.heap.size, 7, none⟩ = some (.int .i64 qu) ∧ w6.cell? ⟨wr.heap.size, 8, none⟩ = some (.int .i64 un) ∧ w6.cell? ⟨wr.heap.size, 9, none⟩ = some (.int .i64 il) ∧ w6.cell? ⟨w.heap.size, 0, none⟩ = some (.slice (some ⟨ub, uo, none⟩) ul uc) ∧ w6.cell? ⟨ub, uo + n * 6, none⟩ = some (.string nm)) := ⟨bkeep g6.below (by simp [x0]), bkeep g6.below (by simp [x1]), bkeep g6.below (by simp [x2]), bkeep g6.below (by simp [x3]), bkeep g6.below (by simp [x4]), bkeep g6.below (by simp [x5]), bkeep g6.below (by simp [x6]), bkeep g6.below (by simp [x7]), bkeep g6.below (by simp [x8]), bkeep g6.below (by simp [x9]), bkeep g6.below (by simp [x10]), bkeep g6.below (by simp [x11])⟩))
          all_goals
            have B6 : Hid (Below w.heap.size w w6) := BV.out.trans (g6.below.mono BV.out.size)
            clear g6
            go_wp2
            go_ret2
            exact ⟨by rw [HY'.out]; rfl, B6.out⟩
    · obtain rfl : k = sl := by omega
      have hd : Hid (Z = ⟨#[110, 111, 32, 115, 101, 115, 115, 105, 111, 110]⟩) := NF.out (find_end hl HO.out)
      clear NF YF HO
      go_wp2
      go_ret2
      exact ⟨by rw [hd.out]; rfl, HG.out.1.below⟩
end Go.Proofs.YtappekglflgodabDoor
