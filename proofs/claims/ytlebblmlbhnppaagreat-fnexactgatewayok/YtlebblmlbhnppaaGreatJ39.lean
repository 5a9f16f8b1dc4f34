/- The program's inLan, sessionOK, sessionsApart. The program's sessionsOK, failsOK, recordsOK, GuestsOK. The program's small functions of flows. The program's flows by their ends: placeOfEnds, flowPlaces, flowsApart, FlowsOK, flowsFault, FlowFind. -/
import Derived.Test.YtlebblmlbhnppaaGreatGokF
import Derived.Test.YtlebblmlbhnppaaGreatJ38
import Derived.Shelf.SlicesQ.IndexFunc
import Derived.Test.YtlebblmlbhnppaaGreatJ37
import Derived.Test.YtlebblmlbhnppaaGreatJ34
import Derived.Test.YtlebblmlbhnppaaGreatSmallA
import Derived.Deep.RegionHeld3
namespace Go.Proofs.YtlebblmlbhnppaaGreat
open Go.Shelf Go.Lib Go.Proofs Go.Maps Go.WideAt Go.WideMaps Go.RowKit Go.PlainAid Go.Proofs.YtlebblmlbhnppaaGreat.Bt Go.Sort
set_option linter.unusedVariables false
set_option maxRecDepth 20000

set_option maxHeartbeats 1000000 in
theorem inLan_any (ip b gt : Int) (gm wm : ByteArray) (rs : Int) (x y : Option Addr) (lenx capx leny capy : Nat) (q : Int) (w : World) :
    Calls Tryz.prog 238 #[.agg #[.int .i64 ip, .int .i64 b, .int .i64 gt, .string gm, .string wm, .int .i64 rs, .slice x lenx capx, .slice y leny capy], .int .i64 q] w fun e w' => e = .returned (.bool (nhB ip b q)) ∧ Grw w w' := by
  have HA : Hid (∀ w, Calls Tryz.prog 184 #[.agg #[.int .i64 ip, .int .i64 b], .int .i64 q] w fun e w' => e = .returned (.tuple #[.bool (nhB ip b q), .int .i64 (nhC ip b q)]) ∧ Grw w w') := fun w => implNetHas_any ip b q w
  have hcase : (nhC ip b q = 0) ∨ (nhC ip b q ≠ 0 ∧ nhB ip b q = false) := by
    unfold nhC nhB
    cases nB ip b <;> cases dec (0 ≤ q ∧ q ≤ 4294967295) <;> simp
  generalize nhB ip b q = r at HA hcase ⊢
  generalize nhC ip b q = c at HA hcase
  rcases hcase with rfl | ⟨hc, rfl⟩
  · go_enter Tryz.func238, Tryz.ntmps238
    go_wp2_with fail
    refine (HA.out _).mono ?_
    rintro e w2 ⟨rfl, g2⟩
    go_wp2
    go_ret
    exact ⟨by first | rfl | simp, ((Grw.refl w).alloc _).trans g2⟩
  · have hcz : (c == 0) = false := by simp [hc]
    clear hc
    go_enter Tryz.func238, Tryz.ntmps238
    go_wp2_with fail
    refine (HA.out _).mono ?_
    rintro e w2 ⟨rfl, g2⟩
    go_wp2
    go_ret
    exact ⟨by first | rfl | simp, ((Grw.refl w).alloc _).trans g2⟩
set_option maxHeartbeats 4000000 in
theorem sessionOK_any (ip b gt : Int) (gm wm : ByteArray) (rs : Int) (x y : Option Addr) (lenx capx leny capy : Nat) (ua sa fa ra : Option Addr) (ul uc sl sc fl fc rl rc : Nat) (nx : Int) (id us1 : Int) (mc : ByteArray) (sip be la ud qu un il : Int) (w : World) (hn : nB ip b = true) (hn1 : 1 ≤ nx) (hn2 : nx ≤ 10000) (mu : ul ≤ 1048576) :
    Calls Tryz.prog 189 #[.agg #[.int .i64 ip, .int .i64 b, .int .i64 gt, .string gm, .string wm, .int .i64 rs, .slice x lenx capx, .slice y leny capy], .agg #[.slice ua ul uc, .slice sa sl sc, .slice fa fl fc, .slice ra rl rc, .int .i64 nx], .agg #[.int .i64 id, .int .i64 us1, .string mc, .int .i64 sip, .int .i64 be, .int .i64 la, .int .i64 ud, .int .i64 qu, .int .i64 un, .int .i64 il]] w fun e w' => e = .returned (.bool (sB nx ul ip b ⟨id, us1, mc, sip, be, la, ud, qu, un, il⟩)) ∧ Grw w w' := by
  have T0 : Hid (∀ w, Calls Tryz.prog 85 #[.int .i64 id, .int .i64 1, .int .i64 (nx - 1)] w fun e w' => e = .returned (.bool (dec (1 ≤ id ∧ id ≤ nx - 1))) ∧ w' = w) := fun w => between_any id 1 (nx - 1) w
  have T1 : Hid (∀ w, Calls Tryz.prog 85 #[.int .i64 us1, .int .i64 0, .int .i64 ((ul : Int) - 1)] w fun e w' => e = .returned (.bool (dec (0 ≤ us1 ∧ us1 ≤ (ul : Int) - 1))) ∧ w' = w) := fun w => between_any us1 0 ((ul : Int) - 1) w
  have T2 : Hid (∀ w, Calls Tryz.prog 185 #[.string mc] w fun e w' => e = .returned (.bool (dec (mc.size = 6))) ∧ w' = w) := fun w => isMac_any mc w
  have T3 : Hid (∀ w, Calls Tryz.prog 238 #[.agg #[.int .i64 ip, .int .i64 b, .int .i64 gt, .string gm, .string wm, .int .i64 rs, .slice x lenx capx, .slice y leny capy], .int .i64 sip] w fun e w' => e = .returned (.bool (nhB ip b sip)) ∧ Grw w w') := fun w => inLan_any ip b gt gm wm rs x y lenx capx leny capy sip w
  have T4 : Hid (∀ w, Calls Tryz.prog 84 #[.int .i64 be] w fun e w' => e = .returned (.bool (dec (0 ≤ be ∧ be ≤ 100000))) ∧ w' = w) := fun w => timeOK_any be w
  have T5 : Hid (∀ w, Calls Tryz.prog 85 #[.int .i64 la, .int .i64 be, .int .i64 100000] w fun e w' => e = .returned (.bool (dec (be ≤ la ∧ la ≤ 100000))) ∧ w' = w) := fun w => between_any la be 100000 w
  have T6 : Hid (∀ w, Calls Tryz.prog 85 #[.int .i64 un, .int .i64 be, .int .i64 101000] w fun e w' => e = .returned (.bool (dec (be ≤ un ∧ un ≤ 101000))) ∧ w' = w) := fun w => between_any un be 101000 w
  have T7 : Hid (∀ w, Calls Tryz.prog 85 #[.int .i64 qu, .int .i64 1, .int .i64 1000000] w fun e w' => e = .returned (.bool (dec (1 ≤ qu ∧ qu ≤ 1000000))) ∧ w' = w) := fun w => between_any qu 1 1000000 w
  have T8 : Hid (∀ w, Calls Tryz.prog 85 #[.int .i64 ud, .int .i64 0, .int .i64 qu] w fun e w' => e = .returned (.bool (dec (0 ≤ ud ∧ ud ≤ qu))) ∧ w' = w) := fun w => between_any ud 0 qu w
  have T9 : Hid (∀ w, Calls Tryz.prog 239 #[.int .i64 il] w fun e w' => e = .returned (.bool (dec (1 ≤ il ∧ il ≤ 1000))) ∧ w' = w) := fun w => minutesOK_any il w
  have hnh : nhB ip b sip = (hB ip b sip && dec (0 ≤ sip ∧ sip ≤ 4294967295)) := by unfold nhB; rw [hn, Bool.true_and, Bool.and_comm]
  obtain ⟨z, hz⟩ : ∃ z, z = sB nx ul ip b ⟨id, us1, mc, sip, be, la, ud, qu, un, il⟩ := ⟨_, rfl⟩
  have E : Hid (z = (dec (1 ≤ id ∧ id ≤ nx - 1) && (dec (0 ≤ us1 ∧ us1 ≤ (ul : Int) - 1) && (dec (mc.size = 6) && (nhB ip b sip && (dec (0 ≤ be ∧ be ≤ 100000) && (dec (be ≤ la ∧ la ≤ 100000) && (dec (be ≤ un ∧ un ≤ 101000) && (dec (1 ≤ qu ∧ qu ≤ 1000000) && (dec (0 ≤ ud ∧ ud ≤ qu) && dec (1 ≤ il ∧ il ≤ 1000))))))))))) := by
    rw [hz, hnh]
    unfold sB
    dsimp only
    ac_rfl
  rw [← hz]
  clear hz hnh
  generalize dec (1 ≤ id ∧ id ≤ nx - 1) = t0 at T0 E
  generalize dec (0 ≤ us1 ∧ us1 ≤ (ul : Int) - 1) = t1 at T1 E
  generalize dec (mc.size = 6) = t2 at T2 E
  generalize nhB ip b sip = t3 at T3 E
  generalize dec (0 ≤ be ∧ be ≤ 100000) = t4 at T4 E
  generalize dec (be ≤ la ∧ la ≤ 100000) = t5 at T5 E
  generalize dec (be ≤ un ∧ un ≤ 101000) = t6 at T6 E
  generalize dec (1 ≤ qu ∧ qu ≤ 1000000) = t7 at T7 E
  generalize dec (0 ≤ ud ∧ ud ≤ qu) = t8 at T8 E
  generalize dec (1 ≤ il ∧ il ≤ 1000) = t9 at T9 E
  go_enter Tryz.func189, Tryz.ntmps189
  go_wp2_with fail
  refine (T0.out _).mono ?_
  rintro e w9 ⟨rfl, rfl⟩
  cases t0 with
  | false =>
    have hv : Hid (z = false) := by show z = false; rw [E.out]; simp
    go_wp2
    go_ret
    exact ⟨by rw [hv.out]; rfl, ((((Grw.refl w).alloc _).alloc _).alloc _)⟩
  | true =>
    go_wp2_with fail
    refine (T1.out _).mono ?_
    rintro e w9 ⟨rfl, rfl⟩
    cases t1 with
    | false =>
      have hv : Hid (z = false) := by show z = false; rw [E.out]; simp
      go_wp2
      go_ret
      exact ⟨by rw [hv.out]; rfl, ((((Grw.refl w).alloc _).alloc _).alloc _)⟩
    | true =>
      go_wp2_with fail
      refine (T2.out _).mono ?_
      rintro e w9 ⟨rfl, rfl⟩
      cases t2 with
      | false =>
        have hv : Hid (z = false) := by show z = false; rw [E.out]; simp
        go_wp2
        go_ret
        exact ⟨by rw [hv.out]; rfl, ((((Grw.refl w).alloc _).alloc _).alloc _)⟩
      | true =>
        go_wp2_with fail
        refine (T3.out _).mono ?_
        rintro e w2 ⟨rfl, g2⟩
        have x0 : w2.cell? ⟨w.heap.size + 1 + 1, 0, none⟩ = some (.int .i64 id) := g2.keep (a := ⟨w.heap.size + 1 + 1, 0, none⟩) (v := .int .i64 id) (by simp [go_sem])
        have x1 : w2.cell? ⟨w.heap.size + 1 + 1, 1, none⟩ = some (.int .i64 us1) := g2.keep (a := ⟨w.heap.size + 1 + 1, 1, none⟩) (v := .int .i64 us1) (by simp [go_sem])
        have x2 : w2.cell? ⟨w.heap.size + 1 + 1, 2, none⟩ = some (.string mc) := g2.keep (a := ⟨w.heap.size + 1 + 1, 2, none⟩) (v := .string mc) (by simp [go_sem])
        have x3 : w2.cell? ⟨w.heap.size + 1 + 1, 3, none⟩ = some (.int .i64 sip) := g2.keep (a := ⟨w.heap.size + 1 + 1, 3, none⟩) (v := .int .i64 sip) (by simp [go_sem])
        have x4 : w2.cell? ⟨w.heap.size + 1 + 1, 4, none⟩ = some (.int .i64 be) := g2.keep (a := ⟨w.heap.size + 1 + 1, 4, none⟩) (v := .int .i64 be) (by simp [go_sem])
        have x5 : w2.cell? ⟨w.heap.size + 1 + 1, 5, none⟩ = some (.int .i64 la) := g2.keep (a := ⟨w.heap.size + 1 + 1, 5, none⟩) (v := .int .i64 la) (by simp [go_sem])
        have x6 : w2.cell? ⟨w.heap.size + 1 + 1, 6, none⟩ = some (.int .i64 ud) := g2.keep (a := ⟨w.heap.size + 1 + 1, 6, none⟩) (v := .int .i64 ud) (by simp [go_sem])
        have x7 : w2.cell? ⟨w.heap.size + 1 + 1, 7, none⟩ = some (.int .i64 qu) := g2.keep (a := ⟨w.heap.size + 1 + 1, 7, none⟩) (v := .int .i64 qu) (by simp [go_sem])
        have x8 : w2.cell? ⟨w.heap.size + 1 + 1, 8, none⟩ = some (.int .i64 un) := g2.keep (a := ⟨w.heap.size + 1 + 1, 8, none⟩) (v := .int .i64 un) (by simp [go_sem])
        have x9 : w2.cell? ⟨w.heap.size + 1 + 1, 9, none⟩ = some (.int .i64 il) := g2.keep (a := ⟨w.heap.size + 1 + 1, 9, none⟩) (v := .int .i64 il) (by simp [go_sem])
        have BX : Hid (Grw w w2) := ((((Grw.refl w).alloc _).alloc _).alloc _).trans g2
        clear g2
        cases t3 with
        | false =>
          have hv : Hid (z = false) := by show z = false; rw [E.out]; simp
          go_wp2
          go_ret
          exact ⟨by rw [hv.out]; rfl, BX.out⟩
        | true =>
          go_wp2_with fail
          refine (T4.out _).mono ?_
          rintro e w9 ⟨rfl, rfl⟩
          cases t4 with
          | false =>
            have hv : Hid (z = false) := by show z = false; rw [E.out]; simp
            go_wp2
            go_ret
            exact ⟨by rw [hv.out]; rfl, BX.out⟩
          | true =>
            go_wp2_with fail
            refine (T5.out _).mono ?_
            rintro e w9 ⟨rfl, rfl⟩
            cases t5 with
            | false =>
              have hv : Hid (z = false) := by show z = false; rw [E.out]; simp
              go_wp2
              go_ret
              exact ⟨by rw [hv.out]; rfl, BX.out⟩
            | true =>
              go_wp2_with fail
              refine (T6.out _).mono ?_
              rintro e w9 ⟨rfl, rfl⟩
              cases t6 with
              | false =>
                have hv : Hid (z = false) := by show z = false; rw [E.out]; simp
                go_wp2
                go_ret
                exact ⟨by rw [hv.out]; rfl, BX.out⟩
              | true =>
                go_wp2_with fail
                refine (T7.out _).mono ?_
                rintro e w9 ⟨rfl, rfl⟩
                cases t7 with
                | false =>
                  have hv : Hid (z = false) := by show z = false; rw [E.out]; simp
                  go_wp2
                  go_ret
                  exact ⟨by rw [hv.out]; rfl, BX.out⟩
                | true =>
                  go_wp2_with fail
                  refine (T8.out _).mono ?_
                  rintro e w9 ⟨rfl, rfl⟩
                  cases t8 with
                  | false =>
                    have hv : Hid (z = false) := by show z = false; rw [E.out]; simp
                    go_wp2
                    go_ret
                    exact ⟨by rw [hv.out]; rfl, BX.out⟩
                  | true =>
                    go_wp2_with fail
                    refine (T9.out _).mono ?_
                    rintro e w9 ⟨rfl, rfl⟩
                    have hv : Hid (z = t9) := by show z = t9; rw [E.out]; simp
                    go_wp2
                    go_ret
                    exact ⟨by rw [hv.out]; rfl, BX.out⟩
theorem numOf_inj {f g : Nat → Int} (hf : ∀ k, 0 ≤ f k ∧ f k ≤ 255) (hg : ∀ k, 0 ≤ g k ∧ g k ≤ 255) : ∀ k, numOf f k = numOf g k → ∀ j, j < k → f j = g j
  | 0, _, j, hj => absurd hj (by omega)
  | k + 1, h, j, hj => by
    rw [numOf, numOf] at h
    have a := hf k
    have b := hg k
    have e1 : numOf f k = numOf g k := by omega
    by_cases hjk : j < k
    · exact numOf_inj hf hg k e1 j hjk
    · obtain rfl : j = k := by omega
      omega
theorem bt_list9 (s : ByteArray) (j : Nat) (h : j < s.size) : bt s j = ((s.data.toList[j]'(by simpa using h)).toNat : Int) := by
  unfold bt; rw [dif_pos h]; rfl
def macN (s : SessV) : Int := numOf (bt s.mc) 6
theorem macN_iff (x y : SessV) (hx : x.mc.size = 6) (hy : y.mc.size = 6) : macN x = macN y ↔ x.mc.toList = y.mc.toList := by
  constructor
  · intro h
    have h1 := numOf_inj (fun k => ⟨bt_nonneg _ k, bt_le _ k⟩) (fun k => ⟨bt_nonneg _ k, bt_le _ k⟩) 6 h
    rw [ByteArray.toList_eq, ByteArray.toList_eq]
    apply List.ext_getElem (by simp; omega)
    intro j hj1 hj2
    have hj : j < 6 := by simp at hj1; omega
    have e := h1 j hj
    rw [bt_list9 x.mc j (by omega), bt_list9 y.mc j (by omega)] at e
    exact UInt8.toNat_inj.1 (by exact_mod_cast e)
  · intro h
    have e : x.mc = y.mc := by
      rw [ByteArray.toList_eq, ByteArray.toList_eq] at h
      apply ByteArray.ext
      exact Array.toList_inj.1 h
    unfold macN
    rw [e]
set_option maxHeartbeats 1000000 in
theorem apart1_any (id us1 : Int) (mc : ByteArray) (sip be la ud qu un il : Int) (w : World) :
    Calls Tryz.prog 240 #[.agg #[.int .i64 id, .int .i64 us1, .string mc, .int .i64 sip, .int .i64 be, .int .i64 la, .int .i64 ud, .int .i64 qu, .int .i64 un, .int .i64 il]] w fun e w' => e = .returned (.int .i64 us1) ∧ Below w.heap.size w w' := by
  go_enter Tryz.func240, Tryz.ntmps240
  go_wp2
  go_ret
  exact ⟨rfl, (Below.refl _ _).alloc (Nat.le_refl _) _⟩
set_option maxHeartbeats 1000000 in
theorem apart3_any (id us1 : Int) (mc : ByteArray) (sip be la ud qu un il : Int) (w : World) :
    Calls Tryz.prog 243 #[.agg #[.int .i64 id, .int .i64 us1, .string mc, .int .i64 sip, .int .i64 be, .int .i64 la, .int .i64 ud, .int .i64 qu, .int .i64 un, .int .i64 il]] w fun e w' => e = .returned (.int .i64 sip) ∧ Below w.heap.size w w' := by
  go_enter Tryz.func243, Tryz.ntmps243
  go_wp2
  go_ret
  exact ⟨rfl, (Below.refl _ _).alloc (Nat.le_refl _) _⟩
set_option maxHeartbeats 1000000 in
theorem apart2_any (id us1 : Int) (mc : ByteArray) (sip be la ud qu un il : Int) (w : World) (h6 : mc.size = 6) :
    Calls Tryz.prog 241 #[.agg #[.int .i64 id, .int .i64 us1, .string mc, .int .i64 sip, .int .i64 be, .int .i64 la, .int .i64 ud, .int .i64 qu, .int .i64 un, .int .i64 il]] w fun e w' => e = .returned (.int .i64 (numOf (bt mc) 6)) ∧ Below w.heap.size w w' := by
  obtain ⟨W0, hW0⟩ : ∃ W, W = w.alloc (.cells #[.int .i64 id, .int .i64 us1, .string mc, .int .i64 sip, .int .i64 be, .int .i64 la, .int .i64 ud, .int .i64 qu, .int .i64 un, .int .i64 il] 137) := ⟨_, rfl⟩
  have hsz : W0.heap.size = w.heap.size + 1 := by rw [hW0]; simp
  have bw : Below w.heap.size w W0 := by rw [hW0]; exact (Below.refl _ _).alloc (Nat.le_refl _) _
  obtain ⟨cap, w1, hcv, b1, z1, -, h5⟩ := conv_bytes (P := Tryz.prog) W0 9 72 5 mc Tryz.underlying9 Tryz.underlying72 Tryz.underlying5
  have e6 : numOf (bt mc) mc.size = numOf (bt mc) 6 := by rw [h6]
  have HN : Hid (Calls Tryz.prog 242 #[.slice (some ⟨W0.heap.size, 0, none⟩) mc.size cap] w1 fun e w' => e = .returned (.tuple #[.int .i64 (numOf (bt mc) 6), .int .i64 0]) ∧ w' = w1) := by
    rw [← e6]
    exact numberOf_yes _ mc.size cap (bt mc) w1 ⟨fun k => ⟨bt_nonneg mc k, bt_le mc k⟩, fun _ => ⟨_, 0, rfl, fun i hi => by rw [Nat.zero_add]; exact h5 i hi⟩⟩ (by omega) (by omega)
  have B1 : Hid (Below w.heap.size w w1) := bw.trans (b1.mono bw.size)
  rw [hsz] at hcv HN
  rw [hW0] at hcv
  clear b1 z1 h5 e6 h6 bw hsz hW0
  generalize numOf (bt mc) 6 = r at HN ⊢
  go_enter Tryz.func241, Tryz.ntmps241
  go_wp2_with fail
  refine HN.out.mono ?_
  rintro e w2 ⟨rfl, rfl⟩
  go_wp2
  go_ret
  exact ⟨rfl, B1.out⟩
/-- The three marks of a session: the function's number, and what it answers. -/
def mkN (i : Nat) : Nat := if i = 0 then 240 else if i = 1 then 241 else 243
def mkF (i : Nat) : SessV → Int := if i = 0 then (fun s => s.us) else if i = 1 then macN else fun s => s.ip
theorem mk_enter (i : Nat) : ∀ args w, (callFunc (mkN i) args).run Tryz.prog w = .ok (.enter (mkN i) args) w := by
  unfold mkN
  split
  · exact enters_of Tryz.func240 (by kernel_rfl) rfl
  split
  · exact enters_of Tryz.func241 (by kernel_rfl) rfl
  · exact enters_of Tryz.func243 (by kernel_rfl) rfl
theorem mk_any (i : Nat) (id us1 : Int) (mc : ByteArray) (sip be la ud qu un il : Int) (w : World) (h6 : mc.size = 6) :
    Calls Tryz.prog (mkN i) #[.agg #[.int .i64 id, .int .i64 us1, .string mc, .int .i64 sip, .int .i64 be, .int .i64 la, .int .i64 ud, .int .i64 qu, .int .i64 un, .int .i64 il]] w fun e w' => e = .returned (.int .i64 (mkF i ⟨id, us1, mc, sip, be, la, ud, qu, un, il⟩)) ∧ Below w.heap.size w w' := by
  unfold mkN mkF
  split
  · exact apart1_any id us1 mc sip be la ud qu un il w
  split
  · exact apart2_any id us1 mc sip be la ud qu un il w h6
  · exact apart3_any id us1 mc sip be la ud qu un il w
theorem keyI9 : Keyed Tryz.prog 3 := int_keyed Tryz.underlying3
theorem map_below {H : Type} {P : Program} {k : TypeId} {R : Value → Option (DataW H × List MemPlace)} {w w' : World} {b n m : Nat} {D : DataW H} (h : w.ownsMap P k R b n D) (hb : Below m w w') (hm : b < m) : w'.ownsMap P k R b n D := by
  obtain ⟨es, clock, h1, h2⟩ := h
  exact ⟨es, clock, (hb.block b hm).trans h1, h2⟩
theorem mk_wf (i : Nat) (s : SessV) (h : SeRok s) : (Lit.int .i64 (mkF i s)).wf = true := by
  unfold mkF
  split
  · exact h.2.1
  split
  · have := numOf_bd (bt s.mc) (fun k => ⟨bt_nonneg _ k, bt_le _ k⟩) 6
    unfold macN
    have hb : (0 : Int) ≤ numOf (bt s.mc) 6 ∧ numOf (bt s.mc) 6 ≤ 281474976710655 := by simpa using ⟨this.1, by omega⟩
    simp [Lit.wf, IntKind.min, IntKind.max, IntKind.bits, IntKind.signed]
    omega
  · exact h.2.2.2.1
/-- The marks and the map. -/
def ApW (w W : World) (n : Nat) (D : DataW Unit) : Prop := W.ownsMap Tryz.prog 3 unitElem (w.heap.size + 1) n D ∧ (∀ j, j < 3 → W.cell? ⟨w.heap.size, j, none⟩ = some (.func (.func (mkN j)) #[] #[])) ∧ Below w.heap.size w W
theorem ApW.keep {w W W' : World} {n : Nat} {D : DataW Unit} (h : ApW w W n D) (hb : Below W.heap.size W W') : ApW w W' n D :=
  ⟨map_below h.1 hb h.1.lt, fun j hj => bkeep hb (h.2.1 j hj), h.2.2.trans (hb.mono h.2.2.size)⟩
theorem ApW.turn {w W W' : World} {n n' : Nat} {D D' : DataW Unit} (h : ApW w W n D) (o : W'.ownsMap Tryz.prog 3 unitElem (w.heap.size + 1) n' D') (g : W.grownBy W' (some (w.heap.size + 1))) : ApW w W' n' D' := by
  refine ⟨o, fun j hj => ?_, h.2.2.grown g h.2.2.size (fun k hk => by injection hk with e; omega)⟩
  have hc := h.2.1 j hj
  have hlt : w.heap.size < W.heap.size := World.block_lt_of_cell? W _ hc
  rw [World.cell?_of_block (w := W) (g.block w.heap.size hlt (by intro e; injection e with e; omega))]
  exact hc
set_option maxHeartbeats 4000000 in
theorem sessionsApart_any (a : Option Addr) (len cap : Nat) (ss : List SessV) (w : World) (h : Rw SeR 10 w a ss) (hl : ss.length = len) (h3 : len ≤ 3) (h6 : ∀ s ∈ ss, s.mc.size = 6) :
    Calls Tryz.prog 190 #[.slice a len cap] w fun e w' => e = .returned (.bool (dstB (ss.map (mkF 0)) && (dstB (ss.map (mkF 1)) && dstB (ss.map (mkF 2))))) ∧ Below w.heap.size w w' := by
  have RW : Hid (Rw SeR 10 w a ss) := h
  have H6 : Hid (∀ s ∈ ss, s.mc.size = 6) := h6
  clear h h6
  have hmm := @run_makeMap Tryz.prog
  have h3z : (len : Int) ≤ 3 := by omega
  have hz0 : (zeroValue 304).run Tryz.prog w = .ok (.agg #[]) w := by kernel_rfl
  clear hz0
  obtain ⟨z, hz⟩ : ∃ z, z = (dstB (ss.map (mkF 0)) && (dstB (ss.map (mkF 1)) && dstB (ss.map (mkF 2)))) := ⟨_, rfl⟩
  have E : Hid (z = (dstB (ss.map (mkF 0)) && (dstB (ss.map (mkF 1)) && dstB (ss.map (mkF 2))))) := hz
  rw [← hz]
  clear hz
  have A0 : Hid (ApW w ((w.alloc (.cells #[.func (.func 240) #[] #[], .func (.func 241) #[] #[], .func (.func 243) #[] #[]] 300)).alloc (.map #[] 0)) 0 (.map [])) := by
    refine ⟨by have := World.ownsMap_made (H := Unit) (w.alloc (.cells #[.func (.func 240) #[] #[], .func (.func 241) #[] #[], .func (.func 243) #[] #[]] 300)) Tryz.prog 3 unitElem; simpa using this, fun j hj => ?_, ((Below.refl _ _).alloc (Nat.le_refl _) _).alloc (by simp) _⟩
    have : j = 0 ∨ j = 1 ∨ j = 2 := by omega
    rcases this with rfl | rfl | rfl <;> simp [go_sem, mkN]
  go_enter Tryz.func190, Tryz.ntmps190
  go_wp2
  go_loopw [13] (fun u wr => ∃ i : Nat, i ≤ 3 ∧ u = .int .i64 i ∧ Hid (∀ j, j < i → dstB (ss.map (mkF j)) = true) ∧ Hid (∃ n D, ApW w wr n D)) (fun u _ => 3 - (intOf u).toNat)
  case atStart => exact ⟨0, Nat.zero_le _, rfl, fun j hj => absurd hj (by omega), _, _, A0.out⟩
  case round =>
    clear A0
    obtain ⟨i, hi, rfl, HO, X⟩ := hrel
    by_cases hi3 : i < 3
    · obtain ⟨n0, D0, X0⟩ := X.out
      obtain ⟨w4, hclr, o4, g4⟩ := own_clear X0.1 Tryz.underlying303 0
      have mi := X0.2.1 i hi3
      have X4 : Hid (ApW w w4 0 (setI ((ss.take 0).map (mkF i)))) := X0.turn o4 g4
      have hiz : (i : Int) < 3 := by omega
      obtain ⟨g, hg⟩ : ∃ g, g = mkN i := ⟨_, rfl⟩
      have eg : ∀ args w, (callFunc g args).run Tryz.prog w = .ok (.enter g args) w := by rw [hg]; exact mk_enter i
      have HM : Hid (∀ (id us1 : Int) (mc : ByteArray) (sip be la ud qu un il : Int) (w : World), mc.size = 6 → Calls Tryz.prog g #[.agg #[.int .i64 id, .int .i64 us1, .string mc, .int .i64 sip, .int .i64 be, .int .i64 la, .int .i64 ud, .int .i64 qu, .int .i64 un, .int .i64 il]] w fun e w' => e = .returned (.int .i64 (mkF i ⟨id, us1, mc, sip, be, la, ud, qu, un, il⟩)) ∧ Below w.heap.size w w') := by rw [hg]; exact mk_any i
      rw [← hg] at mi
      clear X X0 o4 g4 hg
      go_wp2
      go_loopw [20] (fun u wr => ∃ k : Nat, k ≤ len ∧ u = .int .i64 k ∧ Hid (ApW w wr k (setI ((ss.take k).map (mkF i))))) (fun u _ => len - (intOf u).toNat)
      case atStart => exact ⟨0, Nat.zero_le _, rfl, X4.out⟩
      case round =>
        clear X4
        obtain ⟨k, hk, rfl, X⟩ := hrel
        by_cases hlt : k < len
        · obtain ⟨x9, hx⟩ := at_of hl hlt
          obtain ⟨bk, off, vs, rfl, hbk, hvl, hR, hc⟩ := RW.out.at SeR.kp X.out.2.2 hx
          have hs6 := H6.out x9 (List.mem_of_getElem? hx)
          obtain ⟨id, us1, mc, sip, be, la, ud, qu, un, il⟩ := x9
          obtain ⟨rfl, hok⟩ := hR
          have q0 : wr.cell? ⟨bk, off + k * 10, none⟩ = some (.int .i64 id) := hc 0 _ rfl
          have q1 : wr.cell? ⟨bk, off + k * 10 + 1, none⟩ = some (.int .i64 us1) := hc 1 _ rfl
          have q2 : wr.cell? ⟨bk, off + k * 10 + 2, none⟩ = some (.string mc) := hc 2 _ rfl
          have q3 : wr.cell? ⟨bk, off + k * 10 + 3, none⟩ = some (.int .i64 sip) := hc 3 _ rfl
          have q4 : wr.cell? ⟨bk, off + k * 10 + 4, none⟩ = some (.int .i64 be) := hc 4 _ rfl
          have q5 : wr.cell? ⟨bk, off + k * 10 + 5, none⟩ = some (.int .i64 la) := hc 5 _ rfl
          have q6 : wr.cell? ⟨bk, off + k * 10 + 6, none⟩ = some (.int .i64 ud) := hc 6 _ rfl
          have q7 : wr.cell? ⟨bk, off + k * 10 + 7, none⟩ = some (.int .i64 qu) := hc 7 _ rfl
          have q8 : wr.cell? ⟨bk, off + k * 10 + 8, none⟩ = some (.int .i64 un) := hc 8 _ rfl
          have q9 : wr.cell? ⟨bk, off + k * 10 + 9, none⟩ = some (.int .i64 il) := hc 9 _ rfl
          have hltz : (k : Int) < (len : Int) := by omega
          have X5 : Hid (ApW w (wr.alloc (.cells #[.int .i64 id, .int .i64 us1, .string mc, .int .i64 sip, .int .i64 be, .int .i64 la, .int .i64 ud, .int .i64 qu, .int .i64 un, .int .i64 il] 137)) k (setI ((ss.take k).map (mkF i)))) := X.out.keep ((Below.refl _ _).alloc (Nat.le_refl _) _)
          have hwf := mk_wf i ⟨id, us1, mc, sip, be, la, ud, qu, un, il⟩ hok
          have HT : Hid (∀ D : DataW Unit, D = setI ((ss.take k).map (mkF i)) → D.put (.int .i64 (mkF i ⟨id, us1, mc, sip, be, la, ud, qu, un, il⟩)) (.agg []) = setI ((ss.take (k + 1)).map (mkF i))) := fun D hD => by
            rw [hD, ← setI_snoc, List.take_add_one, hx]
            simp
          have HM1 : Hid (∀ w, Calls Tryz.prog g #[.agg #[.int .i64 id, .int .i64 us1, .string mc, .int .i64 sip, .int .i64 be, .int .i64 la, .int .i64 ud, .int .i64 qu, .int .i64 un, .int .i64 il]] w fun e w' => e = .returned (.int .i64 (mkF i ⟨id, us1, mc, sip, be, la, ud, qu, un, il⟩)) ∧ Below w.heap.size w w') := fun w => HM.out id us1 mc sip be la ud qu un il w hs6
          generalize mkF i ⟨id, us1, mc, sip, be, la, ud, qu, un, il⟩ = r at HT HM1 hwf
          clear hc hvl hx hok hs6 X
          go_wp2_with (go_at_fn g; refine (HM1.out _).mono ?_; rintro e w6 ⟨rfl, b6⟩; have X6 := X5.out.keep b6; obtain ⟨w7, hupd, o7, g7⟩ := X6.1.update keyI9 Tryz.underlying303 (by unfold maxLen; omega) (key := .int .i64 r) (val := .agg #[]) (keyOf_int_mk Tryz.underlying3 hwf) (unitElem_mk (H := Unit)); have X7 : Hid (ApW w w7 (k + 1) (setI ((ss.take (k + 1)).map (mkF i)))) := HT.out _ rfl ▸ X6.turn o7 g7; clear X6 o7 g7 b6)
          go_roundw
          case rel => exact ⟨k + 1, by omega, by go_num, X7⟩
          case measure => simp [intOf]; omega
        · obtain rfl : len = k := by omega
          have hlen := fun ty => X.out.1.len Tryz.underlying303 ty
          have hsl := setI_lt (H := Unit) ((ss.take len).map (mkF i))
          rw [List.take_of_length_le (by omega)] at hlen hsl
          have hsl2 : decide ((Maps.size (setI (H := Unit) (ss.map (mkF i))) : Int) < (len : Int)) = !dstB (ss.map (mkF i)) := by
            rw [← hsl]
            simp [hl]
          generalize Maps.size (setI (H := Unit) (ss.map (mkF i))) = n9 at hlen hsl2
          have HX : Hid (ApW w wr len (setI ((ss.take len).map (mkF i)))) := X.out
          clear hsl X
          cases hd : dstB (ss.map (mkF i)) with
          | false =>
            rw [hd] at hsl2
            have hsl3 : decide (n9 < len) = true := by have := of_decide_eq_true hsl2; exact decide_eq_true (by omega)
            have hv : Hid (z = false) := by
              show z = false
              rw [E.out]
              have : i = 0 ∨ i = 1 ∨ i = 2 := by omega
              rcases this with rfl | rfl | rfl <;> simp [hd]
            clear hd
            go_wp2
            go_ret
            exact ⟨by rw [hv.out]; rfl, HX.out.2.2⟩
          | true =>
            rw [hd] at hsl2
            have hsl3 : decide (n9 < len) = false := by have := of_decide_eq_false hsl2; exact decide_eq_false (by omega)
            have HO' : Hid (∀ j, j < i + 1 → dstB (ss.map (mkF j)) = true) := fun j hj => by
              by_cases hji : j < i
              · exact HO.out j hji
              · obtain rfl : j = i := by omega
                exact hd
            clear hd
            go_wp2
            exact ⟨⟨i + 1, by omega, by go_num, HO', _, _, HX.out⟩, by simp [intOf]; omega⟩
    · obtain rfl : i = 3 := by omega
      have hv : Hid (z = true) := by
        show z = true
        rw [E.out, HO.out 0 (by omega), HO.out 1 (by omega), HO.out 2 (by omega)]
        rfl
      go_wp2
      go_ret
      obtain ⟨n0, D0, X0⟩ := X.out
      exact ⟨by rw [hv.out]; rfl, X0.2.2⟩
end Go.Proofs.YtlebblmlbhnppaaGreat

namespace Go.Proofs.YtlebblmlbhnppaaGreat
open Go.RowKit Go.PlainAid Go.Proofs.YtlebblmlbhnppaaGreat.Bt Go.Sort
set_option linter.unusedVariables false
set_option maxRecDepth 20000

set_option maxHeartbeats 8000000 in
theorem sessionsOK_any (ip b gt : Int) (gm wm : ByteArray) (rs : Int) (x y : Option Addr) (lenx capx leny capy : Nat) (ua sa fa ra : Option Addr) (ul uc sl sc fl fc rl rc : Nat) (nx : Int) (ss : List SessV) (w : World) (hs : Rw SeR 10 w sa ss) (ls : ss.length = sl) (hn : nB ip b = true) (hn1 : 1 ≤ nx) (hn2 : nx ≤ 10000) (mu : ul ≤ 1048576) :
    Calls Tryz.prog 122 #[.agg #[.int .i64 ip, .int .i64 b, .int .i64 gt, .string gm, .string wm, .int .i64 rs, .slice x lenx capx, .slice y leny capy], .agg #[.slice ua ul uc, .slice sa sl sc, .slice fa fl fc, .slice ra rl rc, .int .i64 nx]] w fun e w' => e = .returned (.bool (dec (ss.length ≤ 3) && seB (sB nx ul ip b) ss)) ∧ Below w.heap.size w w' := by
  have RS : Hid (Rw SeR 10 w sa ss) := hs
  clear hs
  have b1 : Hid (Grw w ((w.alloc (.cells #[.int .i64 ip, .int .i64 b, .int .i64 gt, .string gm, .string wm, .int .i64 rs, .slice x lenx capx, .slice y leny capy] 40)).alloc (.cells #[.slice ua ul uc, .slice sa sl sc, .slice fa fl fc, .slice ra rl rc, .int .i64 nx] 46))) := ((Grw.refl w).alloc _).alloc _
  by_cases h3 : sl ≤ 3
  rotate_left
  · rw [dec_n (by omega : ¬ ss.length ≤ 3)]
    have h3z : (3 : Int) < (sl : Int) := by omega
    go_enter Tryz.func122, Tryz.ntmps122
    go_wp2
    go_ret
    exact ⟨rfl, b1.out.below⟩
  rw [dec_y (by omega : ss.length ≤ 3), Bool.true_and]
  have h3z : (sl : Int) ≤ 3 := by omega
  obtain ⟨z, hz⟩ : ∃ z, z = seB (sB nx ul ip b) ss := ⟨_, rfl⟩
  have s6 : ∀ x, sB nx ul ip b x = true → x.mc.size = 6 := fun x h => by
    unfold sB dec at h
    simp only [Bool.and_eq_true, decide_eq_true_eq] at h
    exact h.2.2.1
  have S6 : Hid (∀ x, sB nx ul ip b x = true → x.mc.size = 6) := s6
  have E : Hid (z = (risB (sB nx ul ip b) ltId ss && (dstB (ss.map (mkF 0)) && (dstB (ss.map (mkF 1)) && dstB (ss.map (mkF 2)))))) := by
    rw [hz, ← se_apart (sB nx ul ip b) macN ss (fun x y hx hy => macN_iff x y (s6 x hx) (s6 y hy))]
    rfl
  rw [← hz]
  clear hz s6
  go_enter Tryz.func122, Tryz.ntmps122
  go_wp2
  go_loopw [14] (fun u wr => ∃ k : Nat, k ≤ sl ∧ u = .int .i64 k ∧ Hid ((List.range k).all (risAt (sB nx ul ip b) ltId ss) = true) ∧ Hid (Grw w wr ∧ wr.cell? ⟨w.heap.size, 0, none⟩ = some (.int .i64 ip) ∧ wr.cell? ⟨w.heap.size, 1, none⟩ = some (.int .i64 b) ∧ wr.cell? ⟨w.heap.size, 2, none⟩ = some (.int .i64 gt) ∧ wr.cell? ⟨w.heap.size, 3, none⟩ = some (.string gm) ∧ wr.cell? ⟨w.heap.size, 4, none⟩ = some (.string wm) ∧ wr.cell? ⟨w.heap.size, 5, none⟩ = some (.int .i64 rs) ∧ wr.cell? ⟨w.heap.size, 6, none⟩ = some (.slice x lenx capx) ∧ wr.cell? ⟨w.heap.size, 7, none⟩ = some (.slice y leny capy) ∧ wr.cell? ⟨w.heap.size + 1, 0, none⟩ = some (.slice ua ul uc) ∧ wr.cell? ⟨w.heap.size + 1, 1, none⟩ = some (.slice sa sl sc) ∧ wr.cell? ⟨w.heap.size + 1, 2, none⟩ = some (.slice fa fl fc) ∧ wr.cell? ⟨w.heap.size + 1, 3, none⟩ = some (.slice ra rl rc) ∧ wr.cell? ⟨w.heap.size + 1, 4, none⟩ = some (.int .i64 nx))) (fun u _ => sl - (intOf u).toNat)
  case atStart => exact ⟨0, Nat.zero_le _, rfl, rfl, b1.out, by simp [go_sem], by simp [go_sem], by simp [go_sem], by simp [go_sem], by simp [go_sem], by simp [go_sem], by simp [go_sem], by simp [go_sem], by simp [go_sem], by simp [go_sem], by simp [go_sem], by simp [go_sem], by simp [go_sem]⟩
  case round =>
    obtain ⟨k, hk, rfl, HO, HG⟩ := hrel
    obtain ⟨G0, d0, d1, d2, d3, d4, d5, d6, d7, d8, d9, d10, d11, d12⟩ := HG.out
    have GG := G0.below
    by_cases hlt : k < sl
    · obtain ⟨x9, hx⟩ := at_of ls hlt
      obtain ⟨bk, off, vs, rfl, hbk, hvl, hR, hc⟩ := RS.out.at SeR.kp GG hx
      have HS : Hid (risAt (sB nx ul ip b) ltId ss k = true → (List.range (k + 1)).all (risAt (sB nx ul ip b) ltId ss) = true) := fun h => ris_step HO.out h
      have HF : Hid (risAt (sB nx ul ip b) ltId ss k = false → risB (sB nx ul ip b) ltId ss = false) := fun h => ris_no (by omega) h
      obtain ⟨id, us1, mc, sip, be, la, ud, qu, un, il⟩ := x9
      obtain ⟨rfl, -⟩ := hR
      have q0 : wr.cell? ⟨bk, off + k * 10, none⟩ = some (.int .i64 id) := hc 0 _ rfl
      have q1 : wr.cell? ⟨bk, off + k * 10 + 1, none⟩ = some (.int .i64 us1) := hc 1 _ rfl
      have q2 : wr.cell? ⟨bk, off + k * 10 + 2, none⟩ = some (.string mc) := hc 2 _ rfl
      have q3 : wr.cell? ⟨bk, off + k * 10 + 3, none⟩ = some (.int .i64 sip) := hc 3 _ rfl
      have q4 : wr.cell? ⟨bk, off + k * 10 + 4, none⟩ = some (.int .i64 be) := hc 4 _ rfl
      have q5 : wr.cell? ⟨bk, off + k * 10 + 5, none⟩ = some (.int .i64 la) := hc 5 _ rfl
      have q6 : wr.cell? ⟨bk, off + k * 10 + 6, none⟩ = some (.int .i64 ud) := hc 6 _ rfl
      have q7 : wr.cell? ⟨bk, off + k * 10 + 7, none⟩ = some (.int .i64 qu) := hc 7 _ rfl
      have q8 : wr.cell? ⟨bk, off + k * 10 + 8, none⟩ = some (.int .i64 un) := hc 8 _ rfl
      have q9 : wr.cell? ⟨bk, off + k * 10 + 9, none⟩ = some (.int .i64 il) := hc 9 _ rfl
      have hltz : (k : Int) < (sl : Int) := by omega
      have HK : Hid (∀ w, Calls Tryz.prog 189 #[.agg #[.int .i64 ip, .int .i64 b, .int .i64 gt, .string gm, .string wm, .int .i64 rs, .slice x lenx capx, .slice y leny capy], .agg #[.slice ua ul uc, .slice (some ⟨bk, off, none⟩) sl sc, .slice fa fl fc, .slice ra rl rc, .int .i64 nx], .agg #[.int .i64 id, .int .i64 us1, .string mc, .int .i64 sip, .int .i64 be, .int .i64 la, .int .i64 ud, .int .i64 qu, .int .i64 un, .int .i64 il]] w fun e w' => e = .returned (.bool (sB nx ul ip b ⟨id, us1, mc, sip, be, la, ud, qu, un, il⟩)) ∧ Grw w w') := fun w => sessionOK_any ip b gt gm wm rs x y lenx capx leny capy ua (some ⟨bk, off, none⟩) fa ra ul uc sl sc fl fc rl rc nx id us1 mc sip be la ud qu un il w hn hn1 hn2 mu
      by_cases hk0 : k = 0
      · have eo : risAt (sB nx ul ip b) ltId ss k = sB nx ul ip b ⟨id, us1, mc, sip, be, la, ud, qu, un, il⟩ := by subst hk0; exact risAt_zero hx
        have hkd : decide (0 < k) = false := decide_eq_false (by omega)
        clear hk0
        rw [eo] at HS HF
        generalize sB nx ul ip b ⟨id, us1, mc, sip, be, la, ud, qu, un, il⟩ = q at HK HS HF
        clear hc hvl hx eo
        have HA : Hid (Grw w (wr.alloc (.cells #[.int .i64 id, .int .i64 us1, .string mc, .int .i64 sip, .int .i64 be, .int .i64 la, .int .i64 ud, .int .i64 qu, .int .i64 un, .int .i64 il] 137))) := G0.alloc _
        have hmix : Tryz.prog.follows .mixedOrders = true := by kernel_rfl
        have y0 : ∀ n os, (grow (World.drewN (wr.alloc (.cells #[.int .i64 id, .int .i64 us1, .string mc, .int .i64 sip, .int .i64 be, .int .i64 la, .int .i64 ud, .int .i64 qu, .int .i64 un, .int .i64 il] 137)) n) os).cell? ⟨wr.heap.size, 0, none⟩ = some (.int .i64 id) := fun n os => cell_grown (by simp) (by simp) n os
        have y1 : ∀ n os, (grow (World.drewN (wr.alloc (.cells #[.int .i64 id, .int .i64 us1, .string mc, .int .i64 sip, .int .i64 be, .int .i64 la, .int .i64 ud, .int .i64 qu, .int .i64 un, .int .i64 il] 137)) n) os).cell? ⟨wr.heap.size, 1, none⟩ = some (.int .i64 us1) := fun n os => cell_grown (by simp) (by simp) n os
        have y2 : ∀ n os, (grow (World.drewN (wr.alloc (.cells #[.int .i64 id, .int .i64 us1, .string mc, .int .i64 sip, .int .i64 be, .int .i64 la, .int .i64 ud, .int .i64 qu, .int .i64 un, .int .i64 il] 137)) n) os).cell? ⟨wr.heap.size, 2, none⟩ = some (.string mc) := fun n os => cell_grown (by simp) (by simp) n os
        have y3 : ∀ n os, (grow (World.drewN (wr.alloc (.cells #[.int .i64 id, .int .i64 us1, .string mc, .int .i64 sip, .int .i64 be, .int .i64 la, .int .i64 ud, .int .i64 qu, .int .i64 un, .int .i64 il] 137)) n) os).cell? ⟨wr.heap.size, 3, none⟩ = some (.int .i64 sip) := fun n os => cell_grown (by simp) (by simp) n os
        have y4 : ∀ n os, (grow (World.drewN (wr.alloc (.cells #[.int .i64 id, .int .i64 us1, .string mc, .int .i64 sip, .int .i64 be, .int .i64 la, .int .i64 ud, .int .i64 qu, .int .i64 un, .int .i64 il] 137)) n) os).cell? ⟨wr.heap.size, 4, none⟩ = some (.int .i64 be) := fun n os => cell_grown (by simp) (by simp) n os
        have y5 : ∀ n os, (grow (World.drewN (wr.alloc (.cells #[.int .i64 id, .int .i64 us1, .string mc, .int .i64 sip, .int .i64 be, .int .i64 la, .int .i64 ud, .int .i64 qu, .int .i64 un, .int .i64 il] 137)) n) os).cell? ⟨wr.heap.size, 5, none⟩ = some (.int .i64 la) := fun n os => cell_grown (by simp) (by simp) n os
        have y6 : ∀ n os, (grow (World.drewN (wr.alloc (.cells #[.int .i64 id, .int .i64 us1, .string mc, .int .i64 sip, .int .i64 be, .int .i64 la, .int .i64 ud, .int .i64 qu, .int .i64 un, .int .i64 il] 137)) n) os).cell? ⟨wr.heap.size, 6, none⟩ = some (.int .i64 ud) := fun n os => cell_grown (by simp) (by simp) n os
        have y7 : ∀ n os, (grow (World.drewN (wr.alloc (.cells #[.int .i64 id, .int .i64 us1, .string mc, .int .i64 sip, .int .i64 be, .int .i64 la, .int .i64 ud, .int .i64 qu, .int .i64 un, .int .i64 il] 137)) n) os).cell? ⟨wr.heap.size, 7, none⟩ = some (.int .i64 qu) := fun n os => cell_grown (by simp) (by simp) n os
        have y8 : ∀ n os, (grow (World.drewN (wr.alloc (.cells #[.int .i64 id, .int .i64 us1, .string mc, .int .i64 sip, .int .i64 be, .int .i64 la, .int .i64 ud, .int .i64 qu, .int .i64 un, .int .i64 il] 137)) n) os).cell? ⟨wr.heap.size, 8, none⟩ = some (.int .i64 un) := fun n os => cell_grown (by simp) (by simp) n os
        have y9 : ∀ n os, (grow (World.drewN (wr.alloc (.cells #[.int .i64 id, .int .i64 us1, .string mc, .int .i64 sip, .int .i64 be, .int .i64 la, .int .i64 ud, .int .i64 qu, .int .i64 un, .int .i64 il] 137)) n) os).cell? ⟨wr.heap.size, 9, none⟩ = some (.int .i64 il) := fun n os => cell_grown (by simp) (by simp) n os
        have e0 : ∀ n os, (grow (World.drewN (wr.alloc (.cells #[.int .i64 id, .int .i64 us1, .string mc, .int .i64 sip, .int .i64 be, .int .i64 la, .int .i64 ud, .int .i64 qu, .int .i64 un, .int .i64 il] 137)) n) os).cell? ⟨w.heap.size, 0, none⟩ = some (.int .i64 ip) := fun n os => (((Grw.refl wr).alloc _).trans ⟨n, os, rfl⟩).keep d0
        have e1 : ∀ n os, (grow (World.drewN (wr.alloc (.cells #[.int .i64 id, .int .i64 us1, .string mc, .int .i64 sip, .int .i64 be, .int .i64 la, .int .i64 ud, .int .i64 qu, .int .i64 un, .int .i64 il] 137)) n) os).cell? ⟨w.heap.size, 1, none⟩ = some (.int .i64 b) := fun n os => (((Grw.refl wr).alloc _).trans ⟨n, os, rfl⟩).keep d1
        have e2 : ∀ n os, (grow (World.drewN (wr.alloc (.cells #[.int .i64 id, .int .i64 us1, .string mc, .int .i64 sip, .int .i64 be, .int .i64 la, .int .i64 ud, .int .i64 qu, .int .i64 un, .int .i64 il] 137)) n) os).cell? ⟨w.heap.size, 2, none⟩ = some (.int .i64 gt) := fun n os => (((Grw.refl wr).alloc _).trans ⟨n, os, rfl⟩).keep d2
        have e3 : ∀ n os, (grow (World.drewN (wr.alloc (.cells #[.int .i64 id, .int .i64 us1, .string mc, .int .i64 sip, .int .i64 be, .int .i64 la, .int .i64 ud, .int .i64 qu, .int .i64 un, .int .i64 il] 137)) n) os).cell? ⟨w.heap.size, 3, none⟩ = some (.string gm) := fun n os => (((Grw.refl wr).alloc _).trans ⟨n, os, rfl⟩).keep d3
        have e4 : ∀ n os, (grow (World.drewN (wr.alloc (.cells #[.int .i64 id, .int .i64 us1, .string mc, .int .i64 sip, .int .i64 be, .int .i64 la, .int .i64 ud, .int .i64 qu, .int .i64 un, .int .i64 il] 137)) n) os).cell? ⟨w.heap.size, 4, none⟩ = some (.string wm) := fun n os => (((Grw.refl wr).alloc _).trans ⟨n, os, rfl⟩).keep d4
        have e5 : ∀ n os, (grow (World.drewN (wr.alloc (.cells #[.int .i64 id, .int .i64 us1, .string mc, .int .i64 sip, .int .i64 be, .int .i64 la, .int .i64 ud, .int .i64 qu, .int .i64 un, .int .i64 il] 137)) n) os).cell? ⟨w.heap.size, 5, none⟩ = some (.int .i64 rs) := fun n os => (((Grw.refl wr).alloc _).trans ⟨n, os, rfl⟩).keep d5
        have e6 : ∀ n os, (grow (World.drewN (wr.alloc (.cells #[.int .i64 id, .int .i64 us1, .string mc, .int .i64 sip, .int .i64 be, .int .i64 la, .int .i64 ud, .int .i64 qu, .int .i64 un, .int .i64 il] 137)) n) os).cell? ⟨w.heap.size, 6, none⟩ = some (.slice x lenx capx) := fun n os => (((Grw.refl wr).alloc _).trans ⟨n, os, rfl⟩).keep d6
        have e7 : ∀ n os, (grow (World.drewN (wr.alloc (.cells #[.int .i64 id, .int .i64 us1, .string mc, .int .i64 sip, .int .i64 be, .int .i64 la, .int .i64 ud, .int .i64 qu, .int .i64 un, .int .i64 il] 137)) n) os).cell? ⟨w.heap.size, 7, none⟩ = some (.slice y leny capy) := fun n os => (((Grw.refl wr).alloc _).trans ⟨n, os, rfl⟩).keep d7
        have e8 : ∀ n os, (grow (World.drewN (wr.alloc (.cells #[.int .i64 id, .int .i64 us1, .string mc, .int .i64 sip, .int .i64 be, .int .i64 la, .int .i64 ud, .int .i64 qu, .int .i64 un, .int .i64 il] 137)) n) os).cell? ⟨w.heap.size + 1, 0, none⟩ = some (.slice ua ul uc) := fun n os => (((Grw.refl wr).alloc _).trans ⟨n, os, rfl⟩).keep d8
        have e9 : ∀ n os, (grow (World.drewN (wr.alloc (.cells #[.int .i64 id, .int .i64 us1, .string mc, .int .i64 sip, .int .i64 be, .int .i64 la, .int .i64 ud, .int .i64 qu, .int .i64 un, .int .i64 il] 137)) n) os).cell? ⟨w.heap.size + 1, 1, none⟩ = some (.slice (some ⟨bk, off, none⟩) sl sc) := fun n os => (((Grw.refl wr).alloc _).trans ⟨n, os, rfl⟩).keep d9
        have e10 : ∀ n os, (grow (World.drewN (wr.alloc (.cells #[.int .i64 id, .int .i64 us1, .string mc, .int .i64 sip, .int .i64 be, .int .i64 la, .int .i64 ud, .int .i64 qu, .int .i64 un, .int .i64 il] 137)) n) os).cell? ⟨w.heap.size + 1, 2, none⟩ = some (.slice fa fl fc) := fun n os => (((Grw.refl wr).alloc _).trans ⟨n, os, rfl⟩).keep d10
        have e11 : ∀ n os, (grow (World.drewN (wr.alloc (.cells #[.int .i64 id, .int .i64 us1, .string mc, .int .i64 sip, .int .i64 be, .int .i64 la, .int .i64 ud, .int .i64 qu, .int .i64 un, .int .i64 il] 137)) n) os).cell? ⟨w.heap.size + 1, 3, none⟩ = some (.slice ra rl rc) := fun n os => (((Grw.refl wr).alloc _).trans ⟨n, os, rfl⟩).keep d11
        have e12 : ∀ n os, (grow (World.drewN (wr.alloc (.cells #[.int .i64 id, .int .i64 us1, .string mc, .int .i64 sip, .int .i64 be, .int .i64 la, .int .i64 ud, .int .i64 qu, .int .i64 un, .int .i64 il] 137)) n) os).cell? ⟨w.heap.size + 1, 4, none⟩ = some (.int .i64 nx) := fun n os => (((Grw.refl wr).alloc _).trans ⟨n, os, rfl⟩).keep d12
        cases q with
        | false =>
          have hv : Hid (z = false) := by show z = false; rw [E.out, HF.out (by simp)]; rfl
          go_wp2_with fail
          refine wp_region_quiet_grown (by assumption) (by kernel_rfl) ?_
          repeat (go_big_quiet_step (first | fail | (go_at_call 189; exact Calls.grown_of (HK.out _))))
          refine wpQuiet_nil ?_
          intro _ hw'
          obtain ⟨⟨nq, osq⟩, hw''⟩ := hw'
          subst hw''
          have HG1 : Hid (Grw w _) := HA.out.trans ⟨nq, osq, rfl⟩
          clear y0 y1 y2 y3 y4 y5 y6 y7 y8 y9 e0 e1 e2 e3 e4 e5 e6 e7 e8 e9 e10 e11 e12
          go_wp2
          go_ret
          exact ⟨by rw [hv.out]; rfl, HG1.out.below⟩
        | true =>
          have HS' : Hid ((List.range (k + 1)).all (risAt (sB nx ul ip b) ltId ss) = true) := HS.out (by simp)
          clear HS HF
          go_wp2_with fail
          refine wp_region_quiet_grown (by assumption) (by kernel_rfl) ?_
          repeat (go_big_quiet_step (first | fail | (go_at_call 189; exact Calls.grown_of (HK.out _))))
          refine wpQuiet_nil ?_
          intro _ hw'
          obtain ⟨⟨nq, osq⟩, hw''⟩ := hw'
          subst hw''
          have HG1 : Hid (Grw w (grow (World.drewN (wr.alloc (.cells #[.int .i64 id, .int .i64 us1, .string mc, .int .i64 sip, .int .i64 be, .int .i64 la, .int .i64 ud, .int .i64 qu, .int .i64 un, .int .i64 il] 137)) nq) osq) ∧ (grow (World.drewN (wr.alloc (.cells #[.int .i64 id, .int .i64 us1, .string mc, .int .i64 sip, .int .i64 be, .int .i64 la, .int .i64 ud, .int .i64 qu, .int .i64 un, .int .i64 il] 137)) nq) osq).cell? ⟨w.heap.size, 0, none⟩ = some (.int .i64 ip) ∧ (grow (World.drewN (wr.alloc (.cells #[.int .i64 id, .int .i64 us1, .string mc, .int .i64 sip, .int .i64 be, .int .i64 la, .int .i64 ud, .int .i64 qu, .int .i64 un, .int .i64 il] 137)) nq) osq).cell? ⟨w.heap.size, 1, none⟩ = some (.int .i64 b) ∧ (grow (World.drewN (wr.alloc (.cells #[.int .i64 id, .int .i64 us1, .string mc, .int .i64 sip, .int .i64 be, .int .i64 la, .int .i64 ud, .int .i64 qu, .int .i64 un, .int .i64 il] 137)) nq) osq).cell? ⟨w.heap.size, 2, none⟩ = some (.int .i64 gt) ∧ (grow (World.drewN (wr.alloc (.cells #[.int .i64 id, .int .i64 us1, .string mc, .int .i64 sip, .int .i64 be, .int .i64 la, .int .i64 ud, .int .i64 qu, .int .i64 un, .int .i64 il] 137)) nq) osq).cell? ⟨w.heap.size, 3, none⟩ = some (.string gm) ∧ (grow (World.drewN (wr.alloc (.cells #[.int .i64 id, .int .i64 us1, .string mc, .int .i64 sip, .int .i64 be, .int .i64 la, .int .i64 ud, .int .i64 qu, .int .i64 un, .int .i64 il] 137)) nq) osq).cell? ⟨w.heap.size, 4, none⟩ = some (.string wm) ∧ (grow (World.drewN (wr.alloc (.cells #[.int .i64 id, .int .i64 us1, .string mc, .int .i64 sip, .int .i64 be, .int .i64 la, .int .i64 ud, .int .i64 qu, .int .i64 un, .int .i64 il] 137)) nq) osq).cell? ⟨w.heap.size, 5, none⟩ = some (.int .i64 rs) ∧ (grow (World.drewN (wr.alloc (.cells #[.int .i64 id, .int .i64 us1, .string mc, .int .i64 sip, .int .i64 be, .int .i64 la, .int .i64 ud, .int .i64 qu, .int .i64 un, .int .i64 il] 137)) nq) osq).cell? ⟨w.heap.size, 6, none⟩ = some (.slice x lenx capx) ∧ (grow (World.drewN (wr.alloc (.cells #[.int .i64 id, .int .i64 us1, .string mc, .int .i64 sip, .int .i64 be, .int .i64 la, .int .i64 ud, .int .i64 qu, .int .i64 un, .int .i64 il] 137)) nq) osq).cell? ⟨w.heap.size, 7, none⟩ = some (.slice y leny capy) ∧ (grow (World.drewN (wr.alloc (.cells #[.int .i64 id, .int .i64 us1, .string mc, .int .i64 sip, .int .i64 be, .int .i64 la, .int .i64 ud, .int .i64 qu, .int .i64 un, .int .i64 il] 137)) nq) osq).cell? ⟨w.heap.size + 1, 0, none⟩ = some (.slice ua ul uc) ∧ (grow (World.drewN (wr.alloc (.cells #[.int .i64 id, .int .i64 us1, .string mc, .int .i64 sip, .int .i64 be, .int .i64 la, .int .i64 ud, .int .i64 qu, .int .i64 un, .int .i64 il] 137)) nq) osq).cell? ⟨w.heap.size + 1, 1, none⟩ = some (.slice (some ⟨bk, off, none⟩) sl sc) ∧ (grow (World.drewN (wr.alloc (.cells #[.int .i64 id, .int .i64 us1, .string mc, .int .i64 sip, .int .i64 be, .int .i64 la, .int .i64 ud, .int .i64 qu, .int .i64 un, .int .i64 il] 137)) nq) osq).cell? ⟨w.heap.size + 1, 2, none⟩ = some (.slice fa fl fc) ∧ (grow (World.drewN (wr.alloc (.cells #[.int .i64 id, .int .i64 us1, .string mc, .int .i64 sip, .int .i64 be, .int .i64 la, .int .i64 ud, .int .i64 qu, .int .i64 un, .int .i64 il] 137)) nq) osq).cell? ⟨w.heap.size + 1, 3, none⟩ = some (.slice ra rl rc) ∧ (grow (World.drewN (wr.alloc (.cells #[.int .i64 id, .int .i64 us1, .string mc, .int .i64 sip, .int .i64 be, .int .i64 la, .int .i64 ud, .int .i64 qu, .int .i64 un, .int .i64 il] 137)) nq) osq).cell? ⟨w.heap.size + 1, 4, none⟩ = some (.int .i64 nx)) := ⟨HA.out.trans ⟨nq, osq, rfl⟩, e0 nq osq, e1 nq osq, e2 nq osq, e3 nq osq, e4 nq osq, e5 nq osq, e6 nq osq, e7 nq osq, e8 nq osq, e9 nq osq, e10 nq osq, e11 nq osq, e12 nq osq⟩
          clear y0 y1 y2 y3 y4 y5 y6 y7 y8 y9 e0 e1 e2 e3 e4 e5 e6 e7 e8 e9 e10 e11 e12
          go_wp2
          go_roundw
          case rel => exact ⟨k + 1, by omega, by go_num, HS', HG1⟩
          case measure => simp [intOf]; omega
      · obtain ⟨j, hkj⟩ : ∃ j, k = j + 1 := ⟨k - 1, by omega⟩
        obtain ⟨z', hx'⟩ := at_of (k := j) ls (by omega)
        obtain ⟨b', off', vs', e', hb', hvl', hR', hc'⟩ := RS.out.at SeR.kp GG hx'
        cases e'
        obtain ⟨id', us', mc', sip', be', la', ud', qu', un', il'⟩ := z'
        obtain ⟨rfl, -⟩ := hR'
        have p0 : wr.cell? ⟨bk, off + j * 10, none⟩ = some (.int .i64 id') := hc' 0 _ rfl
        obtain ⟨lt, hlt2⟩ : ∃ lt, decide (id' < id) = lt := ⟨_, rfl⟩
        have hlt3 : decide (id ≤ id') = !lt := by rw [← hlt2]; by_cases h : id' < id <;> simp [h] <;> omega
        have eo : risAt (sB nx ul ip b) ltId ss k = (sB nx ul ip b ⟨id, us1, mc, sip, be, la, ud, qu, un, il⟩ && lt) := by subst hkj; rw [← hlt2]; exact risAt_succ hx hx'
        have hkd : decide (0 < k) = true := decide_eq_true (by omega)
        have hj : (k : Int) - 1 = (j : Int) := by omega
        have hjl : (j : Int) < (sl : Int) := by omega
        clear hk0 hkj hlt2
        rw [eo] at HS HF
        generalize sB nx ul ip b ⟨id, us1, mc, sip, be, la, ud, qu, un, il⟩ = q at HK HS HF
        clear hc hvl hx eo hc' hvl' hx'
        have HA : Hid (Grw w (wr.alloc (.cells #[.int .i64 id, .int .i64 us1, .string mc, .int .i64 sip, .int .i64 be, .int .i64 la, .int .i64 ud, .int .i64 qu, .int .i64 un, .int .i64 il] 137))) := G0.alloc _
        have hmix : Tryz.prog.follows .mixedOrders = true := by kernel_rfl
        have y0 : ∀ n os, (grow (World.drewN (wr.alloc (.cells #[.int .i64 id, .int .i64 us1, .string mc, .int .i64 sip, .int .i64 be, .int .i64 la, .int .i64 ud, .int .i64 qu, .int .i64 un, .int .i64 il] 137)) n) os).cell? ⟨wr.heap.size, 0, none⟩ = some (.int .i64 id) := fun n os => cell_grown (by simp) (by simp) n os
        have y1 : ∀ n os, (grow (World.drewN (wr.alloc (.cells #[.int .i64 id, .int .i64 us1, .string mc, .int .i64 sip, .int .i64 be, .int .i64 la, .int .i64 ud, .int .i64 qu, .int .i64 un, .int .i64 il] 137)) n) os).cell? ⟨wr.heap.size, 1, none⟩ = some (.int .i64 us1) := fun n os => cell_grown (by simp) (by simp) n os
        have y2 : ∀ n os, (grow (World.drewN (wr.alloc (.cells #[.int .i64 id, .int .i64 us1, .string mc, .int .i64 sip, .int .i64 be, .int .i64 la, .int .i64 ud, .int .i64 qu, .int .i64 un, .int .i64 il] 137)) n) os).cell? ⟨wr.heap.size, 2, none⟩ = some (.string mc) := fun n os => cell_grown (by simp) (by simp) n os
        have y3 : ∀ n os, (grow (World.drewN (wr.alloc (.cells #[.int .i64 id, .int .i64 us1, .string mc, .int .i64 sip, .int .i64 be, .int .i64 la, .int .i64 ud, .int .i64 qu, .int .i64 un, .int .i64 il] 137)) n) os).cell? ⟨wr.heap.size, 3, none⟩ = some (.int .i64 sip) := fun n os => cell_grown (by simp) (by simp) n os
        have y4 : ∀ n os, (grow (World.drewN (wr.alloc (.cells #[.int .i64 id, .int .i64 us1, .string mc, .int .i64 sip, .int .i64 be, .int .i64 la, .int .i64 ud, .int .i64 qu, .int .i64 un, .int .i64 il] 137)) n) os).cell? ⟨wr.heap.size, 4, none⟩ = some (.int .i64 be) := fun n os => cell_grown (by simp) (by simp) n os
        have y5 : ∀ n os, (grow (World.drewN (wr.alloc (.cells #[.int .i64 id, .int .i64 us1, .string mc, .int .i64 sip, .int .i64 be, .int .i64 la, .int .i64 ud, .int .i64 qu, .int .i64 un, .int .i64 il] 137)) n) os).cell? ⟨wr.heap.size, 5, none⟩ = some (.int .i64 la) := fun n os => cell_grown (by simp) (by simp) n os
        have y6 : ∀ n os, (grow (World.drewN (wr.alloc (.cells #[.int .i64 id, .int .i64 us1, .string mc, .int .i64 sip, .int .i64 be, .int .i64 la, .int .i64 ud, .int .i64 qu, .int .i64 un, .int .i64 il] 137)) n) os).cell? ⟨wr.heap.size, 6, none⟩ = some (.int .i64 ud) := fun n os => cell_grown (by simp) (by simp) n os
        have y7 : ∀ n os, (grow (World.drewN (wr.alloc (.cells #[.int .i64 id, .int .i64 us1, .string mc, .int .i64 sip, .int .i64 be, .int .i64 la, .int .i64 ud, .int .i64 qu, .int .i64 un, .int .i64 il] 137)) n) os).cell? ⟨wr.heap.size, 7, none⟩ = some (.int .i64 qu) := fun n os => cell_grown (by simp) (by simp) n os
        have y8 : ∀ n os, (grow (World.drewN (wr.alloc (.cells #[.int .i64 id, .int .i64 us1, .string mc, .int .i64 sip, .int .i64 be, .int .i64 la, .int .i64 ud, .int .i64 qu, .int .i64 un, .int .i64 il] 137)) n) os).cell? ⟨wr.heap.size, 8, none⟩ = some (.int .i64 un) := fun n os => cell_grown (by simp) (by simp) n os
        have y9 : ∀ n os, (grow (World.drewN (wr.alloc (.cells #[.int .i64 id, .int .i64 us1, .string mc, .int .i64 sip, .int .i64 be, .int .i64 la, .int .i64 ud, .int .i64 qu, .int .i64 un, .int .i64 il] 137)) n) os).cell? ⟨wr.heap.size, 9, none⟩ = some (.int .i64 il) := fun n os => cell_grown (by simp) (by simp) n os
        have e0 : ∀ n os, (grow (World.drewN (wr.alloc (.cells #[.int .i64 id, .int .i64 us1, .string mc, .int .i64 sip, .int .i64 be, .int .i64 la, .int .i64 ud, .int .i64 qu, .int .i64 un, .int .i64 il] 137)) n) os).cell? ⟨w.heap.size, 0, none⟩ = some (.int .i64 ip) := fun n os => (((Grw.refl wr).alloc _).trans ⟨n, os, rfl⟩).keep d0
        have e1 : ∀ n os, (grow (World.drewN (wr.alloc (.cells #[.int .i64 id, .int .i64 us1, .string mc, .int .i64 sip, .int .i64 be, .int .i64 la, .int .i64 ud, .int .i64 qu, .int .i64 un, .int .i64 il] 137)) n) os).cell? ⟨w.heap.size, 1, none⟩ = some (.int .i64 b) := fun n os => (((Grw.refl wr).alloc _).trans ⟨n, os, rfl⟩).keep d1
        have e2 : ∀ n os, (grow (World.drewN (wr.alloc (.cells #[.int .i64 id, .int .i64 us1, .string mc, .int .i64 sip, .int .i64 be, .int .i64 la, .int .i64 ud, .int .i64 qu, .int .i64 un, .int .i64 il] 137)) n) os).cell? ⟨w.heap.size, 2, none⟩ = some (.int .i64 gt) := fun n os => (((Grw.refl wr).alloc _).trans ⟨n, os, rfl⟩).keep d2
        have e3 : ∀ n os, (grow (World.drewN (wr.alloc (.cells #[.int .i64 id, .int .i64 us1, .string mc, .int .i64 sip, .int .i64 be, .int .i64 la, .int .i64 ud, .int .i64 qu, .int .i64 un, .int .i64 il] 137)) n) os).cell? ⟨w.heap.size, 3, none⟩ = some (.string gm) := fun n os => (((Grw.refl wr).alloc _).trans ⟨n, os, rfl⟩).keep d3
        have e4 : ∀ n os, (grow (World.drewN (wr.alloc (.cells #[.int .i64 id, .int .i64 us1, .string mc, .int .i64 sip, .int .i64 be, .int .i64 la, .int .i64 ud, .int .i64 qu, .int .i64 un, .int .i64 il] 137)) n) os).cell? ⟨w.heap.size, 4, none⟩ = some (.string wm) := fun n os => (((Grw.refl wr).alloc _).trans ⟨n, os, rfl⟩).keep d4
        have e5 : ∀ n os, (grow (World.drewN (wr.alloc (.cells #[.int .i64 id, .int .i64 us1, .string mc, .int .i64 sip, .int .i64 be, .int .i64 la, .int .i64 ud, .int .i64 qu, .int .i64 un, .int .i64 il] 137)) n) os).cell? ⟨w.heap.size, 5, none⟩ = some (.int .i64 rs) := fun n os => (((Grw.refl wr).alloc _).trans ⟨n, os, rfl⟩).keep d5
        have e6 : ∀ n os, (grow (World.drewN (wr.alloc (.cells #[.int .i64 id, .int .i64 us1, .string mc, .int .i64 sip, .int .i64 be, .int .i64 la, .int .i64 ud, .int .i64 qu, .int .i64 un, .int .i64 il] 137)) n) os).cell? ⟨w.heap.size, 6, none⟩ = some (.slice x lenx capx) := fun n os => (((Grw.refl wr).alloc _).trans ⟨n, os, rfl⟩).keep d6
        have e7 : ∀ n os, (grow (World.drewN (wr.alloc (.cells #[.int .i64 id, .int .i64 us1, .string mc, .int .i64 sip, .int .i64 be, .int .i64 la, .int .i64 ud, .int .i64 qu, .int .i64 un, .int .i64 il] 137)) n) os).cell? ⟨w.heap.size, 7, none⟩ = some (.slice y leny capy) := fun n os => (((Grw.refl wr).alloc _).trans ⟨n, os, rfl⟩).keep d7
        have e8 : ∀ n os, (grow (World.drewN (wr.alloc (.cells #[.int .i64 id, .int .i64 us1, .string mc, .int .i64 sip, .int .i64 be, .int .i64 la, .int .i64 ud, .int .i64 qu, .int .i64 un, .int .i64 il] 137)) n) os).cell? ⟨w.heap.size + 1, 0, none⟩ = some (.slice ua ul uc) := fun n os => (((Grw.refl wr).alloc _).trans ⟨n, os, rfl⟩).keep d8
        have e9 : ∀ n os, (grow (World.drewN (wr.alloc (.cells #[.int .i64 id, .int .i64 us1, .string mc, .int .i64 sip, .int .i64 be, .int .i64 la, .int .i64 ud, .int .i64 qu, .int .i64 un, .int .i64 il] 137)) n) os).cell? ⟨w.heap.size + 1, 1, none⟩ = some (.slice (some ⟨bk, off, none⟩) sl sc) := fun n os => (((Grw.refl wr).alloc _).trans ⟨n, os, rfl⟩).keep d9
        have e10 : ∀ n os, (grow (World.drewN (wr.alloc (.cells #[.int .i64 id, .int .i64 us1, .string mc, .int .i64 sip, .int .i64 be, .int .i64 la, .int .i64 ud, .int .i64 qu, .int .i64 un, .int .i64 il] 137)) n) os).cell? ⟨w.heap.size + 1, 2, none⟩ = some (.slice fa fl fc) := fun n os => (((Grw.refl wr).alloc _).trans ⟨n, os, rfl⟩).keep d10
        have e11 : ∀ n os, (grow (World.drewN (wr.alloc (.cells #[.int .i64 id, .int .i64 us1, .string mc, .int .i64 sip, .int .i64 be, .int .i64 la, .int .i64 ud, .int .i64 qu, .int .i64 un, .int .i64 il] 137)) n) os).cell? ⟨w.heap.size + 1, 3, none⟩ = some (.slice ra rl rc) := fun n os => (((Grw.refl wr).alloc _).trans ⟨n, os, rfl⟩).keep d11
        have e12 : ∀ n os, (grow (World.drewN (wr.alloc (.cells #[.int .i64 id, .int .i64 us1, .string mc, .int .i64 sip, .int .i64 be, .int .i64 la, .int .i64 ud, .int .i64 qu, .int .i64 un, .int .i64 il] 137)) n) os).cell? ⟨w.heap.size + 1, 4, none⟩ = some (.int .i64 nx) := fun n os => (((Grw.refl wr).alloc _).trans ⟨n, os, rfl⟩).keep d12
        have p1 : ∀ n os, (grow (World.drewN (wr.alloc (.cells #[.int .i64 id, .int .i64 us1, .string mc, .int .i64 sip, .int .i64 be, .int .i64 la, .int .i64 ud, .int .i64 qu, .int .i64 un, .int .i64 il] 137)) n) os).cell? ⟨bk, off + j * 10, none⟩ = some (.int .i64 id') := fun n os => (((Grw.refl wr).alloc _).trans ⟨n, os, rfl⟩).keep p0
        cases q with
        | false =>
          have hv : Hid (z = false) := by show z = false; rw [E.out, HF.out (by simp)]; rfl
          go_wp2_with fail
          refine wp_region_quiet_grown (by assumption) (by kernel_rfl) ?_
          repeat (go_big_quiet_step (first | fail | (go_at_call 189; exact Calls.grown_of (HK.out _))))
          refine wpQuiet_nil ?_
          intro _ hw'
          obtain ⟨⟨nq, osq⟩, hw''⟩ := hw'
          subst hw''
          have HG1 : Hid (Grw w _) := HA.out.trans ⟨nq, osq, rfl⟩
          clear y0 y1 y2 y3 y4 y5 y6 y7 y8 y9 e0 e1 e2 e3 e4 e5 e6 e7 e8 e9 e10 e11 e12 p1
          go_wp2
          go_ret
          exact ⟨by rw [hv.out]; rfl, HG1.out.below⟩
        | true =>
          cases lt with
          | true =>
            have HS' : Hid ((List.range (k + 1)).all (risAt (sB nx ul ip b) ltId ss) = true) := HS.out (by simp)
            clear HS HF
            go_wp2_with fail
            refine wp_region_quiet_grown (by assumption) (by kernel_rfl) ?_
            repeat (go_big_quiet_step (first | fail | (go_at_call 189; exact Calls.grown_of (HK.out _))))
            refine wpQuiet_nil ?_
            intro _ hw'
            obtain ⟨⟨nq, osq⟩, hw''⟩ := hw'
            subst hw''
            have HG1 : Hid (Grw w (grow (World.drewN (wr.alloc (.cells #[.int .i64 id, .int .i64 us1, .string mc, .int .i64 sip, .int .i64 be, .int .i64 la, .int .i64 ud, .int .i64 qu, .int .i64 un, .int .i64 il] 137)) nq) osq) ∧ (grow (World.drewN (wr.alloc (.cells #[.int .i64 id, .int .i64 us1, .string mc, .int .i64 sip, .int .i64 be, .int .i64 la, .int .i64 ud, .int .i64 qu, .int .i64 un, .int .i64 il] 137)) nq) osq).cell? ⟨w.heap.size, 0, none⟩ = some (.int .i64 ip) ∧ (grow (World.drewN (wr.alloc (.cells #[.int .i64 id, .int .i64 us1, .string mc, .int .i64 sip, .int .i64 be, .int .i64 la, .int .i64 ud, .int .i64 qu, .int .i64 un, .int .i64 il] 137)) nq) osq).cell? ⟨w.heap.size, 1, none⟩ = some (.int .i64 b) ∧ (grow (World.drewN (wr.alloc (.cells #[.int .i64 id, .int .i64 us1, .string mc, .int .i64 sip, .int .i64 be, .int .i64 la, .int .i64 ud, .int .i64 qu, .int .i64 un, .int .i64 il] 137)) nq) osq).cell? ⟨w.heap.size, 2, none⟩ = some (.int .i64 gt) ∧ (grow (World.drewN (wr.alloc (.cells #[.int .i64 id, .int .i64 us1, .string mc, .int .i64 sip, .int .i64 be, .int .i64 la, .int .i64 ud, .int .i64 qu, .int .i64 un, .int .i64 il] 137)) nq) osq).cell? ⟨w.heap.size, 3, none⟩ = some (.string gm) ∧ (grow (World.drewN (wr.alloc (.cells #[.int .i64 id, .int .i64 us1, .string mc, .int .i64 sip, .int .i64 be, .int .i64 la, .int .i64 ud, .int .i64 qu, .int .i64 un, .int .i64 il] 137)) nq) osq).cell? ⟨w.heap.size, 4, none⟩ = some (.string wm) ∧ (grow (World.drewN (wr.alloc (.cells #[.int .i64 id, .int .i64 us1, .string mc, .int .i64 sip, .int .i64 be, .int .i64 la, .int .i64 ud, .int .i64 qu, .int .i64 un, .int .i64 il] 137)) nq) osq).cell? ⟨w.heap.size, 5, none⟩ = some (.int .i64 rs) ∧ (grow (World.drewN (wr.alloc (.cells #[.int .i64 id, .int .i64 us1, .string mc, .int .i64 sip, .int .i64 be, .int .i64 la, .int .i64 ud, .int .i64 qu, .int .i64 un, .int .i64 il] 137)) nq) osq).cell? ⟨w.heap.size, 6, none⟩ = some (.slice x lenx capx) ∧ (grow (World.drewN (wr.alloc (.cells #[.int .i64 id, .int .i64 us1, .string mc, .int .i64 sip, .int .i64 be, .int .i64 la, .int .i64 ud, .int .i64 qu, .int .i64 un, .int .i64 il] 137)) nq) osq).cell? ⟨w.heap.size, 7, none⟩ = some (.slice y leny capy) ∧ (grow (World.drewN (wr.alloc (.cells #[.int .i64 id, .int .i64 us1, .string mc, .int .i64 sip, .int .i64 be, .int .i64 la, .int .i64 ud, .int .i64 qu, .int .i64 un, .int .i64 il] 137)) nq) osq).cell? ⟨w.heap.size + 1, 0, none⟩ = some (.slice ua ul uc) ∧ (grow (World.drewN (wr.alloc (.cells #[.int .i64 id, .int .i64 us1, .string mc, .int .i64 sip, .int .i64 be, .int .i64 la, .int .i64 ud, .int .i64 qu, .int .i64 un, .int .i64 il] 137)) nq) osq).cell? ⟨w.heap.size + 1, 1, none⟩ = some (.slice (some ⟨bk, off, none⟩) sl sc) ∧ (grow (World.drewN (wr.alloc (.cells #[.int .i64 id, .int .i64 us1, .string mc, .int .i64 sip, .int .i64 be, .int .i64 la, .int .i64 ud, .int .i64 qu, .int .i64 un, .int .i64 il] 137)) nq) osq).cell? ⟨w.heap.size + 1, 2, none⟩ = some (.slice fa fl fc) ∧ (grow (World.drewN (wr.alloc (.cells #[.int .i64 id, .int .i64 us1, .string mc, .int .i64 sip, .int .i64 be, .int .i64 la, .int .i64 ud, .int .i64 qu, .int .i64 un, .int .i64 il] 137)) nq) osq).cell? ⟨w.heap.size + 1, 3, none⟩ = some (.slice ra rl rc) ∧ (grow (World.drewN (wr.alloc (.cells #[.int .i64 id, .int .i64 us1, .string mc, .int .i64 sip, .int .i64 be, .int .i64 la, .int .i64 ud, .int .i64 qu, .int .i64 un, .int .i64 il] 137)) nq) osq).cell? ⟨w.heap.size + 1, 4, none⟩ = some (.int .i64 nx)) := ⟨HA.out.trans ⟨nq, osq, rfl⟩, e0 nq osq, e1 nq osq, e2 nq osq, e3 nq osq, e4 nq osq, e5 nq osq, e6 nq osq, e7 nq osq, e8 nq osq, e9 nq osq, e10 nq osq, e11 nq osq, e12 nq osq⟩
            clear y0 y1 y2 y3 y4 y5 y6 y7 y8 y9 e0 e1 e2 e3 e4 e5 e6 e7 e8 e9 e10 e11 e12 p1
            go_wp2
            go_roundw
            case rel => exact ⟨k + 1, by omega, by go_num, HS', HG1⟩
            case measure => simp [intOf]; omega
          | false =>
            have hv : Hid (z = false) := by show z = false; rw [E.out, HF.out (by simp)]; rfl
            go_wp2_with fail
            refine wp_region_quiet_grown (by assumption) (by kernel_rfl) ?_
            repeat (go_big_quiet_step (first | fail | (go_at_call 189; exact Calls.grown_of (HK.out _))))
            refine wpQuiet_nil ?_
            intro _ hw'
            obtain ⟨⟨nq, osq⟩, hw''⟩ := hw'
            subst hw''
            have HG1 : Hid (Grw w _) := HA.out.trans ⟨nq, osq, rfl⟩
            clear y0 y1 y2 y3 y4 y5 y6 y7 y8 y9 e0 e1 e2 e3 e4 e5 e6 e7 e8 e9 e10 e11 e12 p1
            go_wp2
            go_ret
            exact ⟨by rw [hv.out]; rfl, HG1.out.below⟩
    · obtain rfl : sl = k := by omega
      have hr := ris_end ls HO.out
      have HA : Hid (∀ w, Rw SeR 10 w sa ss → Calls Tryz.prog 190 #[.slice sa sl sc] w fun e w' => e = .returned (.bool z) ∧ Below w.heap.size w w') := fun w h => by
        rw [E.out, hr, Bool.true_and]
        refine sessionsApart_any sa sl sc ss w h ls h3 (fun x hx => ?_)
        obtain ⟨i, hi⟩ := List.getElem?_of_mem hx
        exact S6.out x ((risB_iff.1 hr).1 i x hi)
      clear hr HO
      have B0 : Hid (Below w.heap.size w wr) := GG
      go_wp2_with fail
      refine (HA.out _ (RS.out.keep SeR.kp B0.out)).mono ?_
      rintro e w5 ⟨rfl, b5⟩
      have B5 : Hid (Below w.heap.size w w5) := B0.out.trans (b5.mono B0.out.size)
      clear b5
      go_wp2
      go_ret
      exact ⟨rfl, B5.out⟩
set_option maxHeartbeats 4000000 in
theorem failsOK_any (fa : Option Addr) (fl fc : Nat) (fs : List FailV) (w : World) (hf : Rw FaR 3 w fa fs) (lf : fs.length = fl) :
    Calls Tryz.prog 123 #[.slice fa fl fc] w fun e w' => e = .returned (.bool (dec (fs.length ≤ 20) && risB faB ltF fs)) ∧ Grw w w' := by
  have RF : Hid (Rw FaR 3 w fa fs) := hf
  clear hf
  by_cases h20 : fl ≤ 20
  rotate_left
  · rw [dec_n (by omega : ¬ fs.length ≤ 20)]
    have hz : (20 : Int) < (fl : Int) := by omega
    go_enter Tryz.func123, Tryz.ntmps123
    go_wp2
    go_ret
    exact ⟨rfl, Grw.refl _⟩
  rw [dec_y (by omega : fs.length ≤ 20), Bool.true_and]
  have hz : (fl : Int) ≤ 20 := by omega
  obtain ⟨z, hzz⟩ : ∃ z, z = risB faB ltF fs := ⟨_, rfl⟩
  have E : Hid (z = risB faB ltF fs) := hzz
  rw [← hzz]
  clear hzz
  go_enter Tryz.func123, Tryz.ntmps123
  go_wp2
  go_loopw [10] (fun u wr => ∃ k : Nat, k ≤ fl ∧ u = .int .i64 k ∧ Hid ((List.range k).all (risAt faB ltF fs) = true) ∧ Hid (Grw w wr)) (fun u _ => fl - (intOf u).toNat)
  case atStart => exact ⟨0, Nat.zero_le _, rfl, rfl, Grw.refl _⟩
  case round =>
    obtain ⟨k, hk, rfl, HO, HG⟩ := hrel
    by_cases hlt : k < fl
    · obtain ⟨x9, hx⟩ := at_of lf hlt
      obtain ⟨bk, off, vs, rfl, hbk, hvl, hR, hc⟩ := RF.out.at FaR.kp HG.out.below hx
      have HS : Hid (risAt faB ltF fs k = true → (List.range (k + 1)).all (risAt faB ltF fs) = true) := fun h => ris_step HO.out h
      have HF : Hid (risAt faB ltF fs k = false → z = false) := fun h => by rw [E.out]; exact ris_no (by omega) h
      obtain ⟨mc, ct, un⟩ := x9
      obtain ⟨rfl, -⟩ := hR
      have q0 : wr.cell? ⟨bk, off + k * 3, none⟩ = some (.string mc) := hc 0 _ rfl
      have q1 : wr.cell? ⟨bk, off + k * 3 + 1, none⟩ = some (.int .i64 ct) := hc 1 _ rfl
      have q2 : wr.cell? ⟨bk, off + k * 3 + 2, none⟩ = some (.int .i64 un) := hc 2 _ rfl
      have hltz : (k : Int) < (fl : Int) := by omega
      have T0 : Hid (∀ w, Calls Tryz.prog 185 #[.string mc] w fun e w' => e = .returned (.bool (dec (mc.size = 6))) ∧ w' = w) := fun w => isMac_any mc w
      have T1 : Hid (∀ w, Calls Tryz.prog 85 #[.int .i64 ct, .int .i64 0, .int .i64 2] w fun e w' => e = .returned (.bool (dec (0 ≤ ct ∧ ct ≤ 2))) ∧ w' = w) := fun w => between_any ct 0 2 w
      have T2 : Hid (∀ w, Calls Tryz.prog 85 #[.int .i64 un, .int .i64 0, .int .i64 100010] w fun e w' => e = .returned (.bool (dec (0 ≤ un ∧ un ≤ 100010))) ∧ w' = w) := fun w => between_any un 0 100010 w
      by_cases hk0 : k = 0
      · have eo : risAt faB ltF fs k = faB ⟨mc, ct, un⟩ := by subst hk0; exact risAt_zero hx
        have hkd : decide (0 < k) = false := decide_eq_false (by omega)
        clear hk0
        have eu : faB ⟨mc, ct, un⟩ = (dec (mc.size = 6) && (dec (0 ≤ ct ∧ ct ≤ 2) && dec (0 ≤ un ∧ un ≤ 100010))) := rfl
        rw [eo, eu] at HS HF
        generalize dec (mc.size = 6) = q1 at T0 HS HF
        generalize dec (0 ≤ ct ∧ ct ≤ 2) = q2 at T1 HS HF
        generalize dec (0 ≤ un ∧ un ≤ 100010) = q3 at T2 HS HF
        clear hc hvl hx eo eu
        have HG1 : Hid (Grw w (wr.alloc (.cells #[.string mc, .int .i64 ct, .int .i64 un] 179))) := HG.out.alloc _
        have hmix : Tryz.prog.follows .mixedOrders = true := by kernel_rfl
        have y0 : ∀ n os, (grow (World.drewN (wr.alloc (.cells #[.string mc, .int .i64 ct, .int .i64 un] 179)) n) os).cell? ⟨wr.heap.size, 0, none⟩ = some (.string mc) := fun n os => cell_grown (by simp) (by simp) n os
        have y1 : ∀ n os, (grow (World.drewN (wr.alloc (.cells #[.string mc, .int .i64 ct, .int .i64 un] 179)) n) os).cell? ⟨wr.heap.size, 1, none⟩ = some (.int .i64 ct) := fun n os => cell_grown (by simp) (by simp) n os
        have y2 : ∀ n os, (grow (World.drewN (wr.alloc (.cells #[.string mc, .int .i64 ct, .int .i64 un] 179)) n) os).cell? ⟨wr.heap.size, 2, none⟩ = some (.int .i64 un) := fun n os => cell_grown (by simp) (by simp) n os
        go_wp2_with fail
        refine (T0.out _).mono ?_
        rintro e w1 ⟨rfl, hw⟩
        subst hw
        cases q1 with
        | false =>
          have hv : Hid (z = false) := HF.out (by simp)
          go_wp2
          go_ret
          exact ⟨by rw [hv.out]; rfl, HG1.out⟩
        | true =>
          go_wp2_with fail
          refine (T1.out _).mono ?_
          rintro e w1 ⟨rfl, hw⟩
          subst hw
          cases q2 with
          | false =>
            have hv : Hid (z = false) := HF.out (by simp)
            go_wp2
            go_ret
            exact ⟨by rw [hv.out]; rfl, HG1.out⟩
          | true =>
            go_wp2_with fail
            refine (T2.out _).mono ?_
            rintro e w1 ⟨rfl, hw⟩
            subst hw
            cases q3 with
            | false =>
              have hv : Hid (z = false) := HF.out (by simp)
              go_wp2
              go_ret
              exact ⟨by rw [hv.out]; rfl, HG1.out⟩
            | true =>
              have HS' : Hid ((List.range (k + 1)).all (risAt faB ltF fs) = true) := HS.out (by simp)
              clear HS HF
              go_wp2_with fail
              refine wp_region_quiet_grown (by assumption) (by kernel_rfl) ?_
              repeat (go_big_quiet_step (first | fail | fail))
              refine wpQuiet_nil ?_
              intro _ hw'
              obtain ⟨⟨nq, osq⟩, hw''⟩ := hw'
              subst hw''
              have HG2 : Hid (Grw w _) := HG1.out.trans ⟨nq, osq, rfl⟩
              clear y0 y1 y2
              go_wp2
              go_roundw
              case rel => exact ⟨k + 1, by omega, by go_num, HS', HG2⟩
              case measure => simp [intOf]; omega
      · obtain ⟨j, hkj⟩ : ∃ j, k = j + 1 := ⟨k - 1, by omega⟩
        obtain ⟨z', hx'⟩ := at_of (k := j) lf (by omega)
        obtain ⟨b', off', vs', e', hb', hvl', hR', hc'⟩ := RF.out.at FaR.kp HG.out.below hx'
        cases e'
        obtain ⟨mc', ct', un'⟩ := z'
        obtain ⟨rfl, -⟩ := hR'
        have p0 : wr.cell? ⟨bk, off + j * 3, none⟩ = some (.string mc') := hc' 0 _ rfl
        obtain ⟨lt, hlt2⟩ : ∃ lt, Op.bytesLess mc'.toList mc.toList = lt := ⟨_, rfl⟩
        have eo : risAt faB ltF fs k = (faB ⟨mc, ct, un⟩ && lt) := by subst hkj; rw [← hlt2]; exact risAt_succ hx hx'
        have hkd : decide (0 < k) = true := decide_eq_true (by omega)
        have hj : (k : Int) - 1 = (j : Int) := by omega
        have hjl : (j : Int) < (fl : Int) := by omega
        clear hk0 hkj
        have eu : faB ⟨mc, ct, un⟩ = (dec (mc.size = 6) && (dec (0 ≤ ct ∧ ct ≤ 2) && dec (0 ≤ un ∧ un ≤ 100010))) := rfl
        rw [eo, eu] at HS HF
        generalize dec (mc.size = 6) = q1 at T0 HS HF
        generalize dec (0 ≤ ct ∧ ct ≤ 2) = q2 at T1 HS HF
        generalize dec (0 ≤ un ∧ un ≤ 100010) = q3 at T2 HS HF
        clear hc hvl hx eo eu hc' hvl' hx'
        have HG1 : Hid (Grw w (wr.alloc (.cells #[.string mc, .int .i64 ct, .int .i64 un] 179))) := HG.out.alloc _
        have hmix : Tryz.prog.follows .mixedOrders = true := by kernel_rfl
        have y0 : ∀ n os, (grow (World.drewN (wr.alloc (.cells #[.string mc, .int .i64 ct, .int .i64 un] 179)) n) os).cell? ⟨wr.heap.size, 0, none⟩ = some (.string mc) := fun n os => cell_grown (by simp) (by simp) n os
        have y1 : ∀ n os, (grow (World.drewN (wr.alloc (.cells #[.string mc, .int .i64 ct, .int .i64 un] 179)) n) os).cell? ⟨wr.heap.size, 1, none⟩ = some (.int .i64 ct) := fun n os => cell_grown (by simp) (by simp) n os
        have y2 : ∀ n os, (grow (World.drewN (wr.alloc (.cells #[.string mc, .int .i64 ct, .int .i64 un] 179)) n) os).cell? ⟨wr.heap.size, 2, none⟩ = some (.int .i64 un) := fun n os => cell_grown (by simp) (by simp) n os
        have p1 : ∀ n os, (grow (World.drewN (wr.alloc (.cells #[.string mc, .int .i64 ct, .int .i64 un] 179)) n) os).cell? ⟨bk, off + j * 3, none⟩ = some (.string mc') := fun n os => (((Grw.refl wr).alloc _).trans ⟨n, os, rfl⟩).keep p0
        go_wp2_with fail
        refine (T0.out _).mono ?_
        rintro e w1 ⟨rfl, hw⟩
        subst hw
        cases q1 with
        | false =>
          have hv : Hid (z = false) := HF.out (by simp)
          go_wp2
          go_ret
          exact ⟨by rw [hv.out]; rfl, HG1.out⟩
        | true =>
          go_wp2_with fail
          refine (T1.out _).mono ?_
          rintro e w1 ⟨rfl, hw⟩
          subst hw
          cases q2 with
          | false =>
            have hv : Hid (z = false) := HF.out (by simp)
            go_wp2
            go_ret
            exact ⟨by rw [hv.out]; rfl, HG1.out⟩
          | true =>
            go_wp2_with fail
            refine (T2.out _).mono ?_
            rintro e w1 ⟨rfl, hw⟩
            subst hw
            cases q3 with
            | false =>
              have hv : Hid (z = false) := HF.out (by simp)
              go_wp2
              go_ret
              exact ⟨by rw [hv.out]; rfl, HG1.out⟩
            | true =>
              cases lt with
              | true =>
                have HS' : Hid ((List.range (k + 1)).all (risAt faB ltF fs) = true) := HS.out (by simp)
                clear HS HF
                go_wp2_with fail
                refine wp_region_quiet_grown (by assumption) (by kernel_rfl) ?_
                repeat (go_big_quiet_step (first | fail | fail))
                refine wpQuiet_nil ?_
                intro _ hw'
                obtain ⟨⟨nq, osq⟩, hw''⟩ := hw'
                subst hw''
                have HG2 : Hid (Grw w _) := HG1.out.trans ⟨nq, osq, rfl⟩
                clear y0 y1 y2 p1
                go_wp2
                go_roundw
                case rel => exact ⟨k + 1, by omega, by go_num, HS', HG2⟩
                case measure => simp [intOf]; omega
              | false =>
                have hv : Hid (z = false) := HF.out (by simp)
                go_wp2_with fail
                refine wp_region_quiet_grown (by assumption) (by kernel_rfl) ?_
                repeat (go_big_quiet_step (first | fail | fail))
                refine wpQuiet_nil ?_
                intro _ hw'
                obtain ⟨⟨nq, osq⟩, hw''⟩ := hw'
                subst hw''
                have HG2 : Hid (Grw w _) := HG1.out.trans ⟨nq, osq, rfl⟩
                go_wp2
                go_ret
                exact ⟨by rw [hv.out]; rfl, HG2.out⟩
    · obtain rfl : fl = k := by omega
      have hv : Hid (z = true) := by show z = true; rw [E.out, ris_end lf HO.out]
      clear HO
      go_wp2
      go_ret
      exact ⟨by rw [hv.out]; rfl, HG.out⟩
def reE (r : RecV) : Bool := if r.st then dec (1 ≤ r.ca ∧ r.ca ≤ 6) && dec (0 ≤ r.bt ∧ r.bt ≤ 1000000) else dec (r.ca = 0) && dec (r.bt = 0)
theorem reB_eq (nx : Int) (r : RecV) : reB nx r = (dec (1 ≤ r.id ∧ r.id ≤ nx - 1) && (dec (0 ≤ r.tm ∧ r.tm ≤ 100000) && reE r)) := by
  obtain ⟨id, tm, ca, bt, st⟩ := r
  unfold reB reE dec
  cases st
  · rw [Bool.eq_iff_iff]
    simp
    intro _ _ _ _
    constructor
    · rintro ⟨h1, h2, h3, h4⟩
      omega
    · rintro ⟨h1, h2⟩
      omega
  · rw [Bool.eq_iff_iff]
    simp
    intro _ _ _ _
    constructor
    · rintro ⟨h1, h2, h3⟩
      omega
    · rintro ⟨h1, h2⟩
      omega
set_option maxHeartbeats 1000000 in
theorem recordEndOK_any (rid rtm rca rbt : Int) (rst : Bool) (w : World) :
    Calls Tryz.prog 191 #[.agg #[.int .i64 rid, .int .i64 rtm, .int .i64 rca, .int .i64 rbt, .bool rst]] w fun e w' => e = .returned (.bool (reE ⟨rid, rtm, rca, rbt, rst⟩)) ∧ Grw w w' := by
  cases rst with
  | true =>
    have e : reE ⟨rid, rtm, rca, rbt, true⟩ = (dec (1 ≤ rca ∧ rca ≤ 6) && dec (0 ≤ rbt ∧ rbt ≤ 1000000)) := rfl
    rw [e]
    have T0 : Hid (∀ w, Calls Tryz.prog 244 #[.int .i64 rca] w fun e w' => e = .returned (.bool (dec (1 ≤ rca ∧ rca ≤ 6))) ∧ w' = w) := fun w => causeOK_any rca w
    have T1 : Hid (∀ w, Calls Tryz.prog 245 #[.int .i64 rbt] w fun e w' => e = .returned (.bool (dec (0 ≤ rbt ∧ rbt ≤ 1000000))) ∧ w' = w) := fun w => bytesOK_any rbt w
    generalize dec (1 ≤ rca ∧ rca ≤ 6) = q at T0 ⊢
    generalize dec (0 ≤ rbt ∧ rbt ≤ 1000000) = r at T1 ⊢
    cases q with
    | false =>
      go_enter Tryz.func191, Tryz.ntmps191
      go_wp2_with fail
      refine (T0.out _).mono ?_
      rintro e w1 ⟨rfl, hw⟩
      subst hw
      go_wp2
      go_ret
      exact ⟨rfl, (Grw.refl _).alloc _⟩
    | true =>
      go_enter Tryz.func191, Tryz.ntmps191
      go_wp2_with fail
      refine (T0.out _).mono ?_
      rintro e w1 ⟨rfl, hw⟩
      subst hw
      go_wp2_with fail
      refine (T1.out _).mono ?_
      rintro e w1 ⟨rfl, hw⟩
      subst hw
      go_wp2
      go_ret
      exact ⟨by first | rfl | simp, (Grw.refl _).alloc _⟩
  | false =>
    have e : reE ⟨rid, rtm, rca, rbt, false⟩ = (dec (rca = 0) && dec (rbt = 0)) := rfl
    rw [e]
    by_cases h1 : rca = 0
    · rw [dec_y h1]
      have hz1 : (rca == 0) = true := by simp [h1]
      clear h1
      by_cases h2 : rbt = 0
      · rw [dec_y h2]
        have hz2 : (rbt == 0) = true := by simp [h2]
        clear h2
        go_enter Tryz.func191, Tryz.ntmps191
        go_wp2
        go_ret
        exact ⟨rfl, (Grw.refl _).alloc _⟩
      · rw [dec_n h2]
        have hz2 : (rbt == 0) = false := by simp [h2]
        go_enter Tryz.func191, Tryz.ntmps191
        go_wp2
        go_ret
        exact ⟨rfl, (Grw.refl _).alloc _⟩
    · rw [dec_n h1]
      have hz1 : (rca == 0) = false := by simp [h1]
      go_enter Tryz.func191, Tryz.ntmps191
      go_wp2
      go_ret
      exact ⟨rfl, (Grw.refl _).alloc _⟩
set_option maxHeartbeats 4000000 in
theorem recordsOK_any (ua sa fa ra : Option Addr) (ul uc sl sc fl fc rl rc : Nat) (nx : Int) (es : List RecV) (w : World) (hr : Rw ReR 5 w ra es) (lr : es.length = rl) (hn1 : 1 ≤ nx) (hn2 : nx ≤ 10000) :
    Calls Tryz.prog 124 #[.agg #[.slice ua ul uc, .slice sa sl sc, .slice fa fl fc, .slice ra rl rc, .int .i64 nx]] w fun e w' => e = .returned (.bool (dec (es.length ≤ 60) && es.all (reB nx))) ∧ Grw w w' := by
  have RR : Hid (Rw ReR 5 w ra es) := hr
  clear hr
  by_cases h60 : rl ≤ 60
  rotate_left
  · rw [dec_n (by omega : ¬ es.length ≤ 60)]
    have hz : (60 : Int) < (rl : Int) := by omega
    go_enter Tryz.func124, Tryz.ntmps124
    go_wp2
    go_ret
    exact ⟨rfl, (Grw.refl _).alloc _⟩
  rw [dec_y (by omega : es.length ≤ 60), Bool.true_and]
  have hz : (rl : Int) ≤ 60 := by omega
  go_enter Tryz.func124, Tryz.ntmps124
  go_wp2
  go_loopw [12] (fun u wr => ∃ k : Nat, k ≤ rl ∧ u = .int .i64 k ∧ Hid ((es.take k).all (reB nx) = true) ∧ Hid (Grw w wr ∧ wr.cell? ⟨w.heap.size, 4, none⟩ = some (.int .i64 nx))) (fun u _ => rl - (intOf u).toNat)
  case atStart => exact ⟨0, Nat.zero_le _, rfl, rfl, (Grw.refl _).alloc _, by simp [go_sem]⟩
  case round =>
    obtain ⟨k, hk, rfl, HO, HG⟩ := hrel
    have e4 := HG.out.2
    by_cases hlt : k < rl
    · obtain ⟨x9, hx⟩ := at_of lr hlt
      obtain ⟨bk, off, vs, rfl, hbk, hvl, hR, hc⟩ := RR.out.at ReR.kp HG.out.1.below hx
      have HS : Hid (reB nx x9 = true → (es.take (k + 1)).all (reB nx) = true) := fun h => all_step2 hx HO.out h
      have HF : Hid (reB nx x9 = false → es.all (reB nx) = false) := fun h => all_no hx h
      rw [reB_eq] at HS HF
      obtain ⟨rid, rtm, rca, rbt, rst⟩ := x9
      obtain ⟨rfl, -⟩ := hR
      have q0 : wr.cell? ⟨bk, off + k * 5, none⟩ = some (.int .i64 rid) := hc 0 _ rfl
      have q1 : wr.cell? ⟨bk, off + k * 5 + 1, none⟩ = some (.int .i64 rtm) := hc 1 _ rfl
      have q2 : wr.cell? ⟨bk, off + k * 5 + 2, none⟩ = some (.int .i64 rca) := hc 2 _ rfl
      have q3 : wr.cell? ⟨bk, off + k * 5 + 3, none⟩ = some (.int .i64 rbt) := hc 3 _ rfl
      have q4 : wr.cell? ⟨bk, off + k * 5 + 4, none⟩ = some (.bool rst) := hc 4 _ rfl
      have hltz : (k : Int) < (rl : Int) := by omega
      have T0 : Hid (∀ w, Calls Tryz.prog 85 #[.int .i64 rid, .int .i64 1, .int .i64 (nx - 1)] w fun e w' => e = .returned (.bool (dec (1 ≤ rid ∧ rid ≤ nx - 1))) ∧ w' = w) := fun w => between_any rid 1 (nx - 1) w
      have T1 : Hid (∀ w, Calls Tryz.prog 84 #[.int .i64 rtm] w fun e w' => e = .returned (.bool (dec (0 ≤ rtm ∧ rtm ≤ 100000))) ∧ w' = w) := fun w => timeOK_any rtm w
      have T2 : Hid (∀ w, Calls Tryz.prog 191 #[.agg #[.int .i64 rid, .int .i64 rtm, .int .i64 rca, .int .i64 rbt, .bool rst]] w fun e w' => e = .returned (.bool (reE ⟨rid, rtm, rca, rbt, rst⟩)) ∧ Grw w w') := fun w => recordEndOK_any rid rtm rca rbt rst w
      dsimp only at HS HF
      generalize dec (1 ≤ rid ∧ rid ≤ nx - 1) = t0 at T0 HS HF
      generalize dec (0 ≤ rtm ∧ rtm ≤ 100000) = t1 at T1 HS HF
      generalize reE ⟨rid, rtm, rca, rbt, rst⟩ = t2 at T2 HS HF
      clear hc hvl hx
      have f4 := acell e4 (.cells #[.int .i64 rid, .int .i64 rtm, .int .i64 rca, .int .i64 rbt, .bool rst] 163)
      have HG1 : Hid (Grw w (wr.alloc (.cells #[.int .i64 rid, .int .i64 rtm, .int .i64 rca, .int .i64 rbt, .bool rst] 163)) ∧ (wr.alloc (.cells #[.int .i64 rid, .int .i64 rtm, .int .i64 rca, .int .i64 rbt, .bool rst] 163)).cell? ⟨w.heap.size, 4, none⟩ = some (.int .i64 nx)) := ⟨HG.out.1.alloc _, f4⟩
      go_wp2_with fail
      refine (T0.out _).mono ?_
      rintro e w1 ⟨rfl, hw⟩
      subst hw
      cases t0 with
      | false =>
        have hd : Hid (es.all (reB nx) = false) := HF.out (by simp)
        go_wp2
        go_ret
        exact ⟨by rw [hd.out]; rfl, HG1.out.1⟩
      | true =>
        go_wp2_with fail
        refine (T1.out _).mono ?_
        rintro e w1 ⟨rfl, hw⟩
        subst hw
        cases t1 with
        | false =>
          have hd : Hid (es.all (reB nx) = false) := HF.out (by simp)
          go_wp2
          go_ret
          exact ⟨by rw [hd.out]; rfl, HG1.out.1⟩
        | true =>
          go_wp2_with fail
          refine (T2.out _).mono ?_
          rintro e w5 ⟨rfl, g5⟩
          have HG5 : Hid (Grw w w5 ∧ w5.cell? ⟨w.heap.size, 4, none⟩ = some (.int .i64 nx)) := ⟨HG1.out.1.trans g5, g5.keep HG1.out.2⟩
          clear g5 HG1 HG f4 e4
          cases t2 with
          | false =>
            have hd : Hid (es.all (reB nx) = false) := HF.out (by simp)
            go_wp2
            go_ret
            exact ⟨by rw [hd.out]; rfl, HG5.out.1⟩
          | true =>
            have HS' : Hid ((es.take (k + 1)).all (reB nx) = true) := HS.out (by simp)
            clear HS HF
            go_wp2
            go_roundw
            case rel => exact ⟨k + 1, by omega, by go_num, HS', HG5⟩
            case measure => simp [intOf]; omega
    · obtain rfl : rl = k := by omega
      have hd : Hid (es.all (reB nx) = true) := all_end lr HO.out
      go_wp2
      go_ret
      exact ⟨by rw [hd.out]; rfl, HG.out.1⟩
set_option maxHeartbeats 4000000 in
theorem implGuests_any (ip b gt : Int) (gm wm : ByteArray) (rs : Int) (x y : Option Addr) (lenx capx leny capy : Nat) (ps : List PlaceV) (ros : List RoleV) (ua sa fa ra : Option Addr) (ul uc sl sc fl fc rl rc : Nat) (us : List UserV) (ss : List SessV) (fs : List FailV) (es : List RecV) (nx : Int) (w : World) (h : Rw PlR 4 w x ps) (hl : ps.length = lenx) (h2 : Rw (RoR 0) 5 w y ros) (hl2 : ros.length = leny) (hsz : SzR ros) (hl9 : leny ≤ 1048576)
    (hu : Rw UsR 6 w ua us) (lu : us.length = ul) (hs : Rw SeR 10 w sa ss) (ls : ss.length = sl) (hf : Rw FaR 3 w fa fs) (lf : fs.length = fl) (hr : Rw ReR 5 w ra es) (lr : es.length = rl) (hszu : SzU us) (mu : ul ≤ 1048576) :
    Calls Tryz.prog 49 #[.agg #[.int .i64 ip, .int .i64 b, .int .i64 gt, .string gm, .string wm, .int .i64 rs, .slice x lenx capx, .slice y leny capy], .agg #[.slice ua ul uc, .slice sa sl sc, .slice fa fl fc, .slice ra rl rc, .int .i64 nx]] w fun e w' => e = .returned (.bool (gokB ip b gt gm wm rs ps ros us ss fs es nx)) ∧ Below w.heap.size w w' := by
  have RX : Hid (Rw PlR 4 w x ps) := h
  have RY : Hid (Rw (RoR 0) 5 w y ros) := h2
  have RU : Hid (Rw UsR 6 w ua us) := hu
  have RS : Hid (Rw SeR 10 w sa ss) := hs
  have RF : Hid (Rw FaR 3 w fa fs) := hf
  have RR : Hid (Rw ReR 5 w ra es) := hr
  have HC : Hid (∀ w, Rw PlR 4 w x ps → Rw (RoR 0) 5 w y ros → Calls Tryz.prog 120 #[.agg #[.int .i64 ip, .int .i64 b, .int .i64 gt, .string gm, .string wm, .int .i64 rs, .slice x lenx capx, .slice y leny capy]] w fun e w' => e = .returned (.bool (confB ip b gt gm wm rs ps ros)) ∧ Below w.heap.size w w') := fun w h h2 => (implConfig_any ip b gt gm wm rs x y lenx capx leny capy ps ros w h hl h2 hl2 hsz).mono fun e w' h => ⟨h.1, h.2.below⟩
  have HU : Hid (∀ w, Rw (RoR 0) 5 w y ros → Rw UsR 6 w ua us → Calls Tryz.prog 121 #[.agg #[.int .i64 ip, .int .i64 b, .int .i64 gt, .string gm, .string wm, .int .i64 rs, .slice x lenx capx, .slice y leny capy], .slice ua ul uc] w fun e w' => e = .returned (.bool (usB ros us)) ∧ Below w.heap.size w w') := fun w h h2 => (usersOK_any ip b gt gm wm rs x y lenx capx leny capy ros ua ul uc us w h hl2 h2 lu hszu hl9 mu).mono fun e w' h => ⟨h.1, h.2.below⟩
  have HN : Hid (∀ w, Calls Tryz.prog 85 #[.int .i64 nx, .int .i64 1, .int .i64 10000] w fun e w' => e = .returned (.bool (dec (1 ≤ nx ∧ nx ≤ 10000))) ∧ w' = w) := fun w => between_any nx 1 10000 w
  have HS : Hid (nB ip b = true → 1 ≤ nx → nx ≤ 10000 → ∀ w, Rw SeR 10 w sa ss → Calls Tryz.prog 122 #[.agg #[.int .i64 ip, .int .i64 b, .int .i64 gt, .string gm, .string wm, .int .i64 rs, .slice x lenx capx, .slice y leny capy], .agg #[.slice ua ul uc, .slice sa sl sc, .slice fa fl fc, .slice ra rl rc, .int .i64 nx]] w fun e w' => e = .returned (.bool (dec (ss.length ≤ 3) && seB (sB nx us.length ip b) ss)) ∧ Below w.heap.size w w') := fun hn h1 h2 w h => by rw [lu]; exact sessionsOK_any ip b gt gm wm rs x y lenx capx leny capy ua sa fa ra ul uc sl sc fl fc rl rc nx ss w h ls hn h1 h2 mu
  have HF : Hid (∀ w, Rw FaR 3 w fa fs → Calls Tryz.prog 123 #[.slice fa fl fc] w fun e w' => e = .returned (.bool (dec (fs.length ≤ 20) && risB faB ltF fs)) ∧ Below w.heap.size w w') := fun w h => (failsOK_any fa fl fc fs w h lf).mono fun e w' h => ⟨h.1, h.2.below⟩
  have HR : Hid (1 ≤ nx → nx ≤ 10000 → ∀ w, Rw ReR 5 w ra es → Calls Tryz.prog 124 #[.agg #[.slice ua ul uc, .slice sa sl sc, .slice fa fl fc, .slice ra rl rc, .int .i64 nx]] w fun e w' => e = .returned (.bool (dec (es.length ≤ 60) && es.all (reB nx))) ∧ Below w.heap.size w w') := fun h1 h2 w h => (recordsOK_any ua sa fa ra ul uc sl sc fl fc rl rc nx es w h lr h1 h2).mono fun e w' h => ⟨h.1, h.2.below⟩
  have hbb0 : confB ip b gt gm wm rs ps ros = true → nB ip b = true := fun h => by
    unfold confB at h
    simp only [Bool.and_eq_true] at h
    exact h.1
  obtain ⟨z, hz⟩ : ∃ z, z = gokB ip b gt gm wm rs ps ros us ss fs es nx := ⟨_, rfl⟩
  have E : Hid (z = (confB ip b gt gm wm rs ps ros && (dec (1 ≤ nx ∧ nx ≤ 10000) && (usB ros us && ((dec (ss.length ≤ 3) && seB (sB nx us.length ip b) ss) && ((dec (fs.length ≤ 20) && risB faB ltF fs) && (dec (es.length ≤ 60) && es.all (reB nx)))))))) := by rw [hz]; rfl
  rw [← hz]
  clear hz h h2 hu hs hf hr hszu hsz
  obtain ⟨q0, hq0⟩ : ∃ q, q = confB ip b gt gm wm rs ps ros := ⟨_, rfl⟩
  rw [← hq0] at HC E hbb0
  have HBB : Hid (q0 = true → nB ip b = true) := hbb0
  clear hq0 hbb0
  generalize usB ros us = q2 at HU E
  obtain ⟨q1, hq1⟩ : ∃ q, q = dec (1 ≤ nx ∧ nx ≤ 10000) := ⟨_, rfl⟩
  rw [← hq1] at HN E
  have HQ1 : Hid (q1 = dec (1 ≤ nx ∧ nx ≤ 10000)) := hq1
  clear hq1
  generalize (dec (ss.length ≤ 3) && seB (sB nx us.length ip b) ss) = q3 at HS E
  generalize (dec (fs.length ≤ 20) && risB faB ltF fs) = q4 at HF E
  generalize (dec (es.length ≤ 60) && es.all (reB nx)) = q5 at HR E
  go_enter Tryz.func49, Tryz.ntmps49
  go_wp2_with fail
  refine (HC.out _ (RX.out.keep PlR.kp (((Below.refl w.heap.size w).alloc (by simp <;> omega) _).alloc (by simp <;> omega) _)) (RY.out.keep (RoR.kp 0) (((Below.refl w.heap.size w).alloc (by simp <;> omega) _).alloc (by simp <;> omega) _))).mono ?_
  rintro e wx1 ⟨rfl, bx⟩
  have c1_0_0 : wx1.cell? ⟨w.heap.size, 0, none⟩ = some (.int .i64 ip) := bkeep bx (by simp [go_sem])
  have c1_0_1 : wx1.cell? ⟨w.heap.size, 1, none⟩ = some (.int .i64 b) := bkeep bx (by simp [go_sem])
  have c1_0_2 : wx1.cell? ⟨w.heap.size, 2, none⟩ = some (.int .i64 gt) := bkeep bx (by simp [go_sem])
  have c1_0_3 : wx1.cell? ⟨w.heap.size, 3, none⟩ = some (.string gm) := bkeep bx (by simp [go_sem])
  have c1_0_4 : wx1.cell? ⟨w.heap.size, 4, none⟩ = some (.string wm) := bkeep bx (by simp [go_sem])
  have c1_0_5 : wx1.cell? ⟨w.heap.size, 5, none⟩ = some (.int .i64 rs) := bkeep bx (by simp [go_sem])
  have c1_0_6 : wx1.cell? ⟨w.heap.size, 6, none⟩ = some (.slice x lenx capx) := bkeep bx (by simp [go_sem])
  have c1_0_7 : wx1.cell? ⟨w.heap.size, 7, none⟩ = some (.slice y leny capy) := bkeep bx (by simp [go_sem])
  have c1_1_0 : wx1.cell? ⟨w.heap.size + 1, 0, none⟩ = some (.slice ua ul uc) := bkeep bx (by simp [go_sem])
  have c1_1_1 : wx1.cell? ⟨w.heap.size + 1, 1, none⟩ = some (.slice sa sl sc) := bkeep bx (by simp [go_sem])
  have c1_1_2 : wx1.cell? ⟨w.heap.size + 1, 2, none⟩ = some (.slice fa fl fc) := bkeep bx (by simp [go_sem])
  have c1_1_3 : wx1.cell? ⟨w.heap.size + 1, 3, none⟩ = some (.slice ra rl rc) := bkeep bx (by simp [go_sem])
  have c1_1_4 : wx1.cell? ⟨w.heap.size + 1, 4, none⟩ = some (.int .i64 nx) := bkeep bx (by simp [go_sem])
  have BX1 : Hid (Below w.heap.size w wx1) := (((Below.refl w.heap.size w).alloc (by simp <;> omega) _).alloc (by simp <;> omega) _).trans (bx.mono (by simp <;> omega))
  clear bx
  cases q0 with
  | false =>
    have hv : Hid (z = false) := by show z = false; rw [E.out]; simp
    go_wp2
    go_ret
    exact ⟨by rw [hv.out]; rfl, BX1.out⟩
  | true =>
    have HNB : Hid (nB ip b = true) := HBB.out rfl
    clear HBB
    go_wp2_with fail
    refine (HN.out _).mono ?_
    rintro e w9 ⟨rfl, hw9⟩
    subst hw9
    cases q1 with
    | false =>
      have hv : Hid (z = false) := by show z = false; rw [E.out]; simp
      go_wp2
      go_ret
      exact ⟨by rw [hv.out]; rfl, BX1.out⟩
    | true =>
      have hnx : 1 ≤ nx ∧ nx ≤ 10000 := by have h := HQ1.out; unfold dec at h; simpa using h.symm
      obtain ⟨hn1, hn2⟩ := hnx
      clear HQ1
      have HS2 : Hid (∀ w, Rw SeR 10 w sa ss → Calls Tryz.prog 122 #[.agg #[.int .i64 ip, .int .i64 b, .int .i64 gt, .string gm, .string wm, .int .i64 rs, .slice x lenx capx, .slice y leny capy], .agg #[.slice ua ul uc, .slice sa sl sc, .slice fa fl fc, .slice ra rl rc, .int .i64 nx]] w fun e w' => e = .returned (.bool q3) ∧ Below w.heap.size w w') := HS.out HNB.out hn1 hn2
      clear HS
      have HR2 : Hid (∀ w, Rw ReR 5 w ra es → Calls Tryz.prog 124 #[.agg #[.slice ua ul uc, .slice sa sl sc, .slice fa fl fc, .slice ra rl rc, .int .i64 nx]] w fun e w' => e = .returned (.bool q5) ∧ Below w.heap.size w w') := HR.out hn1 hn2
      clear HR
      go_wp2_with fail
      refine (HU.out _ (RY.out.keep (RoR.kp 0) BX1.out) (RU.out.keep UsR.kp BX1.out)).mono ?_
      rintro e wx2 ⟨rfl, bx⟩
      have c2_0_0 : wx2.cell? ⟨w.heap.size, 0, none⟩ = some (.int .i64 ip) := bkeep bx (by first | (simp [go_sem]; done) | simp [go_sem, c1_0_0])
      have c2_0_1 : wx2.cell? ⟨w.heap.size, 1, none⟩ = some (.int .i64 b) := bkeep bx (by first | (simp [go_sem]; done) | simp [go_sem, c1_0_1])
      have c2_0_2 : wx2.cell? ⟨w.heap.size, 2, none⟩ = some (.int .i64 gt) := bkeep bx (by first | (simp [go_sem]; done) | simp [go_sem, c1_0_2])
      have c2_0_3 : wx2.cell? ⟨w.heap.size, 3, none⟩ = some (.string gm) := bkeep bx (by first | (simp [go_sem]; done) | simp [go_sem, c1_0_3])
      have c2_0_4 : wx2.cell? ⟨w.heap.size, 4, none⟩ = some (.string wm) := bkeep bx (by first | (simp [go_sem]; done) | simp [go_sem, c1_0_4])
      have c2_0_5 : wx2.cell? ⟨w.heap.size, 5, none⟩ = some (.int .i64 rs) := bkeep bx (by first | (simp [go_sem]; done) | simp [go_sem, c1_0_5])
      have c2_0_6 : wx2.cell? ⟨w.heap.size, 6, none⟩ = some (.slice x lenx capx) := bkeep bx (by first | (simp [go_sem]; done) | simp [go_sem, c1_0_6])
      have c2_0_7 : wx2.cell? ⟨w.heap.size, 7, none⟩ = some (.slice y leny capy) := bkeep bx (by first | (simp [go_sem]; done) | simp [go_sem, c1_0_7])
      have c2_1_0 : wx2.cell? ⟨w.heap.size + 1, 0, none⟩ = some (.slice ua ul uc) := bkeep bx (by first | (simp [go_sem]; done) | simp [go_sem, c1_1_0])
      have c2_1_1 : wx2.cell? ⟨w.heap.size + 1, 1, none⟩ = some (.slice sa sl sc) := bkeep bx (by first | (simp [go_sem]; done) | simp [go_sem, c1_1_1])
      have c2_1_2 : wx2.cell? ⟨w.heap.size + 1, 2, none⟩ = some (.slice fa fl fc) := bkeep bx (by first | (simp [go_sem]; done) | simp [go_sem, c1_1_2])
      have c2_1_3 : wx2.cell? ⟨w.heap.size + 1, 3, none⟩ = some (.slice ra rl rc) := bkeep bx (by first | (simp [go_sem]; done) | simp [go_sem, c1_1_3])
      have c2_1_4 : wx2.cell? ⟨w.heap.size + 1, 4, none⟩ = some (.int .i64 nx) := bkeep bx (by first | (simp [go_sem]; done) | simp [go_sem, c1_1_4])
      have BX2 : Hid (Below w.heap.size w wx2) := BX1.out.trans (bx.mono (by have := BX1.out.size; simp <;> omega))
      clear bx c1_0_0 c1_0_1 c1_0_2 c1_0_3 c1_0_4 c1_0_5 c1_0_6 c1_0_7 c1_1_0 c1_1_1 c1_1_2 c1_1_3 c1_1_4 BX1
      cases q2 with
      | false =>
        have hv : Hid (z = false) := by show z = false; rw [E.out]; simp
        go_wp2
        go_ret
        exact ⟨by rw [hv.out]; rfl, BX2.out⟩
      | true =>
        go_wp2_with fail
        refine (HS2.out _ (RS.out.keep SeR.kp BX2.out)).mono ?_
        rintro e wx3 ⟨rfl, bx⟩
        have c3_0_0 : wx3.cell? ⟨w.heap.size, 0, none⟩ = some (.int .i64 ip) := bkeep bx (by first | (simp [go_sem]; done) | simp [go_sem, c2_0_0])
        have c3_0_1 : wx3.cell? ⟨w.heap.size, 1, none⟩ = some (.int .i64 b) := bkeep bx (by first | (simp [go_sem]; done) | simp [go_sem, c2_0_1])
        have c3_0_2 : wx3.cell? ⟨w.heap.size, 2, none⟩ = some (.int .i64 gt) := bkeep bx (by first | (simp [go_sem]; done) | simp [go_sem, c2_0_2])
        have c3_0_3 : wx3.cell? ⟨w.heap.size, 3, none⟩ = some (.string gm) := bkeep bx (by first | (simp [go_sem]; done) | simp [go_sem, c2_0_3])
        have c3_0_4 : wx3.cell? ⟨w.heap.size, 4, none⟩ = some (.string wm) := bkeep bx (by first | (simp [go_sem]; done) | simp [go_sem, c2_0_4])
        have c3_0_5 : wx3.cell? ⟨w.heap.size, 5, none⟩ = some (.int .i64 rs) := bkeep bx (by first | (simp [go_sem]; done) | simp [go_sem, c2_0_5])
        have c3_0_6 : wx3.cell? ⟨w.heap.size, 6, none⟩ = some (.slice x lenx capx) := bkeep bx (by first | (simp [go_sem]; done) | simp [go_sem, c2_0_6])
        have c3_0_7 : wx3.cell? ⟨w.heap.size, 7, none⟩ = some (.slice y leny capy) := bkeep bx (by first | (simp [go_sem]; done) | simp [go_sem, c2_0_7])
        have c3_1_0 : wx3.cell? ⟨w.heap.size + 1, 0, none⟩ = some (.slice ua ul uc) := bkeep bx (by first | (simp [go_sem]; done) | simp [go_sem, c2_1_0])
        have c3_1_1 : wx3.cell? ⟨w.heap.size + 1, 1, none⟩ = some (.slice sa sl sc) := bkeep bx (by first | (simp [go_sem]; done) | simp [go_sem, c2_1_1])
        have c3_1_2 : wx3.cell? ⟨w.heap.size + 1, 2, none⟩ = some (.slice fa fl fc) := bkeep bx (by first | (simp [go_sem]; done) | simp [go_sem, c2_1_2])
        have c3_1_3 : wx3.cell? ⟨w.heap.size + 1, 3, none⟩ = some (.slice ra rl rc) := bkeep bx (by first | (simp [go_sem]; done) | simp [go_sem, c2_1_3])
        have c3_1_4 : wx3.cell? ⟨w.heap.size + 1, 4, none⟩ = some (.int .i64 nx) := bkeep bx (by first | (simp [go_sem]; done) | simp [go_sem, c2_1_4])
        have BX3 : Hid (Below w.heap.size w wx3) := BX2.out.trans (bx.mono (by have := BX2.out.size; simp <;> omega))
        clear bx c2_0_0 c2_0_1 c2_0_2 c2_0_3 c2_0_4 c2_0_5 c2_0_6 c2_0_7 c2_1_0 c2_1_1 c2_1_2 c2_1_3 c2_1_4 BX2
        cases q3 with
        | false =>
          have hv : Hid (z = false) := by show z = false; rw [E.out]; simp
          go_wp2
          go_ret
          exact ⟨by rw [hv.out]; rfl, BX3.out⟩
        | true =>
          go_wp2_with fail
          refine (HF.out _ (RF.out.keep FaR.kp BX3.out)).mono ?_
          rintro e wx4 ⟨rfl, bx⟩
          have c4_0_0 : wx4.cell? ⟨w.heap.size, 0, none⟩ = some (.int .i64 ip) := bkeep bx (by first | (simp [go_sem]; done) | simp [go_sem, c3_0_0])
          have c4_0_1 : wx4.cell? ⟨w.heap.size, 1, none⟩ = some (.int .i64 b) := bkeep bx (by first | (simp [go_sem]; done) | simp [go_sem, c3_0_1])
          have c4_0_2 : wx4.cell? ⟨w.heap.size, 2, none⟩ = some (.int .i64 gt) := bkeep bx (by first | (simp [go_sem]; done) | simp [go_sem, c3_0_2])
          have c4_0_3 : wx4.cell? ⟨w.heap.size, 3, none⟩ = some (.string gm) := bkeep bx (by first | (simp [go_sem]; done) | simp [go_sem, c3_0_3])
          have c4_0_4 : wx4.cell? ⟨w.heap.size, 4, none⟩ = some (.string wm) := bkeep bx (by first | (simp [go_sem]; done) | simp [go_sem, c3_0_4])
          have c4_0_5 : wx4.cell? ⟨w.heap.size, 5, none⟩ = some (.int .i64 rs) := bkeep bx (by first | (simp [go_sem]; done) | simp [go_sem, c3_0_5])
          have c4_0_6 : wx4.cell? ⟨w.heap.size, 6, none⟩ = some (.slice x lenx capx) := bkeep bx (by first | (simp [go_sem]; done) | simp [go_sem, c3_0_6])
          have c4_0_7 : wx4.cell? ⟨w.heap.size, 7, none⟩ = some (.slice y leny capy) := bkeep bx (by first | (simp [go_sem]; done) | simp [go_sem, c3_0_7])
          have c4_1_0 : wx4.cell? ⟨w.heap.size + 1, 0, none⟩ = some (.slice ua ul uc) := bkeep bx (by first | (simp [go_sem]; done) | simp [go_sem, c3_1_0])
          have c4_1_1 : wx4.cell? ⟨w.heap.size + 1, 1, none⟩ = some (.slice sa sl sc) := bkeep bx (by first | (simp [go_sem]; done) | simp [go_sem, c3_1_1])
          have c4_1_2 : wx4.cell? ⟨w.heap.size + 1, 2, none⟩ = some (.slice fa fl fc) := bkeep bx (by first | (simp [go_sem]; done) | simp [go_sem, c3_1_2])
          have c4_1_3 : wx4.cell? ⟨w.heap.size + 1, 3, none⟩ = some (.slice ra rl rc) := bkeep bx (by first | (simp [go_sem]; done) | simp [go_sem, c3_1_3])
          have c4_1_4 : wx4.cell? ⟨w.heap.size + 1, 4, none⟩ = some (.int .i64 nx) := bkeep bx (by first | (simp [go_sem]; done) | simp [go_sem, c3_1_4])
          have BX4 : Hid (Below w.heap.size w wx4) := BX3.out.trans (bx.mono (by have := BX3.out.size; simp <;> omega))
          clear bx c3_0_0 c3_0_1 c3_0_2 c3_0_3 c3_0_4 c3_0_5 c3_0_6 c3_0_7 c3_1_0 c3_1_1 c3_1_2 c3_1_3 c3_1_4 BX3
          cases q4 with
          | false =>
            have hv : Hid (z = false) := by show z = false; rw [E.out]; simp
            go_wp2
            go_ret
            exact ⟨by rw [hv.out]; rfl, BX4.out⟩
          | true =>
            go_wp2_with fail
            refine (HR2.out _ (RR.out.keep ReR.kp BX4.out)).mono ?_
            rintro e wx5 ⟨rfl, bx⟩
            have c5_0_0 : wx5.cell? ⟨w.heap.size, 0, none⟩ = some (.int .i64 ip) := bkeep bx (by first | (simp [go_sem]; done) | simp [go_sem, c4_0_0])
            have c5_0_1 : wx5.cell? ⟨w.heap.size, 1, none⟩ = some (.int .i64 b) := bkeep bx (by first | (simp [go_sem]; done) | simp [go_sem, c4_0_1])
            have c5_0_2 : wx5.cell? ⟨w.heap.size, 2, none⟩ = some (.int .i64 gt) := bkeep bx (by first | (simp [go_sem]; done) | simp [go_sem, c4_0_2])
            have c5_0_3 : wx5.cell? ⟨w.heap.size, 3, none⟩ = some (.string gm) := bkeep bx (by first | (simp [go_sem]; done) | simp [go_sem, c4_0_3])
            have c5_0_4 : wx5.cell? ⟨w.heap.size, 4, none⟩ = some (.string wm) := bkeep bx (by first | (simp [go_sem]; done) | simp [go_sem, c4_0_4])
            have c5_0_5 : wx5.cell? ⟨w.heap.size, 5, none⟩ = some (.int .i64 rs) := bkeep bx (by first | (simp [go_sem]; done) | simp [go_sem, c4_0_5])
            have c5_0_6 : wx5.cell? ⟨w.heap.size, 6, none⟩ = some (.slice x lenx capx) := bkeep bx (by first | (simp [go_sem]; done) | simp [go_sem, c4_0_6])
            have c5_0_7 : wx5.cell? ⟨w.heap.size, 7, none⟩ = some (.slice y leny capy) := bkeep bx (by first | (simp [go_sem]; done) | simp [go_sem, c4_0_7])
            have c5_1_0 : wx5.cell? ⟨w.heap.size + 1, 0, none⟩ = some (.slice ua ul uc) := bkeep bx (by first | (simp [go_sem]; done) | simp [go_sem, c4_1_0])
            have c5_1_1 : wx5.cell? ⟨w.heap.size + 1, 1, none⟩ = some (.slice sa sl sc) := bkeep bx (by first | (simp [go_sem]; done) | simp [go_sem, c4_1_1])
            have c5_1_2 : wx5.cell? ⟨w.heap.size + 1, 2, none⟩ = some (.slice fa fl fc) := bkeep bx (by first | (simp [go_sem]; done) | simp [go_sem, c4_1_2])
            have c5_1_3 : wx5.cell? ⟨w.heap.size + 1, 3, none⟩ = some (.slice ra rl rc) := bkeep bx (by first | (simp [go_sem]; done) | simp [go_sem, c4_1_3])
            have c5_1_4 : wx5.cell? ⟨w.heap.size + 1, 4, none⟩ = some (.int .i64 nx) := bkeep bx (by first | (simp [go_sem]; done) | simp [go_sem, c4_1_4])
            have BX5 : Hid (Below w.heap.size w wx5) := BX4.out.trans (bx.mono (by have := BX4.out.size; simp <;> omega))
            clear bx c4_0_0 c4_0_1 c4_0_2 c4_0_3 c4_0_4 c4_0_5 c4_0_6 c4_0_7 c4_1_0 c4_1_1 c4_1_2 c4_1_3 c4_1_4 BX4
            have hv : Hid (z = q5) := by show z = q5; rw [E.out]; simp
            go_wp2
            go_ret
            exact ⟨by rw [hv.out]; rfl, BX5.out⟩
end Go.Proofs.YtlebblmlbhnppaaGreat

namespace Go.Proofs.YtlebblmlbhnppaaGreat
open Go.RowKit Go.PlainAid Go.Proofs.YtlebblmlbhnppaaGreat.Bt Go.Sort
set_option linter.unusedVariables false
set_option maxRecDepth 20000
theorem mac9_impl (s : ByteArray) (w : World) : Calls Tryz.prog 185 #[.string s] w fun e w' => e = .returned (.bool (dec (s.size = 6))) ∧ w' = w := by
  by_cases h : s.size = 6
  · rw [dec_y h]
    have hz : ((s.size : Int) == 6) = true := by simp; omega
    go_enter Tryz.func185, Tryz.ntmps185
    go_wp2
    go_ret
    exact ⟨rfl, rfl⟩
  · rw [dec_n h]
    have hz : ((s.size : Int) == 6) = false := by simp; omega
    go_enter Tryz.func185, Tryz.ntmps185
    go_wp2
    go_ret
    exact ⟨rfl, rfl⟩
theorem proto9_any (n : Int) (w : World) (hx : n ≤ 9223372036854775807) : Calls Tryz.prog 248 #[.int .i64 n] w fun e w' => e = .returned (.bool (dec (0 ≤ n ∧ n ≤ 255))) ∧ w' = w := by
  have HB : Hid (∀ w, Calls Tryz.prog 225 #[.int .i64 n, .int .i64 1] w fun e w' => e = .returned (.bool (dec (0 ≤ n ∧ n ≤ 255))) ∧ w' = w) := fun w => hasRoom1 n w hx
  generalize dec (0 ≤ n ∧ n ≤ 255) = z at HB ⊢
  go_enter Tryz.func248, Tryz.ntmps248
  go_wp2_with fail
  refine (HB.out _).mono ?_
  rintro e w1 ⟨rfl, hw⟩
  subst hw
  go_wp2
  go_ret
  exact ⟨rfl, rfl⟩
theorem state9_any (n : Int) (w : World) : Calls Tryz.prog 205 #[.int .i64 n] w fun e w' => e = .returned (.bool (dec (1 ≤ n ∧ n ≤ 3))) ∧ w' = w := by
  have HB : Hid (∀ w, Calls Tryz.prog 85 #[.int .i64 n, .int .i64 1, .int .i64 3] w fun e w' => e = .returned (.bool (dec (1 ≤ n ∧ n ≤ 3))) ∧ w' = w) := fun w => between_any n 1 3 w
  generalize dec (1 ≤ n ∧ n ≤ 3) = z at HB ⊢
  go_enter Tryz.func205, Tryz.ntmps205
  go_wp2_with fail
  refine (HB.out _).mono ?_
  rintro e w1 ⟨rfl, hw⟩
  subst hw
  go_wp2
  go_ret
  exact ⟨rfl, rfl⟩
theorem owner9_any (n : Int) (w : World) : Calls Tryz.prog 206 #[.int .i64 n] w fun e w' => e = .returned (.bool (dec (0 ≤ n ∧ n ≤ 10000))) ∧ w' = w := by
  have HB : Hid (∀ w, Calls Tryz.prog 85 #[.int .i64 n, .int .i64 0, .int .i64 10000] w fun e w' => e = .returned (.bool (dec (0 ≤ n ∧ n ≤ 10000))) ∧ w' = w) := fun w => between_any n 0 10000 w
  generalize dec (0 ≤ n ∧ n ≤ 10000) = z at HB ⊢
  go_enter Tryz.func206, Tryz.ntmps206
  go_wp2_with fail
  refine (HB.out _).mono ?_
  rintro e w1 ⟨rfl, hw⟩
  subst hw
  go_wp2
  go_ret
  exact ⟨rfl, rfl⟩
set_option maxHeartbeats 2000000 in
theorem endOK_any (si sp : Int) (w : World) (hsp : sp ≤ 9223372036854775807) :
    Calls Tryz.prog 249 #[.agg #[.int .i64 si, .int .i64 sp]] w fun e w' => e = .returned (.bool (dec (0 ≤ si ∧ si ≤ 4294967295) && dec (0 ≤ sp ∧ sp ≤ 65535))) ∧ Grw w w' := by
  have T0 : Hid (∀ w, Calls Tryz.prog 170 #[.int .i64 si] w fun e w' => e = .returned (.bool (dec (0 ≤ si ∧ si ≤ 4294967295))) ∧ w' = w) := fun w => addressOK_any si w
  have T1 : Hid (∀ w, Calls Tryz.prog 171 #[.int .i64 sp] w fun e w' => e = .returned (.bool (dec (0 ≤ sp ∧ sp ≤ 65535))) ∧ w' = w) := fun w => portOK_any sp w hsp
  obtain ⟨z, hz⟩ : ∃ z, z = (dec (0 ≤ si ∧ si ≤ 4294967295) && dec (0 ≤ sp ∧ sp ≤ 65535)) := ⟨_, rfl⟩
  have E : Hid (z = (dec (0 ≤ si ∧ si ≤ 4294967295) && (dec (0 ≤ sp ∧ sp ≤ 65535)))) := by
    rw [hz]
    rfl
  rw [← hz]
  clear hz
  generalize (dec (0 ≤ si ∧ si ≤ 4294967295)) = t0 at T0 E
  generalize (dec (0 ≤ sp ∧ sp ≤ 65535)) = t1 at T1 E
  go_enter Tryz.func249, Tryz.ntmps249
  go_wp2_with fail
  refine (T0.out _).mono ?_
  rintro e wx1 ⟨rfl, rfl⟩
  cases t0 with
  | false =>
    go_wp2
    go_ret
    exact ⟨by rw [E.out]; rfl, ((Grw.refl _).alloc _)⟩
  | true =>
    go_wp2_with fail
    refine (T1.out _).mono ?_
    rintro e wx2 ⟨rfl, rfl⟩
    cases t1 with
    | false =>
      go_wp2
      go_ret
      exact ⟨by rw [E.out]; rfl, ((Grw.refl _).alloc _)⟩
    | true =>
      go_wp2
      go_ret
      exact ⟨by rw [E.out]; rfl, ((Grw.refl _).alloc _)⟩
set_option maxHeartbeats 2000000 in
theorem endsOK_any (pr si sp di dp : Int) (w : World) (hpr : pr ≤ 9223372036854775807) (hsp : sp ≤ 9223372036854775807) (hdp : dp ≤ 9223372036854775807) :
    Calls Tryz.prog 203 #[.agg #[.int .i64 pr, .int .i64 si, .int .i64 sp, .int .i64 di, .int .i64 dp]] w fun e w' => e = .returned (.bool (enR ⟨pr, si, sp, di, dp⟩)) ∧ Grw w w' := by
  have T0 : Hid (∀ w, Calls Tryz.prog 248 #[.int .i64 pr] w fun e w' => e = .returned (.bool (dec (0 ≤ pr ∧ pr ≤ 255))) ∧ w' = w) := fun w => proto9_any pr w hpr
  have T1 : Hid (∀ w, Calls Tryz.prog 249 #[.agg #[.int .i64 si, .int .i64 sp]] w fun e w' => e = .returned (.bool (dec (0 ≤ si ∧ si ≤ 4294967295) && dec (0 ≤ sp ∧ sp ≤ 65535))) ∧ Grw w w') := fun w => endOK_any si sp w hsp
  have T2 : Hid (∀ w, Calls Tryz.prog 249 #[.agg #[.int .i64 di, .int .i64 dp]] w fun e w' => e = .returned (.bool (dec (0 ≤ di ∧ di ≤ 4294967295) && dec (0 ≤ dp ∧ dp ≤ 65535))) ∧ Grw w w') := fun w => endOK_any di dp w hdp
  obtain ⟨z, hz⟩ : ∃ z, z = (enR ⟨pr, si, sp, di, dp⟩) := ⟨_, rfl⟩
  have E : Hid (z = (dec (0 ≤ pr ∧ pr ≤ 255) && (dec (0 ≤ si ∧ si ≤ 4294967295) && dec (0 ≤ sp ∧ sp ≤ 65535) && (dec (0 ≤ di ∧ di ≤ 4294967295) && dec (0 ≤ dp ∧ dp ≤ 65535))))) := by
    rw [hz]
    rfl
  rw [← hz]
  clear hz
  generalize (dec (0 ≤ pr ∧ pr ≤ 255)) = t0 at T0 E
  generalize (dec (0 ≤ si ∧ si ≤ 4294967295) && dec (0 ≤ sp ∧ sp ≤ 65535)) = t1 at T1 E
  generalize (dec (0 ≤ di ∧ di ≤ 4294967295) && dec (0 ≤ dp ∧ dp ≤ 65535)) = t2 at T2 E
  go_enter Tryz.func203, Tryz.ntmps203
  go_wp2_with fail
  refine (T0.out _).mono ?_
  rintro e wx1 ⟨rfl, rfl⟩
  cases t0 with
  | false =>
    go_wp2
    go_ret
    exact ⟨by rw [E.out]; rfl, ((Grw.refl _).alloc _)⟩
  | true =>
    go_wp2_with fail
    refine (T1.out _).mono ?_
    rintro e wx2 ⟨rfl, bx⟩
    have k0_0 : World.cell? _ ⟨w.heap.size, 0, none⟩ = some (.int .i64 pr) := bx.keep (a := ⟨w.heap.size, 0, none⟩) (v := .int .i64 pr) (by simp [go_sem])
    have k0_1 : World.cell? _ ⟨w.heap.size, 1, none⟩ = some (.int .i64 si) := bx.keep (a := ⟨w.heap.size, 1, none⟩) (v := .int .i64 si) (by simp [go_sem])
    have k0_2 : World.cell? _ ⟨w.heap.size, 2, none⟩ = some (.int .i64 sp) := bx.keep (a := ⟨w.heap.size, 2, none⟩) (v := .int .i64 sp) (by simp [go_sem])
    have k0_3 : World.cell? _ ⟨w.heap.size, 3, none⟩ = some (.int .i64 di) := bx.keep (a := ⟨w.heap.size, 3, none⟩) (v := .int .i64 di) (by simp [go_sem])
    have k0_4 : World.cell? _ ⟨w.heap.size, 4, none⟩ = some (.int .i64 dp) := bx.keep (a := ⟨w.heap.size, 4, none⟩) (v := .int .i64 dp) (by simp [go_sem])
    have BX : Hid (Grw w _) := ((Grw.refl _).alloc _).trans bx
    clear bx
    cases t1 with
    | false =>
      go_wp2
      go_ret
      exact ⟨by rw [E.out]; rfl, BX.out⟩
    | true =>
      go_wp2_with fail
      refine (T2.out _).mono ?_
      rintro e wx3 ⟨rfl, bx⟩
      replace k0_0 := bx.keep k0_0
      replace k0_1 := bx.keep k0_1
      replace k0_2 := bx.keep k0_2
      replace k0_3 := bx.keep k0_3
      replace k0_4 := bx.keep k0_4
      replace BX : Hid (Grw w _) := BX.out.trans bx
      clear bx
      cases t2 with
      | false =>
        go_wp2
        go_ret
        exact ⟨by rw [E.out]; rfl, BX.out⟩
      | true =>
        go_wp2
        go_ret
        exact ⟨by rw [E.out]; rfl, BX.out⟩
set_option maxHeartbeats 1000000 in
theorem endsOf_any (pr : Int) (mc : ByteArray) (si sp di dp st un ow : Int) (w : World) :
    Calls Tryz.prog 204 #[.agg #[.int .i64 pr, .string mc, .int .i64 si, .int .i64 sp, .int .i64 di, .int .i64 dp, .int .i64 st, .int .i64 un, .int .i64 ow]] w fun e w' => e = .returned (.agg #[.int .i64 pr, .int .i64 si, .int .i64 sp, .int .i64 di, .int .i64 dp]) ∧ Grw w w' := by
  go_enter Tryz.func204, Tryz.ntmps204
  go_wp2
  (try simp only [Exit.inBlock, Exit.then])
  refine bodyPost_ret (v := .agg #[.int .i64 pr, .int .i64 si, .int .i64 sp, .int .i64 di, .int .i64 dp]) (by simp [results, Tryz.results204, go_sem]; try rfl) rfl ?_
  exact ⟨rfl, ((Grw.refl _).alloc _).alloc _⟩
set_option maxHeartbeats 1000000 in
theorem turned_any (pr si sp di dp : Int) (w : World) :
    Calls Tryz.prog 250 #[.agg #[.int .i64 pr, .int .i64 si, .int .i64 sp, .int .i64 di, .int .i64 dp]] w fun e w' => e = .returned (.agg #[.int .i64 pr, .int .i64 di, .int .i64 dp, .int .i64 si, .int .i64 sp]) ∧ Grw w w' := by
  go_enter Tryz.func250, Tryz.ntmps250
  go_wp2
  (try simp only [Exit.inBlock, Exit.then])
  refine bodyPost_ret (v := .agg #[.int .i64 pr, .int .i64 di, .int .i64 dp, .int .i64 si, .int .i64 sp]) (by simp [results, Tryz.results250, go_sem]; try rfl) rfl ?_
  exact ⟨rfl, ((Grw.refl _).alloc _).alloc _⟩
set_option maxHeartbeats 2000000 in
theorem flowOK_any (pr : Int) (mc : ByteArray) (si sp di dp st un ow : Int) (w : World) (hpr : pr ≤ 9223372036854775807) (hsp : sp ≤ 9223372036854775807) (hdp : dp ≤ 9223372036854775807) :
    Calls Tryz.prog 154 #[.agg #[.int .i64 pr, .string mc, .int .i64 si, .int .i64 sp, .int .i64 di, .int .i64 dp, .int .i64 st, .int .i64 un, .int .i64 ow]] w fun e w' => e = .returned (.bool (flB ⟨pr, mc, si, sp, di, dp, st, un, ow⟩)) ∧ Grw w w' := by
  have T0 : Hid (∀ w, Calls Tryz.prog 203 #[.agg #[.int .i64 pr, .int .i64 si, .int .i64 sp, .int .i64 di, .int .i64 dp]] w fun e w' => e = .returned (.bool (enR ⟨pr, si, sp, di, dp⟩)) ∧ Grw w w') := fun w => endsOK_any pr si sp di dp w hpr hsp hdp
  have T1 : Hid (∀ w, Calls Tryz.prog 185 #[.string mc] w fun e w' => e = .returned (.bool (dec (mc.size = 6))) ∧ w' = w) := fun w => mac9_impl mc w
  have T2 : Hid (∀ w, Calls Tryz.prog 205 #[.int .i64 st] w fun e w' => e = .returned (.bool (dec (1 ≤ st ∧ st ≤ 3))) ∧ w' = w) := fun w => state9_any st w
  have T3 : Hid (∀ w, Calls Tryz.prog 85 #[.int .i64 un, .int .i64 0, .int .i64 100100] w fun e w' => e = .returned (.bool (dec (0 ≤ un ∧ un ≤ 100100))) ∧ w' = w) := fun w => between_any un 0 100100 w
  have T4 : Hid (∀ w, Calls Tryz.prog 206 #[.int .i64 ow] w fun e w' => e = .returned (.bool (dec (0 ≤ ow ∧ ow ≤ 10000))) ∧ w' = w) := fun w => owner9_any ow w
  have TE : Hid (∀ w, Calls Tryz.prog 204 #[.agg #[.int .i64 pr, .string mc, .int .i64 si, .int .i64 sp, .int .i64 di, .int .i64 dp, .int .i64 st, .int .i64 un, .int .i64 ow]] w fun e w' => e = .returned (.agg #[.int .i64 pr, .int .i64 si, .int .i64 sp, .int .i64 di, .int .i64 dp]) ∧ Grw w w') := fun w => endsOf_any pr mc si sp di dp st un ow w
  obtain ⟨z, hz⟩ : ∃ z, z = (flB ⟨pr, mc, si, sp, di, dp, st, un, ow⟩) := ⟨_, rfl⟩
  have E : Hid (z = (enR ⟨pr, si, sp, di, dp⟩ && (dec (mc.size = 6) && (dec (1 ≤ st ∧ st ≤ 3) && (dec (0 ≤ un ∧ un ≤ 100100) && (dec (0 ≤ ow ∧ ow ≤ 10000))))))) := by
    rw [hz]
    unfold flB enR; dsimp only; ac_rfl
  rw [← hz]
  clear hz
  generalize (enR ⟨pr, si, sp, di, dp⟩) = t0 at T0 E
  generalize (dec (mc.size = 6)) = t1 at T1 E
  generalize (dec (1 ≤ st ∧ st ≤ 3)) = t2 at T2 E
  generalize (dec (0 ≤ un ∧ un ≤ 100100)) = t3 at T3 E
  generalize (dec (0 ≤ ow ∧ ow ≤ 10000)) = t4 at T4 E
  go_enter Tryz.func154, Tryz.ntmps154
  go_wp2_with fail
  refine (TE.out _).mono ?_
  rintro e wx1 ⟨rfl, bx⟩
  have k0_0 : World.cell? _ ⟨w.heap.size, 0, none⟩ = some (.int .i64 pr) := bx.keep (a := ⟨w.heap.size, 0, none⟩) (v := .int .i64 pr) (by simp [go_sem])
  have k0_1 : World.cell? _ ⟨w.heap.size, 1, none⟩ = some (.string mc) := bx.keep (a := ⟨w.heap.size, 1, none⟩) (v := .string mc) (by simp [go_sem])
  have k0_2 : World.cell? _ ⟨w.heap.size, 2, none⟩ = some (.int .i64 si) := bx.keep (a := ⟨w.heap.size, 2, none⟩) (v := .int .i64 si) (by simp [go_sem])
  have k0_3 : World.cell? _ ⟨w.heap.size, 3, none⟩ = some (.int .i64 sp) := bx.keep (a := ⟨w.heap.size, 3, none⟩) (v := .int .i64 sp) (by simp [go_sem])
  have k0_4 : World.cell? _ ⟨w.heap.size, 4, none⟩ = some (.int .i64 di) := bx.keep (a := ⟨w.heap.size, 4, none⟩) (v := .int .i64 di) (by simp [go_sem])
  have k0_5 : World.cell? _ ⟨w.heap.size, 5, none⟩ = some (.int .i64 dp) := bx.keep (a := ⟨w.heap.size, 5, none⟩) (v := .int .i64 dp) (by simp [go_sem])
  have k0_6 : World.cell? _ ⟨w.heap.size, 6, none⟩ = some (.int .i64 st) := bx.keep (a := ⟨w.heap.size, 6, none⟩) (v := .int .i64 st) (by simp [go_sem])
  have k0_7 : World.cell? _ ⟨w.heap.size, 7, none⟩ = some (.int .i64 un) := bx.keep (a := ⟨w.heap.size, 7, none⟩) (v := .int .i64 un) (by simp [go_sem])
  have k0_8 : World.cell? _ ⟨w.heap.size, 8, none⟩ = some (.int .i64 ow) := bx.keep (a := ⟨w.heap.size, 8, none⟩) (v := .int .i64 ow) (by simp [go_sem])
  have BX : Hid (Grw w _) := ((Grw.refl _).alloc _).trans bx
  clear bx
  go_wp2_with fail
  refine (T0.out _).mono ?_
  rintro e wx2 ⟨rfl, bx⟩
  replace k0_0 := bx.keep k0_0
  replace k0_1 := bx.keep k0_1
  replace k0_2 := bx.keep k0_2
  replace k0_3 := bx.keep k0_3
  replace k0_4 := bx.keep k0_4
  replace k0_5 := bx.keep k0_5
  replace k0_6 := bx.keep k0_6
  replace k0_7 := bx.keep k0_7
  replace k0_8 := bx.keep k0_8
  replace BX : Hid (Grw w _) := BX.out.trans bx
  clear bx
  cases t0 with
  | false =>
    go_wp2
    go_ret
    exact ⟨by rw [E.out]; rfl, BX.out⟩
  | true =>
    go_wp2_with fail
    refine (T1.out _).mono ?_
    rintro e wx3 ⟨rfl, rfl⟩
    cases t1 with
    | false =>
      go_wp2
      go_ret
      exact ⟨by rw [E.out]; rfl, BX.out⟩
    | true =>
      go_wp2_with fail
      refine (T2.out _).mono ?_
      rintro e wx4 ⟨rfl, rfl⟩
      cases t2 with
      | false =>
        go_wp2
        go_ret
        exact ⟨by rw [E.out]; rfl, BX.out⟩
      | true =>
        go_wp2_with fail
        refine (T3.out _).mono ?_
        rintro e wx5 ⟨rfl, rfl⟩
        cases t3 with
        | false =>
          go_wp2
          go_ret
          exact ⟨by rw [E.out]; rfl, BX.out⟩
        | true =>
          go_wp2_with fail
          refine (T4.out _).mono ?_
          rintro e wx6 ⟨rfl, rfl⟩
          cases t4 with
          | false =>
            go_wp2
            go_ret
            exact ⟨by rw [E.out]; rfl, BX.out⟩
          | true =>
            go_wp2
            go_ret
            exact ⟨by rw [E.out]; rfl, BX.out⟩
end Go.Proofs.YtlebblmlbhnppaaGreat

namespace Go.Proofs.YtlebblmlbhnppaaGreat
open Go.RowKit Go.PlainAid Go.Proofs.YtlebblmlbhnppaaGreat.Bt Go.Sort
set_option linter.unusedVariables false
set_option maxRecDepth 20000

theorem wf_leF {n : Int} (h : (Lit.int .i64 n).wf = true) : n ≤ 9223372036854775807 := by
  have : IntKind.i64.min = -9223372036854775808 := by decide
  have : IntKind.i64.max = 9223372036854775807 := by decide
  simp [Lit.wf] at h
  omega
theorem nat_wf {k : Nat} (h : k ≤ 4096) : (Lit.int .i64 (k : Int)).wf = true := by
  have : IntKind.i64.min = -9223372036854775808 := by decide
  have : IntKind.i64.max = 9223372036854775807 := by decide
  simp [Lit.wf]
  omega
set_option maxHeartbeats 1000000 in
theorem placeOfEnds_any (b n : Nat) (M : EnV → Option Int) (pr si sp di dp : Int) (w : World) (h : OwnM w b n M) (he : EnOk ⟨pr, si, sp, di, dp⟩) :
    Calls Tryz.prog 207 #[.map (some b), .agg #[.int .i64 pr, .int .i64 si, .int .i64 sp, .int .i64 di, .int .i64 dp]] w fun e w' => e = .returned (.tuple #[.int .i64 (fkK M ⟨pr, si, sp, di, dp⟩), .bool (fkB M ⟨pr, si, sp, di, dp⟩), .bool (fkT M ⟨pr, si, sp, di, dp⟩)]) ∧ Grw w w' := by
  have HO : Hid (OwnM w b n M) := h
  have HT : Hid (∀ w, Calls Tryz.prog 250 #[.agg #[.int .i64 pr, .int .i64 si, .int .i64 sp, .int .i64 di, .int .i64 dp]] w fun e w' => e = .returned (.agg #[.int .i64 pr, .int .i64 di, .int .i64 dp, .int .i64 si, .int .i64 sp]) ∧ Grw w w') := fun w => turned_any pr si sp di dp w
  have L1 : (Instr.lookup 276 (.map (some b)) (.agg #[.int .i64 pr, .int .i64 si, .int .i64 sp, .int .i64 di, .int .i64 dp]) true).run Tryz.prog (w.alloc (.cells #[.int .i64 pr, .int .i64 si, .int .i64 sp, .int .i64 di, .int .i64 dp] 274)) = .ok (.tuple #[.int .i64 ((M ⟨pr, si, sp, di, dp⟩).getD 0), .bool (M ⟨pr, si, sp, di, dp⟩).isSome]) (w.alloc (.cells #[.int .i64 pr, .int .i64 si, .int .i64 sp, .int .i64 di, .int .i64 dp] 274)) := (h.alloc _).look he
  have L2 : Hid (∀ w2, OwnM w2 b n M → (Instr.lookup 276 (.map (some b)) (.agg #[.int .i64 pr, .int .i64 di, .int .i64 dp, .int .i64 si, .int .i64 sp]) true).run Tryz.prog w2 = .ok (.tuple #[.int .i64 ((M (enT ⟨pr, si, sp, di, dp⟩)).getD 0), .bool (M (enT ⟨pr, si, sp, di, dp⟩)).isSome]) w2) := fun w2 h2 => h2.look (e := enT ⟨pr, si, sp, di, dp⟩) (enT_ok he)
  have E1 : fkK M ⟨pr, si, sp, di, dp⟩ = if (M ⟨pr, si, sp, di, dp⟩).isSome then (M ⟨pr, si, sp, di, dp⟩).getD 0 else (M (enT ⟨pr, si, sp, di, dp⟩)).getD 0 := rfl
  have E2 : fkB M ⟨pr, si, sp, di, dp⟩ = if (M ⟨pr, si, sp, di, dp⟩).isSome then false else (M (enT ⟨pr, si, sp, di, dp⟩)).isSome := rfl
  have E3 : fkT M ⟨pr, si, sp, di, dp⟩ = ((M ⟨pr, si, sp, di, dp⟩).isSome || (M (enT ⟨pr, si, sp, di, dp⟩)).isSome) := rfl
  clear h he
  generalize hx : M ⟨pr, si, sp, di, dp⟩ = x at *
  generalize hy : M (enT ⟨pr, si, sp, di, dp⟩) = y at *
  clear hx hy
  cases x with
  | some v =>
    have F1 : Hid (fkK M ⟨pr, si, sp, di, dp⟩ = v) := E1
    have F2 : Hid (fkB M ⟨pr, si, sp, di, dp⟩ = false) := E2
    have F3 : Hid (fkT M ⟨pr, si, sp, di, dp⟩ = true) := E3
    clear E1 E2 E3
    have L1' : (Instr.lookup 276 (.map (some b)) (.agg #[.int .i64 pr, .int .i64 si, .int .i64 sp, .int .i64 di, .int .i64 dp]) true).run Tryz.prog (w.alloc (.cells #[.int .i64 pr, .int .i64 si, .int .i64 sp, .int .i64 di, .int .i64 dp] 274)) = .ok (.tuple #[.int .i64 v, .bool true]) (w.alloc (.cells #[.int .i64 pr, .int .i64 si, .int .i64 sp, .int .i64 di, .int .i64 dp] 274)) := L1
    clear L1
    go_enter Tryz.func207, Tryz.ntmps207
    go_wp2
    go_ret3
    exact ⟨by rw [F1.out, F2.out, F3.out]; rfl, (Grw.refl _).alloc _⟩
  | none =>
    have F1 : Hid (fkK M ⟨pr, si, sp, di, dp⟩ = y.getD 0) := E1
    have F2 : Hid (fkB M ⟨pr, si, sp, di, dp⟩ = y.isSome) := E2
    have F3 : Hid (fkT M ⟨pr, si, sp, di, dp⟩ = y.isSome) := by
      show _ = _
      have := E3
      simpa using this
    clear E1 E2 E3
    have L1' : (Instr.lookup 276 (.map (some b)) (.agg #[.int .i64 pr, .int .i64 si, .int .i64 sp, .int .i64 di, .int .i64 dp]) true).run Tryz.prog (w.alloc (.cells #[.int .i64 pr, .int .i64 si, .int .i64 sp, .int .i64 di, .int .i64 dp] 274)) = .ok (.tuple #[.int .i64 0, .bool false]) (w.alloc (.cells #[.int .i64 pr, .int .i64 si, .int .i64 sp, .int .i64 di, .int .i64 dp] 274)) := L1
    clear L1
    generalize y.getD 0 = v at *
    generalize y.isSome = q at *
    go_enter Tryz.func207, Tryz.ntmps207
    go_wp2_with fail
    refine (HT.out _).mono ?_
    rintro e w2 ⟨rfl, g2⟩
    have L3 := L2.out w2 ((HO.out.alloc _).now g2.below)
    have HG : Hid (Grw w w2) := ((Grw.refl _).alloc _).trans g2
    clear g2 L2 HO
    go_wp2
    go_ret3
    exact ⟨by rw [F1.out, F2.out, F3.out]; rfl, HG.out⟩
set_option maxHeartbeats 4000000 in
theorem flowsApart_any (a : Option Addr) (len cap : Nat) (fs : List FlowV) (w : World) (h : Rw FlR 9 w a fs) (hok : ∀ x, x ∈ fs → FlRok x) (hl : fs.length = len) (hm : len ≤ 4096) :
    Calls Tryz.prog 155 #[.slice a len cap] w fun e w' => e = .returned (.bool (apB fs)) ∧ Below w.heap.size w w' := by
  have RW : Hid (Rw FlR 9 w a fs) := h
  have HK : Hid (∀ x, x ∈ fs → FlRok x) := hok
  clear h hok
  have hmm := @run_makeMap Tryz.prog
  go_enter Tryz.func155, Tryz.ntmps155
  go_wp2
  go_loopw [12] (fun x wr => ∃ k : Nat, k ≤ len ∧ x = .int .i64 k ∧ Hid (apOk fs k) ∧ Hid (OwnM wr w.heap.size k (plM fs k) ∧ Below w.heap.size w wr)) (fun x _ => len - (intOf x).toNat)
  case atStart => exact ⟨0, Nat.zero_le _, rfl, apOk_zero fs, OwnM.made w, (Below.refl _ _).alloc (Nat.le_refl _) _⟩
  case round =>
    obtain ⟨k, hk, rfl, HA, HG⟩ := hrel
    by_cases hlt : k < len
    · obtain ⟨x, hx⟩ := at_of hl hlt
      have hltz : (k : Int) < (len : Int) := by omega
      have HS : Hid (plM fs (k + 1) = upM (plM fs k) (enOf x) (some (k : Int))) := plM_step hx
      obtain ⟨b, off, vs, rfl, hb, hvl, hR, hc⟩ := RW.out.at FR.kp HG.out.2 hx
      have HKx := HK.out _ (List.mem_of_getElem? hx)
      obtain ⟨pr, mc, si, sp, di, dp, st, un, ow⟩ := x
      obtain ⟨rfl, -⟩ := hR
      have q0 : wr.cell? ⟨b, off + k * 9, none⟩ = some (.int .i64 pr) := hc 0 _ rfl
      have q1 : wr.cell? ⟨b, off + k * 9 + 1, none⟩ = some (.string mc) := hc 1 _ rfl
      have q2 : wr.cell? ⟨b, off + k * 9 + 2, none⟩ = some (.int .i64 si) := hc 2 _ rfl
      have q3 : wr.cell? ⟨b, off + k * 9 + 3, none⟩ = some (.int .i64 sp) := hc 3 _ rfl
      have q4 : wr.cell? ⟨b, off + k * 9 + 4, none⟩ = some (.int .i64 di) := hc 4 _ rfl
      have q5 : wr.cell? ⟨b, off + k * 9 + 5, none⟩ = some (.int .i64 dp) := hc 5 _ rfl
      have q6 : wr.cell? ⟨b, off + k * 9 + 6, none⟩ = some (.int .i64 st) := hc 6 _ rfl
      have q7 : wr.cell? ⟨b, off + k * 9 + 7, none⟩ = some (.int .i64 un) := hc 7 _ rfl
      have q8 : wr.cell? ⟨b, off + k * 9 + 8, none⟩ = some (.int .i64 ow) := hc 8 _ rfl
      clear hc hvl
      have HE : Hid (∀ w, Calls Tryz.prog 204 #[.agg #[.int .i64 pr, .string mc, .int .i64 si, .int .i64 sp, .int .i64 di, .int .i64 dp, .int .i64 st, .int .i64 un, .int .i64 ow]] w fun e w' => e = .returned (.agg #[.int .i64 pr, .int .i64 si, .int .i64 sp, .int .i64 di, .int .i64 dp]) ∧ Grw w w') := fun w => endsOf_any pr mc si sp di dp st un ow w
      have HP : Hid (∀ w2, OwnM w2 w.heap.size k (plM fs k) → Calls Tryz.prog 207 #[.map (some w.heap.size), .agg #[.int .i64 pr, .int .i64 si, .int .i64 sp, .int .i64 di, .int .i64 dp]] w2 fun e w' => e = .returned (.tuple #[.int .i64 (fkK (plM fs k) ⟨pr, si, sp, di, dp⟩), .bool (fkB (plM fs k) ⟨pr, si, sp, di, dp⟩), .bool (fkT (plM fs k) ⟨pr, si, sp, di, dp⟩)]) ∧ Grw w2 w') := fun w2 h2 => placeOfEnds_any w.heap.size k (plM fs k) pr si sp di dp w2 h2 (enOf_ok HKx)
      have HQ : Hid (fkT (plM fs k) ⟨pr, si, sp, di, dp⟩ = false → apOk fs (k + 1)) := fun h => apOk_step HA.out hx (fk_there h)
      have HN : Hid (fkT (plM fs k) ⟨pr, si, sp, di, dp⟩ = true → apB fs = false) := fun h => apB_no (fun h2 => by
        have := fk_none (h2 k _ (by omega) hx)
        rw [show enOf ⟨pr, mc, si, sp, di, dp, st, un, ow⟩ = ⟨pr, si, sp, di, dp⟩ from rfl, h] at this
        cases this)
      generalize fkK (plM fs k) ⟨pr, si, sp, di, dp⟩ = z0 at HP
      generalize fkB (plM fs k) ⟨pr, si, sp, di, dp⟩ = z1 at HP
      generalize fkT (plM fs k) ⟨pr, si, sp, di, dp⟩ = z2 at HP HQ HN
      clear hx HA
      go_wp2_with fail
      refine (HE.out _).mono ?_
      rintro e w2 ⟨rfl, g2⟩
      have b2 : Below w.heap.size w w2 := (HG.out.2.alloc HG.out.2.size _).trans (g2.below.mono (by have := HG.out.2.size; simp; omega))
      have o2 : OwnM w2 w.heap.size k (plM fs k) := (HG.out.1.alloc _).now g2.below
      have k0 : w2.cell? ⟨wr.heap.size, 0, none⟩ = some (.int .i64 pr) := g2.keep (by simp)
      have k1 : w2.cell? ⟨wr.heap.size, 1, none⟩ = some (.string mc) := g2.keep (by simp)
      have k2 : w2.cell? ⟨wr.heap.size, 2, none⟩ = some (.int .i64 si) := g2.keep (by simp)
      have k3 : w2.cell? ⟨wr.heap.size, 3, none⟩ = some (.int .i64 sp) := g2.keep (by simp)
      have k4 : w2.cell? ⟨wr.heap.size, 4, none⟩ = some (.int .i64 di) := g2.keep (by simp)
      have k5 : w2.cell? ⟨wr.heap.size, 5, none⟩ = some (.int .i64 dp) := g2.keep (by simp)
      have k6 : w2.cell? ⟨wr.heap.size, 6, none⟩ = some (.int .i64 st) := g2.keep (by simp)
      have k7 : w2.cell? ⟨wr.heap.size, 7, none⟩ = some (.int .i64 un) := g2.keep (by simp)
      have k8 : w2.cell? ⟨wr.heap.size, 8, none⟩ = some (.int .i64 ow) := g2.keep (by simp)
      have H2 : Hid (OwnM w2 w.heap.size k (plM fs k) ∧ Below w.heap.size w w2) := ⟨o2, b2⟩
      clear g2 b2 o2 HG q0 q1 q2 q3 q4 q5 q6 q7 q8
      go_wp2_with fail
      refine (HP.out _ H2.out.1).mono ?_
      rintro e w3 ⟨rfl, g3⟩
      replace k0 := g3.keep k0
      replace k1 := g3.keep k1
      replace k2 := g3.keep k2
      replace k3 := g3.keep k3
      replace k4 := g3.keep k4
      replace k5 := g3.keep k5
      replace k6 := g3.keep k6
      replace k7 := g3.keep k7
      replace k8 := g3.keep k8
      have H3 : Hid (OwnM w3 w.heap.size k (plM fs k) ∧ Below w.heap.size w w3) := ⟨H2.out.1.now g3.below, H2.out.2.trans (g3.below.mono H2.out.2.size)⟩
      clear g3 H2 HP
      cases z2 with
      | true =>
        have hd : Hid (apB fs = false) := HN.out rfl
        clear HN HQ
        go_wp2
        go_ret
        exact ⟨by rw [hd.out]; rfl, H3.out.2⟩
      | false =>
        have HA2 : Hid (apOk fs (k + 1)) := HQ.out rfl
        clear HN HQ
        go_wp2_with fail
        refine (HE.out _).mono ?_
        rintro e w4 ⟨rfl, g4⟩
        have b4 : Below w.heap.size w w4 := H3.out.2.trans (g4.below.mono H3.out.2.size)
        have o4 : OwnM w4 w.heap.size k (plM fs k) := H3.out.1.now g4.below
        obtain ⟨w7, hupd, o7, g7⟩ := o4.update (e := enOf ⟨pr, mc, si, sp, di, dp, st, un, ow⟩) (enOf_ok HKx) (k : Int) (nat_wf (by omega)) (by unfold maxLen; omega)
        have hupd' : (Instr.mapUpdate 276 (.map (some w.heap.size)) (.agg #[.int .i64 pr, .int .i64 si, .int .i64 sp, .int .i64 di, .int .i64 dp]) (.int .i64 (k : Int))).run Tryz.prog w4 = .ok () w7 := hupd
        have HG7 : Hid (OwnM w7 w.heap.size (k + 1) (plM fs (k + 1)) ∧ Below w.heap.size w w7) := ⟨by rw [HS.out]; exact o7, b4.grown g7 b4.size (fun k hk => by cases hk; exact Nat.le_refl _)⟩
        clear o7 g7 hupd g4 b4 o4 H3 HE HS HKx k0 k1 k2 k3 k4 k5 k6 k7 k8
        go_wp2
        go_roundw
        case rel => exact ⟨k + 1, by omega, by go_num, HA2, HG7⟩
        case measure => simp [intOf]; omega
    · obtain rfl : k = len := by omega
      have hd : Hid (apB fs = true) := apB_yes (by rw [hl]; exact HA.out)
      go_wp2
      go_ret
      exact ⟨by rw [hd.out]; rfl, HG.out.2⟩
set_option maxHeartbeats 4000000 in
theorem implFlowsOK_any (a : Option Addr) (len cap : Nat) (fs : List FlowV) (w : World) (h : Rw FlR 9 w a fs) (hok : ∀ x, x ∈ fs → FlRok x) (hl : fs.length = len) (hm : len ≤ 1048576) :
    Calls Tryz.prog 81 #[.slice a len cap] w fun e w' => e = .returned (.bool (foB fs)) ∧ Below w.heap.size w w' := by
  have RW : Hid (Rw FlR 9 w a fs) := h
  have HK : Hid (∀ x, x ∈ fs → FlRok x) := hok
  by_cases h8 : 8 < len
  · have hz : (8 : Int) < (len : Int) := by omega
    have hd : Hid (foB fs = false) := foB_long (by omega)
    clear h hok
    go_enter Tryz.func81, Tryz.ntmps81
    go_wp2
    go_ret
    exact ⟨by rw [hd.out]; rfl, Below.refl _ _⟩
  have h8z : decide ((8 : Int) < (len : Int)) = false := by simp; omega
  have HA : Hid (∀ w, Rw FlR 9 w a fs → Calls Tryz.prog 155 #[.slice a len cap] w fun e w' => e = .returned (.bool (apB fs)) ∧ Below w.heap.size w w') := fun w h => flowsApart_any a len cap fs w h HK.out hl (by omega)
  clear h hok
  go_enter Tryz.func81, Tryz.ntmps81
  go_wp2
  go_loopw [10] (fun x wr => ∃ k : Nat, k ≤ len ∧ x = .int .i64 k ∧ Hid (alOk fs k) ∧ Hid (Grw w wr)) (fun x _ => len - (intOf x).toNat)
  case atStart => exact ⟨0, Nat.zero_le _, rfl, alOk_zero fs, Grw.refl _⟩
  case round =>
    obtain ⟨k, hk, rfl, HO, HG⟩ := hrel
    by_cases hlt : k < len
    · obtain ⟨x, hx⟩ := at_of hl hlt
      have hltz : (k : Int) < (len : Int) := by omega
      obtain ⟨b, off, vs, rfl, hb, hvl, hR, hc⟩ := RW.out.at FR.kp HG.out.below hx
      have HKx := HK.out _ (List.mem_of_getElem? hx)
      obtain ⟨pr, mc, si, sp, di, dp, st, un, ow⟩ := x
      obtain ⟨rfl, -⟩ := hR
      have q0 : wr.cell? ⟨b, off + k * 9, none⟩ = some (.int .i64 pr) := hc 0 _ rfl
      have q1 : wr.cell? ⟨b, off + k * 9 + 1, none⟩ = some (.string mc) := hc 1 _ rfl
      have q2 : wr.cell? ⟨b, off + k * 9 + 2, none⟩ = some (.int .i64 si) := hc 2 _ rfl
      have q3 : wr.cell? ⟨b, off + k * 9 + 3, none⟩ = some (.int .i64 sp) := hc 3 _ rfl
      have q4 : wr.cell? ⟨b, off + k * 9 + 4, none⟩ = some (.int .i64 di) := hc 4 _ rfl
      have q5 : wr.cell? ⟨b, off + k * 9 + 5, none⟩ = some (.int .i64 dp) := hc 5 _ rfl
      have q6 : wr.cell? ⟨b, off + k * 9 + 6, none⟩ = some (.int .i64 st) := hc 6 _ rfl
      have q7 : wr.cell? ⟨b, off + k * 9 + 7, none⟩ = some (.int .i64 un) := hc 7 _ rfl
      have q8 : wr.cell? ⟨b, off + k * 9 + 8, none⟩ = some (.int .i64 ow) := hc 8 _ rfl
      clear hc hvl
      have HF : Hid (∀ w, Calls Tryz.prog 154 #[.agg #[.int .i64 pr, .string mc, .int .i64 si, .int .i64 sp, .int .i64 di, .int .i64 dp, .int .i64 st, .int .i64 un, .int .i64 ow]] w fun e w' => e = .returned (.bool (flB ⟨pr, mc, si, sp, di, dp, st, un, ow⟩)) ∧ Grw w w') := fun w => flowOK_any pr mc si sp di dp st un ow w (wf_leF HKx.1) (wf_leF HKx.2.2.2.1) (wf_leF HKx.2.2.2.2.2.1)
      clear HKx
      cases hq : flB ⟨pr, mc, si, sp, di, dp, st, un, ow⟩ with
      | false =>
        rw [hq] at HF
        have hd : Hid (foB fs = false) := foB_al hx hq
        clear hq hx HO
        go_wp2_with fail
        refine (HF.out _).mono ?_
        rintro e w2 ⟨rfl, g2⟩
        have HG2 : Hid (Grw w w2) := (HG.out.alloc _).trans g2
        clear g2 HG
        go_wp2
        go_ret
        exact ⟨by rw [hd.out]; rfl, HG2.out.below⟩
      | true =>
        rw [hq] at HF
        have HO2 : Hid (alOk fs (k + 1)) := alOk_step HO.out hx hq
        clear hq hx HO
        go_wp2_with fail
        refine (HF.out _).mono ?_
        rintro e w2 ⟨rfl, g2⟩
        have HG2 : Hid (Grw w w2) := (HG.out.alloc _).trans g2
        clear g2 HG HF q0 q1 q2 q3 q4 q5 q6 q7 q8
        go_wp2
        go_roundw
        case rel => exact ⟨k + 1, by omega, by go_num, HO2, HG2⟩
        case measure => simp [intOf]; omega
    · obtain rfl : k = len := by omega
      have hd : Hid (foB fs = apB fs) := foB_ap (by omega) (by rw [hl]; exact HO.out)
      clear HO
      go_wp2_with fail
      refine (HA.out _ (RW.out.keep FR.kp HG.out.below)).mono ?_
      rintro e w2 ⟨rfl, g2⟩
      have HG2 : Hid (Below w.heap.size w w2) := HG.out.below.trans (g2.mono HG.out.below.size)
      clear g2 HG
      go_wp2
      go_ret
      exact ⟨by rw [hd.out]; rfl, HG2.out⟩
/-- What is alike in the calls with flows. -/
noncomputable def ffC (fs : List FlowV) : Int := if 4096 < fs.length then 2 else if foB fs = false then 1 else 0
structure KeptE (w wx : World) : Prop where
  out : Below w.heap.size w wx
def SE (q : Nat) (pr si sp di dp : Int) (W wx : World) : Prop := wx.cell? ⟨q, 0, none⟩ = some (.int .i64 pr) ∧ wx.cell? ⟨q, 1, none⟩ = some (.int .i64 si) ∧ wx.cell? ⟨q, 2, none⟩ = some (.int .i64 sp) ∧ wx.cell? ⟨q, 3, none⟩ = some (.int .i64 di) ∧ wx.cell? ⟨q, 4, none⟩ = some (.int .i64 dp) ∧ KeptE W wx
theorem SE.below {q : Nat} {pr si sp di dp : Int} {W wx wy : World} (h : SE q pr si sp di dp W wx) (hb : Below wx.heap.size wx wy) : SE q pr si sp di dp W wy :=
  ⟨bkeep hb h.1, bkeep hb h.2.1, bkeep hb h.2.2.1, bkeep hb h.2.2.2.1, bkeep hb h.2.2.2.2.1, ⟨h.2.2.2.2.2.out.trans (hb.mono h.2.2.2.2.2.out.size)⟩⟩
/-- What FlowFind answers. -/
noncomputable def fdC (fs : List FlowV) (e : EnV) : Int := if ffC fs ≠ 0 then ffC fs else if enR e = false then 4 else if fkT (plM fs fs.length) e = false then 5 else 0
noncomputable def fdK (fs : List FlowV) (e : EnV) : Int := if fdC fs e ≠ 0 then 0 else fkK (plM fs fs.length) e
noncomputable def fdB (fs : List FlowV) (e : EnV) : Bool := if fdC fs e ≠ 0 then false else fkB (plM fs fs.length) e
end Go.Proofs.YtlebblmlbhnppaaGreat
