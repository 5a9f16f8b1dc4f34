/- PageText of the program. -/
import Derived.Test.YtappekglflgodaaDoorPagS
import Derived.Test.YtappekglflgodaaDoorNetT
import Derived.Test.YtappekglflgodaaDoorJoin3
import Derived.Lib.ItoaNum
namespace Go.Proofs.YtappekglflgodaaDoor
open Go.RowKit Go.PlainAid Go.Sort
set_option linter.unusedVariables false
set_option maxRecDepth 20000

theorem Tens.tab {w : World} (h : Tens w.heap.size w) {W : World} (hb : Below w.heap.size w W) : Lib.TabIs Tryd.prog W "internal/strconv.uint64pow10" .u64 Lib.pow10Tab := h W hb
theorem itoa9 (n : Nat) (w : World) (hn : n ≤ 1000000) (h : Lib.TabIs Tryd.prog w "internal/strconv.uint64pow10" .u64 Lib.pow10Tab) : Calls Tryd.prog 44 #[.int .i64 (n : Int)] w fun e w' => e = .returned (.string (strOfNums (dgs n))) ∧ Grw w w' := by
  have := Tryd.strconv_Itoa n (by omega) (by omega) w h
  have e : (⟨(Lib.itoa n).toArray⟩ : ByteArray) = strOfNums (dgs n) := by rw [← dec_str]; rfl
  rw [e] at this
  exact this
theorem lenLine9 (bo : ByteArray) (w : World) (hb : bo.size ≤ 1000) (h : Lib.TabIs Tryd.prog w "internal/strconv.uint64pow10" .u64 Lib.pow10Tab) :
    Calls Tryd.prog 46 #[.string bo] w fun e w' => e = .returned (.string (⟨#[67, 111, 110, 116, 101, 110, 116, 45, 76, 101, 110, 103, 116, 104, 58, 32]⟩ ++ strOfNums (dgs bo.size))) ∧ Grw w w' := by
  have T : Hid (Calls Tryd.prog 44 #[.int .i64 (bo.size : Int)] w fun e w' => e = .returned (.string (strOfNums (dgs bo.size))) ∧ Grw w w') := itoa9 bo.size w (by omega) h
  have hD : (strOfNums (dgs bo.size)).size ≤ 4 := by rw [strOfNums_size]; exact (dgs_len 3 bo.size (by omega)).2
  clear h
  generalize strOfNums (dgs bo.size) = D at T hD ⊢
  have ha : ∀ wx : World, (Op.stringOp .add ⟨#[67, 111, 110, 116, 101, 110, 116, 45, 76, 101, 110, 103, 116, 104, 58, 32]⟩ D).run Tryd.prog wx = .ok (.string (⟨#[67, 111, 110, 116, 101, 110, 116, 45, 76, 101, 110, 103, 116, 104, 58, 32]⟩ ++ D)) wx := fun wx => run_string_add_sum (P := Tryd.prog) (w := wx) _ _ (by show 16 + _ ≤ _; omega)
  go_enter Tryd.func46, Tryd.ntmps46
  go_wp2_with fail
  refine T.out.mono ?_
  rintro e w1 ⟨rfl, g1⟩
  have G1 : Hid (Grw w w1) := g1
  clear g1 T
  go_wp2
  go_ret
  exact ⟨rfl, G1.out⟩
theorem message2 (g n c : Nat) (lines : List ByteArray) (bo : ByteArray) (w : World) (hJ : Calls Tryd.prog 35 #[.slice (some ⟨g, 0, none⟩) n c, .string ⟨#[13, 10]⟩] w fun e w' => e = .returned (.string (jnT lines ⟨#[13, 10]⟩)) ∧ Below w.heap.size w w') (hz : (jnT lines ⟨#[13, 10]⟩).size + bo.size ≤ 1000000) :
    Calls Tryd.prog 45 #[.slice (some ⟨g, 0, none⟩) n c, .string bo] w fun e w' => e = .returned (.string (jnT lines ⟨#[13, 10]⟩ ++ ⟨#[13, 10, 13, 10]⟩ ++ bo)) ∧ Below w.heap.size w w' := by
  have HJ : Hid (Calls Tryd.prog 35 #[.slice (some ⟨g, 0, none⟩) n c, .string ⟨#[13, 10]⟩] w fun e w' => e = .returned (.string (jnT lines ⟨#[13, 10]⟩)) ∧ Below w.heap.size w w') := hJ
  clear hJ
  generalize jnT lines ⟨#[13, 10]⟩ = J at HJ hz ⊢
  have ha : ∀ wx : World, (Op.stringOp .add J ⟨#[13, 10, 13, 10]⟩).run Tryd.prog wx = .ok (.string (J ++ ⟨#[13, 10, 13, 10]⟩)) wx := fun wx => run_string_add_sum (P := Tryd.prog) (w := wx) _ _ (by show _ + 4 ≤ _; omega)
  have hb : ∀ wx : World, (Op.stringOp .add (J ++ ⟨#[13, 10, 13, 10]⟩) bo).run Tryd.prog wx = .ok (.string (J ++ ⟨#[13, 10, 13, 10]⟩ ++ bo)) wx := fun wx => run_string_add_sum (P := Tryd.prog) (w := wx) _ _ (by rw [ByteArray.size_append]; show _ + 4 + _ ≤ _; omega)
  go_enter Tryd.func45, Tryd.ntmps45
  go_wp2_with fail
  refine HJ.out.mono ?_
  rintro e w1 ⟨rfl, b1⟩
  go_wp2
  go_ret
  exact ⟨rfl, b1⟩
theorem pg_join0 (bo D1 D2 SW : ByteArray) : jnT [jnT [⟨#[72, 84, 84, 80, 47, 49, 46, 49]⟩, D1, SW] ⟨#[32]⟩, ⟨#[67, 111, 110, 116, 101, 110, 116, 45, 76, 101, 110, 103, 116, 104, 58, 32]⟩ ++ D2, ⟨#[67, 111, 110, 110, 101, 99, 116, 105, 111, 110, 58, 32, 99, 108, 111, 115, 101]⟩] ⟨#[13, 10]⟩ ++ ⟨#[13, 10, 13, 10]⟩ ++ bo = ⟨#[72, 84, 84, 80, 47, 49, 46, 49, 32]⟩ ++ D1 ++ ⟨#[32]⟩ ++ SW ++ ⟨#[13, 10]⟩ ++ ⟨#[67, 111, 110, 116, 101, 110, 116, 45, 76, 101, 110, 103, 116, 104, 58, 32]⟩ ++ D2 ++ ⟨#[13, 10, 67, 111, 110, 110, 101, 99, 116, 105, 111, 110, 58, 32, 99, 108, 111, 115, 101, 13, 10, 13, 10]⟩ ++ bo := by
  apply ba_ext
  simp [jnT, Lib.join_cons, Lib.joinTail]
theorem pg_join1 (wh bo D1 D2 SW : ByteArray) : jnT [jnT [⟨#[72, 84, 84, 80, 47, 49, 46, 49]⟩, D1, SW] ⟨#[32]⟩, ⟨#[76, 111, 99, 97, 116, 105, 111, 110, 58, 32]⟩ ++ wh, ⟨#[67, 111, 110, 116, 101, 110, 116, 45, 76, 101, 110, 103, 116, 104, 58, 32]⟩ ++ D2, ⟨#[67, 111, 110, 110, 101, 99, 116, 105, 111, 110, 58, 32, 99, 108, 111, 115, 101]⟩] ⟨#[13, 10]⟩ ++ ⟨#[13, 10, 13, 10]⟩ ++ bo = ⟨#[72, 84, 84, 80, 47, 49, 46, 49, 32]⟩ ++ D1 ++ ⟨#[32]⟩ ++ SW ++ ⟨#[13, 10]⟩ ++ (⟨#[76, 111, 99, 97, 116, 105, 111, 110, 58, 32]⟩ ++ wh ++ ⟨#[13, 10]⟩) ++ ⟨#[67, 111, 110, 116, 101, 110, 116, 45, 76, 101, 110, 103, 116, 104, 58, 32]⟩ ++ D2 ++ ⟨#[13, 10, 67, 111, 110, 110, 101, 99, 116, 105, 111, 110, 58, 32, 99, 108, 111, 115, 101, 13, 10, 13, 10]⟩ ++ bo := by
  apply ba_ext
  simp [jnT, Lib.join_cons, Lib.joinTail]
theorem st_new2 (X : World) (s t : ByteArray) (T : TypeId) : ∀ j u, (flatS stG [s, t])[j]? = some u → (X.alloc (.cells #[.string s, .string t] T)).cell? ⟨X.heap.size, 0 + j, none⟩ = some u := by
  intro j u hu
  match j, hu with
  | 0, hu => cases hu; simp
  | 1, hu => cases hu; simp

set_option maxHeartbeats 2000000 in
theorem implPg_any (st : Int) (wh bo : ByteArray) (w : World) (hwh : wh.size ≤ 9223372036854775807) (hbo : bo.size ≤ 9223372036854775807) (ht : Tens w.heap.size w) :
    Calls Tryd.prog 16 #[.int .i64 st, .string wh, .string bo] w fun e w' => e = .returned (.tuple #[.string (pgS st wh bo), .int .i64 (pgC st wh bo)]) ∧ Below w.heap.size w w' := by
  have HT9 : Hid (Tens w.heap.size w) := ht
  clear ht
  by_cases hl1 : 65536 < wh.size
  · have E := pg_long (st := st) (wh := wh) (bo := bo) (.inl hl1)
    rw [E.1, E.2]
    have t1 : decide ((65536 : Int) < (wh.size : Int)) = true := decide_eq_true (by omega)
    clear E hl1
    go_enter Tryd.func16, Tryd.ntmps16
    go_wp2
    go_ret2
    exact ⟨rfl, Below.refl _ _⟩
  by_cases hl2 : 65536 < bo.size
  · have E := pg_long (st := st) (wh := wh) (bo := bo) (.inr hl2)
    rw [E.1, E.2]
    have t1 : decide ((65536 : Int) < (wh.size : Int)) = false := decide_eq_false (by omega)
    have t2 : decide ((65536 : Int) < (bo.size : Int)) = true := decide_eq_true (by omega)
    clear E hl1 hl2
    go_enter Tryd.func16, Tryd.ntmps16
    go_wp2
    go_ret2
    exact ⟨rfl, Below.refl _ _⟩
  have hnl : ¬ (65536 < wh.size ∨ 65536 < bo.size) := by omega
  have t1 : decide ((65536 : Int) < (wh.size : Int)) = false := decide_eq_false (by omega)
  have t2 : decide ((65536 : Int) < (bo.size : Int)) = false := decide_eq_false (by omega)
  have HN : Hid (pgB st wh bo = false → pgC st wh bo = 4 ∧ pgS st wh bo = ⟨#[]⟩) := fun h => pg_no hnl h
  have HY : Hid (pgB st wh bo = true → pgC st wh bo = 0 ∧ pgS st wh bo = pgT st wh bo) := fun h => pg_yes hnl h
  have HB : Hid (pgB st wh bo = true → (200 ≤ st ∧ st ≤ 503) ∧ wh.size ≤ 40 ∧ bo.size ≤ 100) := pgB_says
  have TS : Hid (∀ w, Calls Tryd.prog 19 #[.int .i64 st] w fun e w' => e = .returned (.string (swS st)) ∧ w' = w) := fun w => implSw_any st w
  have TP : Hid (∀ w, Calls Tryd.prog 43 #[.string wh] w fun e w' => e = .returned (.bool (ptB wh)) ∧ w' = w) := fun w => pathOK_any wh w hwh
  have EB : pgB st wh bo = ((!((swS st).toList == [])) && ((wh.toList == []) || ptB wh) && !decide ((100 : Int) < (bo.size : Int))) := rfl
  clear hl1 hl2 hnl
  generalize pgC st wh bo = C at HN HY ⊢
  generalize pgS st wh bo = T at HN HY ⊢
  generalize pgB st wh bo = PB at HN HY HB EB
  generalize hsw : (swS st) = SW at TS EB
  have HSW : Hid (swS st = SW) := hsw
  clear hsw
  generalize e1 : (SW.toList == []) = d1 at EB
  generalize e2 : (wh.toList == []) = d2 at EB
  generalize e4 : decide ((100 : Int) < (bo.size : Int)) = d4 at EB
  generalize ptB wh = d3 at TP EB
  cases d1 with
  | true =>
    obtain ⟨rfl, rfl⟩ := HN.out (by rw [EB]; rfl)
    clear HN HY HB EB TP
    go_enter Tryd.func16, Tryd.ntmps16
    go_wp2_with fail
    refine (TS.out _).mono ?_
    rintro e w1 ⟨rfl, hw⟩
    subst hw
    go_wp2
    go_ret2
    exact ⟨rfl, Below.refl _ _⟩
  | false =>
  cases d2 with
  | true =>
    cases d4 with
    | true =>
      obtain ⟨rfl, rfl⟩ := HN.out (by rw [EB]; rfl)
      clear HN HY HB EB TP
      go_enter Tryd.func16, Tryd.ntmps16
      go_wp2_with fail
      refine (TS.out _).mono ?_
      rintro e w1 ⟨rfl, hw⟩
      subst hw
      go_wp2
      go_ret2
      exact ⟨rfl, Below.refl _ _⟩
    | false =>
      have hpb : PB = true := by rw [EB]; rfl
      obtain ⟨⟨s0, s1⟩, s2, s3⟩ := HB.out hpb
      obtain ⟨rfl, HT⟩ := HY.out hpb
      rw [HT]
      clear HN HY HB EB TP HT hpb
      obtain ⟨n, rfl⟩ := Int.eq_ofNat_of_zero_le (show 0 ≤ st by omega)
      have TI : Hid (∀ w, Lib.TabIs Tryd.prog w "internal/strconv.uint64pow10" .u64 Lib.pow10Tab → Calls Tryd.prog 44 #[.int .i64 (n : Int)] w fun e w' => e = .returned (.string (strOfNums (dgs n))) ∧ Grw w w') := fun w h => itoa9 n w (by omega) h
      have TL : Hid (∀ w, Lib.TabIs Tryd.prog w "internal/strconv.uint64pow10" .u64 Lib.pow10Tab → Calls Tryd.prog 46 #[.string bo] w fun e w' => e = .returned (.string (⟨#[67, 111, 110, 116, 101, 110, 116, 45, 76, 101, 110, 103, 116, 104, 58, 32]⟩ ++ strOfNums (dgs bo.size))) ∧ Grw w w') := fun w h => lenLine9 bo w (by omega) h
      have d1 := dgs_3 n (by omega)
      have d2 := dgs_3 bo.size (by omega)
      have d3 := swS_size n
      rw [HSW.out] at d3
      have EZ : Hid (pgT n wh bo = jnT ([jnT [⟨#[72, 84, 84, 80, 47, 49, 46, 49]⟩, strOfNums (dgs n), SW] ⟨#[32]⟩, ⟨#[67, 111, 110, 116, 101, 110, 116, 45, 76, 101, 110, 103, 116, 104, 58, 32]⟩ ++ strOfNums (dgs bo.size), ⟨#[67, 111, 110, 110, 101, 99, 116, 105, 111, 110, 58, 32, 99, 108, 111, 115, 101]⟩]) ⟨#[13, 10]⟩ ++ ⟨#[13, 10, 13, 10]⟩ ++ bo) := by
        show _ = _
        unfold pgT
        rw [Int.toNat_natCast, HSW.out, if_pos (empty_size.1 e2)]
        exact (pg_join0 bo _ _ SW).symm
      rw [EZ.out]
      clear EZ HSW
      have z16 : (⟨#[67, 111, 110, 116, 101, 110, 116, 45, 76, 101, 110, 103, 116, 104, 58, 32]⟩ : ByteArray).size = 16 := rfl
      have z17 : (⟨#[67, 111, 110, 110, 101, 99, 116, 105, 111, 110, 58, 32, 99, 108, 111, 115, 101]⟩ : ByteArray).size = 17 := rfl
      have z8 : (⟨#[72, 84, 84, 80, 47, 49, 46, 49]⟩ : ByteArray).size = 8 := rfl
      have z1 : (⟨#[32]⟩ : ByteArray).size = 1 := rfl
      have z2 : (⟨#[13, 10]⟩ : ByteArray).size = 2 := rfl
      have z10 : (⟨#[76, 111, 99, 97, 116, 105, 111, 110, 58, 32]⟩ : ByteArray).size = 10 := rfl
      have hL : (⟨#[67, 111, 110, 116, 101, 110, 116, 45, 76, 101, 110, 103, 116, 104, 58, 32]⟩ ++ strOfNums (dgs bo.size)).size ≤ 19 := by rw [ByteArray.size_append]; omega
      generalize ⟨#[67, 111, 110, 116, 101, 110, 116, 45, 76, 101, 110, 103, 116, 104, 58, 32]⟩ ++ strOfNums (dgs bo.size) = LL at TL hL ⊢
      generalize strOfNums (dgs n) = D1 at TI d1 ⊢
      have J1 : Hid (∀ g w, w.cell? ⟨g, 0, none⟩ = some (.string ⟨#[72, 84, 84, 80, 47, 49, 46, 49]⟩) → w.cell? ⟨g, 1, none⟩ = some (.string D1) → w.cell? ⟨g, 2, none⟩ = some (.string SW) → Calls Tryd.prog 35 #[.slice (some ⟨g, 0, none⟩) 3 3, .string ⟨#[32]⟩] w fun e w' => e = .returned (.string (jnT [⟨#[72, 84, 84, 80, 47, 49, 46, 49]⟩, D1, SW] ⟨#[32]⟩)) ∧ Below w.heap.size w w') := fun g w a b c => join3 g _ _ _ _ w a b c (by omega)
      have hJ1 : (jnT [⟨#[72, 84, 84, 80, 47, 49, 46, 49]⟩, D1, SW] ⟨#[32]⟩).size ≤ 60 := by
        have := jnT_size ⟨#[32]⟩ 3 [⟨#[72, 84, 84, 80, 47, 49, 46, 49]⟩, D1, SW] rfl
        simp [szT, z8, z1] at this
        omega
      generalize jnT [⟨#[72, 84, 84, 80, 47, 49, 46, 49]⟩, D1, SW] ⟨#[32]⟩ = FL at J1 hJ1 ⊢
      have M1 : Hid (∀ g c B w, OwnS stG 1 9 w B (.slice (some ⟨g, 0, none⟩) 3 c) [FL, LL, ⟨#[67, 111, 110, 110, 101, 99, 116, 105, 111, 110, 58, 32, 99, 108, 111, 115, 101]⟩] → Calls Tryd.prog 45 #[.slice (some ⟨g, 0, none⟩) 3 c, .string bo] w fun e w' => e = .returned (.string (jnT [FL, LL, ⟨#[67, 111, 110, 110, 101, 99, 116, 105, 111, 110, 58, 32, 99, 108, 111, 115, 101]⟩] ⟨#[13, 10]⟩ ++ ⟨#[13, 10, 13, 10]⟩ ++ bo)) ∧ Below w.heap.size w w') := fun g c B w hO => by
        have hz := jnT_size ⟨#[13, 10]⟩ 3 [FL, LL, ⟨#[67, 111, 110, 110, 101, 99, 116, 105, 111, 110, 58, 32, 99, 108, 111, 115, 101]⟩] rfl
        have hs : szT [FL, LL, ⟨#[67, 111, 110, 110, 101, 99, 116, 105, 111, 110, 58, 32, 99, 108, 111, 115, 101]⟩] ≤ 300 := by simp [szT, z17]; omega
        rw [z2] at hz
        refine message2 g 3 c _ bo w ?_ (by omega)
        exact join_any g c B [FL, LL, ⟨#[67, 111, 110, 110, 101, 99, 116, 105, 111, 110, 58, 32, 99, 108, 111, 115, 101]⟩] ⟨#[13, 10]⟩ w hO (by
          obtain ⟨a', c', he, h1, _⟩ := hO.slice
          obtain ⟨-, -, rfl⟩ := Value.slice.inj he
          exact h1) (by simp) (by rw [z2]; show _ + 2 * 3 ≤ _; omega)
      generalize jnT [FL, LL, ⟨#[67, 111, 110, 110, 101, 99, 116, 105, 111, 110, 58, 32, 99, 108, 111, 115, 101]⟩] ⟨#[13, 10]⟩ ++ ⟨#[13, 10, 13, 10]⟩ ++ bo = Z at M1 ⊢
      clear z16 z17 z8 z1 z2 z10 d1 d2 d3 hL hJ1
      go_enter Tryd.func16, Tryd.ntmps16
      go_wp2_with fail
      refine (TS.out _).mono ?_
      rintro e wa ⟨rfl, hw⟩
      have hwa := hw.symm
      clear hw
      subst hwa
      go_wp2_with fail
      refine (TI.out _ (HT9.out.tab (Below.refl _ _))).mono ?_
      rintro e w1 ⟨rfl, g1⟩
      have B1 : Hid (Below w.heap.size w w1) := g1.below
      clear g1
      go_wp2_with fail
      refine (J1.out _ _ (by simp [go_sem]) (by simp [go_sem]) (by simp [go_sem])).mono ?_
      rintro e w2 ⟨rfl, b2⟩
      have B2 : Hid (Below w.heap.size w w2) := (B1.out.alloc B1.out.size _).trans (b2.mono (by have := B1.out.size; simp; omega))
      clear b2 B1 J1
      have O2 : Hid (OwnS stG 1 9 (w2.alloc (.cells #[.string FL] 9)) w.heap.size (.slice (some ⟨w2.heap.size, 0, none⟩) 1 1) [FL] ∧ Below w.heap.size w (w2.alloc (.cells #[.string FL] 9))) := ⟨World.ownsRow_lit w2 #[.string FL] 1 B2.out.size (by unfold maxLen; omega) rfl, B2.out.alloc B2.out.size _⟩
      go_wp2_with fail
      refine (TL.out _ (HT9.out.tab O2.out.2)).mono ?_
      rintro e w4 ⟨rfl, g4⟩
      have O4 : Hid (OwnS stG 1 9 w4 w.heap.size (.slice (some ⟨w2.heap.size, 0, none⟩) 1 1) [FL] ∧ Below w.heap.size w w4) := ⟨O2.out.1.now g4.below, O2.out.2.trans (g4.below.mono O2.out.2.size)⟩
      clear g4 O2 B2
      go_wp2_with (first | (at_builtin; refine wpl_strs _ rfl (.tmp 49) (.tmp 52) rfl w.heap.size (.slice (some ⟨w2.heap.size, 0, none⟩) 1 1) [FL] [LL, ⟨#[67, 111, 110, 110, 101, 99, 116, 105, 111, 110, 58, 32, 99, 108, 111, 115, 101]⟩] rfl (O4.out.1.now ((Below.refl _ _).alloc (Nat.le_refl _) _)) _ 0 2 2 rfl rfl (st_new2 _ _ _ _) (by simp) (by have := O4.out.2.size; simp; omega) ?_; intro v5 w5 Y5 G5) | fail)
      have O5 : Hid (OwnS stG 1 9 w5 w.heap.size v5 [FL, LL, ⟨#[67, 111, 110, 110, 101, 99, 116, 105, 111, 110, 58, 32, 99, 108, 111, 115, 101]⟩] ∧ Below w.heap.size w w5) := ⟨Y5.out.1, (O4.out.2.alloc O4.out.2.size _).trans Y5.out.2⟩
      clear Y5 G5 O4
      obtain ⟨g5, c5, rfl⟩ : ∃ g c, v5 = .slice (some ⟨g, 0, none⟩) 3 c := by
        obtain ⟨a7, c7, he, _⟩ := O5.out.1.slice
        subst he
        obtain ⟨g7, hg7, -⟩ := O5.out.1.form (by simp)
        exact ⟨g7, c7, by rw [hg7]; rfl⟩
      (try go_wp2_with fail)
      refine (M1.out _ _ _ _ O5.out.1).mono ?_
      rintro e w6 ⟨rfl, b6⟩
      have B6 : Hid (Below w.heap.size w w6) := O5.out.2.trans (b6.mono O5.out.2.size)
      clear b6 O5
      go_wp2
      go_ret2
      exact ⟨rfl, B6.out⟩

  | false =>
    cases d3 with
    | false =>
      obtain ⟨rfl, rfl⟩ := HN.out (by rw [EB]; rfl)
      clear HN HY HB EB
      go_enter Tryd.func16, Tryd.ntmps16
      go_wp2_with fail
      refine (TS.out _).mono ?_
      rintro e w1 ⟨rfl, hw⟩
      subst hw
      go_wp2_with fail
      refine (TP.out _).mono ?_
      rintro e w1 ⟨rfl, hw⟩
      subst hw
      go_wp2
      go_ret2
      exact ⟨rfl, Below.refl _ _⟩
    | true =>
      cases d4 with
      | true =>
        obtain ⟨rfl, rfl⟩ := HN.out (by rw [EB]; rfl)
        clear HN HY HB EB
        go_enter Tryd.func16, Tryd.ntmps16
        go_wp2_with fail
        refine (TS.out _).mono ?_
        rintro e w1 ⟨rfl, hw⟩
        subst hw
        go_wp2_with fail
        refine (TP.out _).mono ?_
        rintro e w1 ⟨rfl, hw⟩
        subst hw
        go_wp2
        go_ret2
        exact ⟨rfl, Below.refl _ _⟩
      | false =>
        have hpb : PB = true := by rw [EB]; rfl
        obtain ⟨⟨s0, s1⟩, s2, s3⟩ := HB.out hpb
        obtain ⟨rfl, HT⟩ := HY.out hpb
        rw [HT]
        clear HN HY HB EB HT hpb
        obtain ⟨n, rfl⟩ := Int.eq_ofNat_of_zero_le (show 0 ≤ st by omega)
        have TI : Hid (∀ w, Lib.TabIs Tryd.prog w "internal/strconv.uint64pow10" .u64 Lib.pow10Tab → Calls Tryd.prog 44 #[.int .i64 (n : Int)] w fun e w' => e = .returned (.string (strOfNums (dgs n))) ∧ Grw w w') := fun w h => itoa9 n w (by omega) h
        have TL : Hid (∀ w, Lib.TabIs Tryd.prog w "internal/strconv.uint64pow10" .u64 Lib.pow10Tab → Calls Tryd.prog 46 #[.string bo] w fun e w' => e = .returned (.string (⟨#[67, 111, 110, 116, 101, 110, 116, 45, 76, 101, 110, 103, 116, 104, 58, 32]⟩ ++ strOfNums (dgs bo.size))) ∧ Grw w w') := fun w h => lenLine9 bo w (by omega) h
        have d1 := dgs_3 n (by omega)
        have d2 := dgs_3 bo.size (by omega)
        have d3 := swS_size n
        rw [HSW.out] at d3
        have EZ : Hid (pgT n wh bo = jnT ([jnT [⟨#[72, 84, 84, 80, 47, 49, 46, 49]⟩, strOfNums (dgs n), SW] ⟨#[32]⟩, ⟨#[76, 111, 99, 97, 116, 105, 111, 110, 58, 32]⟩ ++ wh, ⟨#[67, 111, 110, 116, 101, 110, 116, 45, 76, 101, 110, 103, 116, 104, 58, 32]⟩ ++ strOfNums (dgs bo.size), ⟨#[67, 111, 110, 110, 101, 99, 116, 105, 111, 110, 58, 32, 99, 108, 111, 115, 101]⟩]) ⟨#[13, 10]⟩ ++ ⟨#[13, 10, 13, 10]⟩ ++ bo) := by
          show _ = _
          unfold pgT
          rw [Int.toNat_natCast, HSW.out, if_neg (fun h => by have := empty_size.2 h; rw [e2] at this; cases this)]
          exact (pg_join1 wh bo _ _ SW).symm
        rw [EZ.out]
        clear EZ HSW
        have z16 : (⟨#[67, 111, 110, 116, 101, 110, 116, 45, 76, 101, 110, 103, 116, 104, 58, 32]⟩ : ByteArray).size = 16 := rfl
        have z17 : (⟨#[67, 111, 110, 110, 101, 99, 116, 105, 111, 110, 58, 32, 99, 108, 111, 115, 101]⟩ : ByteArray).size = 17 := rfl
        have z8 : (⟨#[72, 84, 84, 80, 47, 49, 46, 49]⟩ : ByteArray).size = 8 := rfl
        have z1 : (⟨#[32]⟩ : ByteArray).size = 1 := rfl
        have z2 : (⟨#[13, 10]⟩ : ByteArray).size = 2 := rfl
        have z10 : (⟨#[76, 111, 99, 97, 116, 105, 111, 110, 58, 32]⟩ : ByteArray).size = 10 := rfl
        have hL : (⟨#[67, 111, 110, 116, 101, 110, 116, 45, 76, 101, 110, 103, 116, 104, 58, 32]⟩ ++ strOfNums (dgs bo.size)).size ≤ 19 := by rw [ByteArray.size_append]; omega
        generalize ⟨#[67, 111, 110, 116, 101, 110, 116, 45, 76, 101, 110, 103, 116, 104, 58, 32]⟩ ++ strOfNums (dgs bo.size) = LL at TL hL ⊢
        generalize strOfNums (dgs n) = D1 at TI d1 ⊢
        have J1 : Hid (∀ g w, w.cell? ⟨g, 0, none⟩ = some (.string ⟨#[72, 84, 84, 80, 47, 49, 46, 49]⟩) → w.cell? ⟨g, 1, none⟩ = some (.string D1) → w.cell? ⟨g, 2, none⟩ = some (.string SW) → Calls Tryd.prog 35 #[.slice (some ⟨g, 0, none⟩) 3 3, .string ⟨#[32]⟩] w fun e w' => e = .returned (.string (jnT [⟨#[72, 84, 84, 80, 47, 49, 46, 49]⟩, D1, SW] ⟨#[32]⟩)) ∧ Below w.heap.size w w') := fun g w a b c => join3 g _ _ _ _ w a b c (by omega)
        have hJ1 : (jnT [⟨#[72, 84, 84, 80, 47, 49, 46, 49]⟩, D1, SW] ⟨#[32]⟩).size ≤ 60 := by
          have := jnT_size ⟨#[32]⟩ 3 [⟨#[72, 84, 84, 80, 47, 49, 46, 49]⟩, D1, SW] rfl
          simp [szT, z8, z1] at this
          omega
        generalize jnT [⟨#[72, 84, 84, 80, 47, 49, 46, 49]⟩, D1, SW] ⟨#[32]⟩ = FL at J1 hJ1 ⊢
        have hadd : ∀ wx : World, (Op.stringOp .add ⟨#[76, 111, 99, 97, 116, 105, 111, 110, 58, 32]⟩ wh).run Tryd.prog wx = .ok (.string (⟨#[76, 111, 99, 97, 116, 105, 111, 110, 58, 32]⟩ ++ wh)) wx := fun wx => run_string_add_sum (P := Tryd.prog) (w := wx) _ _ (by omega)
        have hLO : (⟨#[76, 111, 99, 97, 116, 105, 111, 110, 58, 32]⟩ ++ wh).size ≤ 50 := by rw [ByteArray.size_append]; omega
        generalize ⟨#[76, 111, 99, 97, 116, 105, 111, 110, 58, 32]⟩ ++ wh = LW at hadd hLO ⊢
        have M1 : Hid (∀ g c B w, OwnS stG 1 9 w B (.slice (some ⟨g, 0, none⟩) 4 c) [FL, LW, LL, ⟨#[67, 111, 110, 110, 101, 99, 116, 105, 111, 110, 58, 32, 99, 108, 111, 115, 101]⟩] → Calls Tryd.prog 45 #[.slice (some ⟨g, 0, none⟩) 4 c, .string bo] w fun e w' => e = .returned (.string (jnT [FL, LW, LL, ⟨#[67, 111, 110, 110, 101, 99, 116, 105, 111, 110, 58, 32, 99, 108, 111, 115, 101]⟩] ⟨#[13, 10]⟩ ++ ⟨#[13, 10, 13, 10]⟩ ++ bo)) ∧ Below w.heap.size w w') := fun g c B w hO => by
          have hz := jnT_size ⟨#[13, 10]⟩ 4 [FL, LW, LL, ⟨#[67, 111, 110, 110, 101, 99, 116, 105, 111, 110, 58, 32, 99, 108, 111, 115, 101]⟩] rfl
          have hs : szT [FL, LW, LL, ⟨#[67, 111, 110, 110, 101, 99, 116, 105, 111, 110, 58, 32, 99, 108, 111, 115, 101]⟩] ≤ 300 := by simp [szT, z17]; omega
          rw [z2] at hz
          refine message2 g 4 c _ bo w ?_ (by omega)
          exact join_any g c B [FL, LW, LL, ⟨#[67, 111, 110, 110, 101, 99, 116, 105, 111, 110, 58, 32, 99, 108, 111, 115, 101]⟩] ⟨#[13, 10]⟩ w hO (by
            obtain ⟨a', c', he, h1, _⟩ := hO.slice
            obtain ⟨-, -, rfl⟩ := Value.slice.inj he
            exact h1) (by simp) (by rw [z2]; show _ + 2 * 4 ≤ _; omega)
        generalize jnT [FL, LW, LL, ⟨#[67, 111, 110, 110, 101, 99, 116, 105, 111, 110, 58, 32, 99, 108, 111, 115, 101]⟩] ⟨#[13, 10]⟩ ++ ⟨#[13, 10, 13, 10]⟩ ++ bo = Z at M1 ⊢
        clear z16 z17 z8 z1 z2 z10 d1 d2 d3 hL hJ1
        go_enter Tryd.func16, Tryd.ntmps16
        go_wp2_with fail
        refine (TS.out _).mono ?_
        rintro e wa ⟨rfl, hw⟩
        have hwa := hw.symm
        clear hw
        subst hwa
        go_wp2_with fail
        refine (TP.out _).mono ?_
        rintro e wa ⟨rfl, hw⟩
        have hwa := hw.symm
        clear hw
        subst hwa
        go_wp2_with fail
        refine (TI.out _ (HT9.out.tab (Below.refl _ _))).mono ?_
        rintro e w1 ⟨rfl, g1⟩
        have B1 : Hid (Below w.heap.size w w1) := g1.below
        clear g1
        go_wp2_with fail
        refine (J1.out _ _ (by simp [go_sem]) (by simp [go_sem]) (by simp [go_sem])).mono ?_
        rintro e w2 ⟨rfl, b2⟩
        have B2 : Hid (Below w.heap.size w w2) := (B1.out.alloc B1.out.size _).trans (b2.mono (by have := B1.out.size; simp; omega))
        clear b2 B1 J1
        have O2 : Hid (OwnS stG 1 9 (w2.alloc (.cells #[.string FL] 9)) w.heap.size (.slice (some ⟨w2.heap.size, 0, none⟩) 1 1) [FL] ∧ Below w.heap.size w (w2.alloc (.cells #[.string FL] 9))) := ⟨World.ownsRow_lit w2 #[.string FL] 1 B2.out.size (by unfold maxLen; omega) rfl, B2.out.alloc B2.out.size _⟩
        go_wp2_with (at_builtin; refine wpl_strs _ rfl (.tmp 44) (.tmp 47) rfl w.heap.size (.slice (some ⟨w2.heap.size, 0, none⟩) 1 1) [FL] [LW] rfl (O2.out.1.now ((Below.refl _ _).alloc (Nat.le_refl _) _)) (w2.heap.size + 1) 0 1 1 rfl rfl (fun j u hu => by have h9 := st_new (w2.alloc (.cells #[.string FL] 9)) LW 9 j u hu; rw [World.size_alloc] at h9; exact h9) (by simp) (by have := O2.out.2.size; simp at this ⊢; omega) ?_; intro v3 w3 Y3 G3)
        have O3 : Hid (OwnS stG 1 9 w3 w.heap.size v3 [FL, LW] ∧ Below w.heap.size w w3) := ⟨Y3.out.1, (O2.out.2.alloc O2.out.2.size _).trans Y3.out.2⟩
        clear Y3 G3 O2 B2
        go_wp2_with fail
        refine (TL.out _ (HT9.out.tab O3.out.2)).mono ?_
        rintro e w4 ⟨rfl, g4⟩
        have O4 : Hid (OwnS stG 1 9 w4 w.heap.size v3 [FL, LW] ∧ Below w.heap.size w w4) := ⟨O3.out.1.now g4.below, O3.out.2.trans (g4.below.mono O3.out.2.size)⟩
        clear g4 O3
        go_wp2_with (first | (at_builtin; refine wpl_strs _ rfl (.tmp 49) (.tmp 52) rfl w.heap.size v3 [FL, LW] [LL, ⟨#[67, 111, 110, 110, 101, 99, 116, 105, 111, 110, 58, 32, 99, 108, 111, 115, 101]⟩] rfl (O4.out.1.now ((Below.refl _ _).alloc (Nat.le_refl _) _)) _ 0 2 2 rfl rfl (st_new2 _ _ _ _) (by simp) (by have := O4.out.2.size; simp; omega) ?_; intro v5 w5 Y5 G5) | fail)
        have O5 : Hid (OwnS stG 1 9 w5 w.heap.size v5 [FL, LW, LL, ⟨#[67, 111, 110, 110, 101, 99, 116, 105, 111, 110, 58, 32, 99, 108, 111, 115, 101]⟩] ∧ Below w.heap.size w w5) := ⟨Y5.out.1, (O4.out.2.alloc O4.out.2.size _).trans Y5.out.2⟩
        clear Y5 G5 O4
        obtain ⟨g5, c5, rfl⟩ : ∃ g c, v5 = .slice (some ⟨g, 0, none⟩) 4 c := by
          obtain ⟨a7, c7, he, _⟩ := O5.out.1.slice
          subst he
          obtain ⟨g7, hg7, -⟩ := O5.out.1.form (by simp)
          exact ⟨g7, c7, by rw [hg7]; rfl⟩
        (try go_wp2_with fail)
        refine (M1.out _ _ _ _ O5.out.1).mono ?_
        rintro e w6 ⟨rfl, b6⟩
        have B6 : Hid (Below w.heap.size w w6) := O5.out.2.trans (b6.mono O5.out.2.size)
        clear b6 O5
        go_wp2
        go_ret2
        exact ⟨rfl, B6.out⟩

end Go.Proofs.YtappekglflgodaaDoor
