/- ConnAgain of both sides. -/
import Derived.Test.YtjammgjmidchmaaConR
namespace Go.Proofs.Ytjammgjmidchmaa
open Go.RowKit Go.PlainAid Go.Proofs.Ytjammgjmidchmaa.Bt Go.Sort
set_option linter.unusedVariables false
set_option maxRecDepth 20000

/-- What is told once more. -/
def agC (c : ConnV) : Int := if okB c = true then 0 else 1
def agL (c : ConnV) : List SegV := if okB c = true then (if c.st = 1 then [⟨80, c.po, c.un, c.wa, 18, 1000, ⟨#[]⟩⟩] else puL c.po c.wa c.un c.out c.fin) else []
theorem okB_says {c : ConnV} (h : okB c = true) : nuB c = true ∧ txB c = true := by
  unfold okB at h
  simp only [Bool.and_eq_true] at h
  exact ⟨h.1.1, h.1.2⟩
theorem agL_len (c : ConnV) : (agL c).length ≤ 3 := by
  unfold agL
  split
  · rename_i h
    split
    · simp
    · exact puL_len _ _ _ _ _ (txB_bd (okB_says h).2).2.2.1
  · simp
theorem agL_ok (c : ConnV) : ∀ x, x ∈ agL c → SgRok x := by
  unfold agL
  split
  · rename_i h
    have hn := nuB_bd (okB_says h).1
    split
    · intro x hx
      simp at hx
      subst hx
      exact sg_ok hn.2.1 hn.2.2.2.2.1 hn.2.2.2.2.2.2 ⟨by decide, by decide⟩ (Nat.zero_le 300)
    · exact puL_ok _ _ _ _ _ (txB_bd (okB_says h).2).2.2.1 hn.2.1 hn.2.2.2.2.2.2
  · intro x hx
    simp at hx
theorem own1 (w : World) (B : Nat) (sp dp sq ac fl wi : Int) (da : ByteArray) (hB : B ≤ w.heap.size) : OwnS sgG 7 27 (w.alloc (.cells #[.int .i64 sp, .int .i64 dp, .int .i64 sq, .int .i64 ac, .int .i64 fl, .int .i64 wi, .string da] 27)) B (.slice (some ⟨w.heap.size, 0, none⟩) 1 1) [⟨sp, dp, sq, ac, fl, wi, da⟩] :=
  World.ownsRow_lit w _ 1 hB (by unfold maxLen; omega) rfl
set_option maxHeartbeats 2000000 in
theorem l10Again_any (mc : ByteArray) (ip po di st un nx wa : Int) (inn out : ByteArray) (fin : Bool) (w : World) (hok : okB ⟨mc, ip, po, di, st, un, nx, wa, inn, out, fin⟩ = true) :
    Calls Try.prog 46 #[.agg #[.string mc, .int .i64 ip, .int .i64 po, .int .i64 di, .int .i64 st, .int .i64 un, .int .i64 nx, .int .i64 wa, .string inn, .string out, .bool fin]] w fun e w' => ∃ v, e = .returned v ∧ OwnS sgG 7 27 w' w.heap.size v (agL ⟨mc, ip, po, di, st, un, nx, wa, inn, out, fin⟩) ∧ Below w.heap.size w w' := by
  have hn := nuB_bd (okB_says hok).1
  have hx := txB_bd (okB_says hok).2
  dsimp only at hn hx
  have E : agL ⟨mc, ip, po, di, st, un, nx, wa, inn, out, fin⟩ = if st = 1 then [⟨80, po, un, wa, 18, 1000, ⟨#[]⟩⟩] else puL po wa un out fin := by unfold agL; rw [if_pos hok]
  have TR : Hid (∀ w, Calls Try.prog 79 #[.agg #[.string mc, .int .i64 ip, .int .i64 po, .int .i64 di, .int .i64 st, .int .i64 un, .int .i64 nx, .int .i64 wa, .string inn, .string out, .bool fin], .int .i64 un, .int .i64 18, .string ⟨#[]⟩] w fun e w' => e = .returned (.agg #[.int .i64 80, .int .i64 po, .int .i64 un, .int .i64 wa, .int .i64 18, .int .i64 1000, .string ⟨#[]⟩]) ∧ Grw w w') := fun w => l10Reply_any mc ip po di st un nx wa inn out fin un 18 ⟨#[]⟩ w
  have TP : Hid (∀ w, Calls Try.prog 82 #[.agg #[.string mc, .int .i64 ip, .int .i64 po, .int .i64 di, .int .i64 st, .int .i64 un, .int .i64 nx, .int .i64 wa, .string inn, .string out, .bool fin], .int .i64 un, .string out, .bool fin] w fun e w' => ∃ v, e = .returned v ∧ OwnS sgG 7 27 w' w.heap.size v (puL po wa un out fin) ∧ Below w.heap.size w w') := fun w => l10Pieces_any mc ip po di st un nx wa inn out fin un out fin w hx.2.2.1 hn.2.2.2.2.1
  have BW : Hid (Grw w (w.alloc (.cells #[.string mc, .int .i64 ip, .int .i64 po, .int .i64 di, .int .i64 st, .int .i64 un, .int .i64 nx, .int .i64 wa, .string inn, .string out, .bool fin] 24))) := (Grw.refl _).alloc _
  have q0 : (w.alloc (.cells #[.string mc, .int .i64 ip, .int .i64 po, .int .i64 di, .int .i64 st, .int .i64 un, .int .i64 nx, .int .i64 wa, .string inn, .string out, .bool fin] 24)).cell? ⟨w.heap.size, 0, none⟩ = some (.string mc) := by simp [go_sem]
  have q1 : (w.alloc (.cells #[.string mc, .int .i64 ip, .int .i64 po, .int .i64 di, .int .i64 st, .int .i64 un, .int .i64 nx, .int .i64 wa, .string inn, .string out, .bool fin] 24)).cell? ⟨w.heap.size, 1, none⟩ = some (.int .i64 ip) := by simp [go_sem]
  have q2 : (w.alloc (.cells #[.string mc, .int .i64 ip, .int .i64 po, .int .i64 di, .int .i64 st, .int .i64 un, .int .i64 nx, .int .i64 wa, .string inn, .string out, .bool fin] 24)).cell? ⟨w.heap.size, 2, none⟩ = some (.int .i64 po) := by simp [go_sem]
  have q3 : (w.alloc (.cells #[.string mc, .int .i64 ip, .int .i64 po, .int .i64 di, .int .i64 st, .int .i64 un, .int .i64 nx, .int .i64 wa, .string inn, .string out, .bool fin] 24)).cell? ⟨w.heap.size, 3, none⟩ = some (.int .i64 di) := by simp [go_sem]
  have q4 : (w.alloc (.cells #[.string mc, .int .i64 ip, .int .i64 po, .int .i64 di, .int .i64 st, .int .i64 un, .int .i64 nx, .int .i64 wa, .string inn, .string out, .bool fin] 24)).cell? ⟨w.heap.size, 4, none⟩ = some (.int .i64 st) := by simp [go_sem]
  have q5 : (w.alloc (.cells #[.string mc, .int .i64 ip, .int .i64 po, .int .i64 di, .int .i64 st, .int .i64 un, .int .i64 nx, .int .i64 wa, .string inn, .string out, .bool fin] 24)).cell? ⟨w.heap.size, 5, none⟩ = some (.int .i64 un) := by simp [go_sem]
  have q6 : (w.alloc (.cells #[.string mc, .int .i64 ip, .int .i64 po, .int .i64 di, .int .i64 st, .int .i64 un, .int .i64 nx, .int .i64 wa, .string inn, .string out, .bool fin] 24)).cell? ⟨w.heap.size, 6, none⟩ = some (.int .i64 nx) := by simp [go_sem]
  have q7 : (w.alloc (.cells #[.string mc, .int .i64 ip, .int .i64 po, .int .i64 di, .int .i64 st, .int .i64 un, .int .i64 nx, .int .i64 wa, .string inn, .string out, .bool fin] 24)).cell? ⟨w.heap.size, 7, none⟩ = some (.int .i64 wa) := by simp [go_sem]
  have q8 : (w.alloc (.cells #[.string mc, .int .i64 ip, .int .i64 po, .int .i64 di, .int .i64 st, .int .i64 un, .int .i64 nx, .int .i64 wa, .string inn, .string out, .bool fin] 24)).cell? ⟨w.heap.size, 8, none⟩ = some (.string inn) := by simp [go_sem]
  have q9 : (w.alloc (.cells #[.string mc, .int .i64 ip, .int .i64 po, .int .i64 di, .int .i64 st, .int .i64 un, .int .i64 nx, .int .i64 wa, .string inn, .string out, .bool fin] 24)).cell? ⟨w.heap.size, 9, none⟩ = some (.string out) := by simp [go_sem]
  have q10 : (w.alloc (.cells #[.string mc, .int .i64 ip, .int .i64 po, .int .i64 di, .int .i64 st, .int .i64 un, .int .i64 nx, .int .i64 wa, .string inn, .string out, .bool fin] 24)).cell? ⟨w.heap.size, 10, none⟩ = some (.bool fin) := by simp [go_sem]
  rw [E]
  by_cases h1 : st = 1
  · have t1 : (st == 1) = true := by simp [h1]
    rw [if_pos h1]
    clear E hn hx hok h1 TP
    go_enter Try.func46, Try.ntmps46
    go_wp2_with fail
    refine (TR.out _).mono ?_
    rintro e w1 ⟨rfl, g1⟩
    have B1 : Hid (Below w.heap.size w w1) := (BW.out.trans g1).below
    clear g1 q0 q1 q2 q3 q4 q5 q6 q7 q8 q9 q10
    go_wp2
    go_ret
    exact ⟨_, rfl, own1 w1 _ _ _ _ _ _ _ _ B1.out.size, B1.out.alloc B1.out.size _⟩
  · have t1 : (st == 1) = false := by simp [h1]
    rw [if_neg h1]
    by_cases h4 : st = 4
    · have t4 : (st == 4) = true := by simp [h4]
      have hf : fin = false := by
        cases hfin : fin with
        | false => rfl
        | true => have := hx.2.2.2.2.1.1 hfin; omega
      have ho := hx.2.2.2.2.2 hf
      have EP : puL po wa un out fin = [] := by rw [hf, puL_open, ho]; rfl
      rw [EP]
      clear E hn hx hok h1 h4 TP hf ho EP
      go_enter Try.func46, Try.ntmps46
      go_wp2
      go_ret
      exact ⟨_, rfl, by
        have := OwnS.lit (α := SegV) (c := sgG) (K := 7) (e := 27) (w.alloc (.cells #[.string mc, .int .i64 ip, .int .i64 po, .int .i64 di, .int .i64 st, .int .i64 un, .int .i64 nx, .int .i64 wa, .string inn, .string out, .bool fin] 24)) w.heap.size (by simp)
        rw [World.size_alloc] at this
        exact this, (BW.out.alloc _).below⟩
    · have t4 : (st == 4) = false := by simp [h4]
      clear E hn hx hok h1 h4 TR
      go_enter Try.func46, Try.ntmps46
      go_wp2_with fail
      refine (TP.out _).mono ?_
      rintro e w1 ⟨v1, rfl, o1, b1⟩
      have X1 : Hid (OwnS sgG 7 27 w1 w.heap.size v1 (puL po wa un out fin) ∧ Below w.heap.size w w1) := ⟨o1.lower (by simp), BW.out.below.trans (b1.mono (by simp))⟩
      clear o1 b1 q0 q1 q2 q3 q4 q5 q6 q7 q8 q9 q10
      go_wp2
      go_ret
      exact ⟨_, rfl, X1.out.1, X1.out.2⟩
set_option maxHeartbeats 2000000 in
theorem specAg_any (mc : ByteArray) (ip po di st un nx wa : Int) (inn out : ByteArray) (fin : Bool) (w : World) (hmc : mc.size ≤ 1048576) (hi : inn.size ≤ 1048576) (ho : out.size ≤ 1048576) :
    Calls Try.prog 14 #[.agg #[.string mc, .int .i64 ip, .int .i64 po, .int .i64 di, .int .i64 st, .int .i64 un, .int .i64 nx, .int .i64 wa, .string inn, .string out, .bool fin]] w fun e w' => ∃ v, e = .returned (.tuple #[v, .int .i64 (agC ⟨mc, ip, po, di, st, un, nx, wa, inn, out, fin⟩)]) ∧ OwnS sgG 7 27 w' w.heap.size v (agL ⟨mc, ip, po, di, st, un, nx, wa, inn, out, fin⟩) ∧ Below w.heap.size w w' := by
  have TK : Hid (∀ w, Calls Try.prog 37 #[.agg #[.string mc, .int .i64 ip, .int .i64 po, .int .i64 di, .int .i64 st, .int .i64 un, .int .i64 nx, .int .i64 wa, .string inn, .string out, .bool fin]] w fun e w' => e = .returned (.bool (okB ⟨mc, ip, po, di, st, un, nx, wa, inn, out, fin⟩)) ∧ Grw w w') := fun w => specConOK_any mc ip po di st un nx wa inn out fin w hmc hi ho
  have TA : Hid (okB ⟨mc, ip, po, di, st, un, nx, wa, inn, out, fin⟩ = true → ∀ w, Calls Try.prog 46 #[.agg #[.string mc, .int .i64 ip, .int .i64 po, .int .i64 di, .int .i64 st, .int .i64 un, .int .i64 nx, .int .i64 wa, .string inn, .string out, .bool fin]] w fun e w' => ∃ v, e = .returned v ∧ OwnS sgG 7 27 w' w.heap.size v (agL ⟨mc, ip, po, di, st, un, nx, wa, inn, out, fin⟩) ∧ Below w.heap.size w w') := fun h w => l10Again_any mc ip po di st un nx wa inn out fin w h
  have BW : Hid (Grw w (w.alloc (.cells #[.string mc, .int .i64 ip, .int .i64 po, .int .i64 di, .int .i64 st, .int .i64 un, .int .i64 nx, .int .i64 wa, .string inn, .string out, .bool fin] 24))) := (Grw.refl _).alloc _
  have EL : okB ⟨mc, ip, po, di, st, un, nx, wa, inn, out, fin⟩ = false → agL ⟨mc, ip, po, di, st, un, nx, wa, inn, out, fin⟩ = [] := fun h => by unfold agL; rw [h]; rfl
  have EC : agC ⟨mc, ip, po, di, st, un, nx, wa, inn, out, fin⟩ = if okB ⟨mc, ip, po, di, st, un, nx, wa, inn, out, fin⟩ = true then 0 else 1 := rfl
  rw [EC]
  generalize agL ⟨mc, ip, po, di, st, un, nx, wa, inn, out, fin⟩ = L at TA EL ⊢
  generalize okB ⟨mc, ip, po, di, st, un, nx, wa, inn, out, fin⟩ = z at TK TA EL ⊢
  clear EC
  cases z with
  | false =>
    rw [EL rfl, if_neg (by simp)]
    clear EL TA
    go_enter Try.func14, Try.ntmps14
    go_wp2_with fail
    refine (TK.out _).mono ?_
    rintro e w1 ⟨rfl, g1⟩
    have B1 : Hid (Below w.heap.size w w1) := (BW.out.trans g1).below
    clear g1
    go_wp2
    go_ret2
    exact ⟨_, rfl, OwnS.lit w1 _ B1.out.size, B1.out.alloc B1.out.size _⟩
  | true =>
    have TB : Hid (∀ w, Calls Try.prog 46 #[.agg #[.string mc, .int .i64 ip, .int .i64 po, .int .i64 di, .int .i64 st, .int .i64 un, .int .i64 nx, .int .i64 wa, .string inn, .string out, .bool fin]] w fun e w' => ∃ v, e = .returned v ∧ OwnS sgG 7 27 w' w.heap.size v L ∧ Below w.heap.size w w') := TA.out rfl
    rw [if_pos rfl]
    clear EL TA
    go_enter Try.func14, Try.ntmps14
    go_wp2_with fail
    refine (TK.out _).mono ?_
    rintro e w1 ⟨rfl, g1⟩
    have q0 : w1.cell? ⟨w.heap.size, 0, none⟩ = some (.string mc) := g1.keep (by simp [go_sem])
    have q1 : w1.cell? ⟨w.heap.size, 1, none⟩ = some (.int .i64 ip) := g1.keep (by simp [go_sem])
    have q2 : w1.cell? ⟨w.heap.size, 2, none⟩ = some (.int .i64 po) := g1.keep (by simp [go_sem])
    have q3 : w1.cell? ⟨w.heap.size, 3, none⟩ = some (.int .i64 di) := g1.keep (by simp [go_sem])
    have q4 : w1.cell? ⟨w.heap.size, 4, none⟩ = some (.int .i64 st) := g1.keep (by simp [go_sem])
    have q5 : w1.cell? ⟨w.heap.size, 5, none⟩ = some (.int .i64 un) := g1.keep (by simp [go_sem])
    have q6 : w1.cell? ⟨w.heap.size, 6, none⟩ = some (.int .i64 nx) := g1.keep (by simp [go_sem])
    have q7 : w1.cell? ⟨w.heap.size, 7, none⟩ = some (.int .i64 wa) := g1.keep (by simp [go_sem])
    have q8 : w1.cell? ⟨w.heap.size, 8, none⟩ = some (.string inn) := g1.keep (by simp [go_sem])
    have q9 : w1.cell? ⟨w.heap.size, 9, none⟩ = some (.string out) := g1.keep (by simp [go_sem])
    have q10 : w1.cell? ⟨w.heap.size, 10, none⟩ = some (.bool fin) := g1.keep (by simp [go_sem])
    have B1 : Hid (Below w.heap.size w w1) := (BW.out.trans g1).below
    clear g1
    go_wp2_with fail
    refine (TB.out _).mono ?_
    rintro e w2 ⟨v2, rfl, o2, b2⟩
    have X2 : Hid (OwnS sgG 7 27 w2 w.heap.size v2 L ∧ Below w.heap.size w w2) := ⟨o2.lower B1.out.size, B1.out.trans (b2.mono B1.out.size)⟩
    clear o2 b2 q0 q1 q2 q3 q4 q5 q6 q7 q8 q9 q10
    go_wp2
    go_ret2
    exact ⟨_, rfl, X2.out.1, X2.out.2⟩
set_option maxHeartbeats 2000000 in
theorem implAg_any (mc : ByteArray) (ip po di st un nx wa : Int) (inn out : ByteArray) (fin : Bool) (w : World) (hp : po ≤ 9223372036854775807) (hmc : mc.size ≤ 1048576) (hi : inn.size ≤ 1048576) (ho : out.size ≤ 1048576) :
    Calls Try.prog 13 #[.agg #[.string mc, .int .i64 ip, .int .i64 po, .int .i64 di, .int .i64 st, .int .i64 un, .int .i64 nx, .int .i64 wa, .string inn, .string out, .bool fin]] w fun e w' => ∃ v, e = .returned (.tuple #[v, .int .i64 (agC ⟨mc, ip, po, di, st, un, nx, wa, inn, out, fin⟩)]) ∧ OwnS sgG 7 27 w' w.heap.size v (agL ⟨mc, ip, po, di, st, un, nx, wa, inn, out, fin⟩) ∧ Below w.heap.size w w' := by
  have TK : Hid (∀ w, Calls Try.prog 12 #[.agg #[.string mc, .int .i64 ip, .int .i64 po, .int .i64 di, .int .i64 st, .int .i64 un, .int .i64 nx, .int .i64 wa, .string inn, .string out, .bool fin]] w fun e w' => e = .returned (.bool (okB ⟨mc, ip, po, di, st, un, nx, wa, inn, out, fin⟩)) ∧ Grw w w') := fun w => implConOK_any mc ip po di st un nx wa inn out fin w hp hmc hi ho
  have BW : Hid (Grw w (w.alloc (.cells #[.string mc, .int .i64 ip, .int .i64 po, .int .i64 di, .int .i64 st, .int .i64 un, .int .i64 nx, .int .i64 wa, .string inn, .string out, .bool fin] 24))) := (Grw.refl _).alloc _
  have EC : agC ⟨mc, ip, po, di, st, un, nx, wa, inn, out, fin⟩ = if okB ⟨mc, ip, po, di, st, un, nx, wa, inn, out, fin⟩ = true then 0 else 1 := rfl
  rw [EC]
  clear EC
  cases hok : okB ⟨mc, ip, po, di, st, un, nx, wa, inn, out, fin⟩ with
  | false =>
    have EL : agL ⟨mc, ip, po, di, st, un, nx, wa, inn, out, fin⟩ = [] := by unfold agL; rw [hok]; rfl
    rw [EL, if_neg (by simp)]
    rw [hok] at TK
    clear EL hok
    go_enter Try.func13, Try.ntmps13
    go_wp2_with fail
    refine (TK.out _).mono ?_
    rintro e w1 ⟨rfl, g1⟩
    have B1 : Hid (Below w.heap.size w w1) := (BW.out.trans g1).below
    clear g1
    go_wp2
    go_ret2
    exact ⟨_, rfl, OwnS.nil w1 _, B1.out⟩
  | true =>
    have hn := nuB_bd (okB_says hok).1
    have hx := txB_bd (okB_says hok).2
    dsimp only at hn hx
    have E : agL ⟨mc, ip, po, di, st, un, nx, wa, inn, out, fin⟩ = if st = 1 then [⟨80, po, un, wa, 18, 1000, ⟨#[]⟩⟩] else puL po wa un out fin := by unfold agL; rw [if_pos hok]
    have TG : Hid (∀ w, Calls Try.prog 44 #[.agg #[.string mc, .int .i64 ip, .int .i64 po, .int .i64 di, .int .i64 st, .int .i64 un, .int .i64 nx, .int .i64 wa, .string inn, .string out, .bool fin]] w fun e w' => e = .returned (.agg #[.int .i64 80, .int .i64 po, .int .i64 un, .int .i64 wa, .int .i64 18, .int .i64 1000, .string ⟨#[]⟩]) ∧ Grw w w') := fun w => greeting_any mc ip po di st un nx wa inn out fin w
    have TO : Hid (∀ w, Calls Try.prog 45 #[.agg #[.string mc, .int .i64 ip, .int .i64 po, .int .i64 di, .int .i64 st, .int .i64 un, .int .i64 nx, .int .i64 wa, .string inn, .string out, .bool fin]] w fun e w' => ∃ v, e = .returned v ∧ OwnS sgG 7 27 w' w.heap.size v (puL po wa un out fin) ∧ Below w.heap.size w w') := fun w => outst_any mc ip po di st un nx wa inn out fin w hx.2.2.1 hn.2.2.2.2.1
    rw [E, if_pos rfl]
    rw [hok] at TK
    clear E hn hx hok
    by_cases h1 : st = 1
    · have t1 : (st == 1) = true := by simp [h1]
      rw [if_pos h1]
      clear h1 TO
      go_enter Try.func13, Try.ntmps13
      go_wp2_with fail
      refine (TK.out _).mono ?_
      rintro e w1 ⟨rfl, g1⟩
      have q0 : w1.cell? ⟨w.heap.size, 0, none⟩ = some (.string mc) := g1.keep (by simp [go_sem])
      have q1 : w1.cell? ⟨w.heap.size, 1, none⟩ = some (.int .i64 ip) := g1.keep (by simp [go_sem])
      have q2 : w1.cell? ⟨w.heap.size, 2, none⟩ = some (.int .i64 po) := g1.keep (by simp [go_sem])
      have q3 : w1.cell? ⟨w.heap.size, 3, none⟩ = some (.int .i64 di) := g1.keep (by simp [go_sem])
      have q4 : w1.cell? ⟨w.heap.size, 4, none⟩ = some (.int .i64 st) := g1.keep (by simp [go_sem])
      have q5 : w1.cell? ⟨w.heap.size, 5, none⟩ = some (.int .i64 un) := g1.keep (by simp [go_sem])
      have q6 : w1.cell? ⟨w.heap.size, 6, none⟩ = some (.int .i64 nx) := g1.keep (by simp [go_sem])
      have q7 : w1.cell? ⟨w.heap.size, 7, none⟩ = some (.int .i64 wa) := g1.keep (by simp [go_sem])
      have q8 : w1.cell? ⟨w.heap.size, 8, none⟩ = some (.string inn) := g1.keep (by simp [go_sem])
      have q9 : w1.cell? ⟨w.heap.size, 9, none⟩ = some (.string out) := g1.keep (by simp [go_sem])
      have q10 : w1.cell? ⟨w.heap.size, 10, none⟩ = some (.bool fin) := g1.keep (by simp [go_sem])
      have B1 : Hid (Grw w w1) := BW.out.trans g1
      clear g1
      go_wp2_with fail
      refine (TG.out _).mono ?_
      rintro e w2 ⟨rfl, g2⟩
      have B2 : Hid (Below w.heap.size w w2) := (B1.out.trans g2).below
      clear g2 B1 q0 q1 q2 q3 q4 q5 q6 q7 q8 q9 q10
      go_wp2
      go_ret2
      exact ⟨_, rfl, own1 w2 _ _ _ _ _ _ _ _ B2.out.size, B2.out.alloc B2.out.size _⟩
    · have t1 : (st == 1) = false := by simp [h1]
      rw [if_neg h1]
      clear h1 TG
      go_enter Try.func13, Try.ntmps13
      go_wp2_with fail
      refine (TK.out _).mono ?_
      rintro e w1 ⟨rfl, g1⟩
      have q0 : w1.cell? ⟨w.heap.size, 0, none⟩ = some (.string mc) := g1.keep (by simp [go_sem])
      have q1 : w1.cell? ⟨w.heap.size, 1, none⟩ = some (.int .i64 ip) := g1.keep (by simp [go_sem])
      have q2 : w1.cell? ⟨w.heap.size, 2, none⟩ = some (.int .i64 po) := g1.keep (by simp [go_sem])
      have q3 : w1.cell? ⟨w.heap.size, 3, none⟩ = some (.int .i64 di) := g1.keep (by simp [go_sem])
      have q4 : w1.cell? ⟨w.heap.size, 4, none⟩ = some (.int .i64 st) := g1.keep (by simp [go_sem])
      have q5 : w1.cell? ⟨w.heap.size, 5, none⟩ = some (.int .i64 un) := g1.keep (by simp [go_sem])
      have q6 : w1.cell? ⟨w.heap.size, 6, none⟩ = some (.int .i64 nx) := g1.keep (by simp [go_sem])
      have q7 : w1.cell? ⟨w.heap.size, 7, none⟩ = some (.int .i64 wa) := g1.keep (by simp [go_sem])
      have q8 : w1.cell? ⟨w.heap.size, 8, none⟩ = some (.string inn) := g1.keep (by simp [go_sem])
      have q9 : w1.cell? ⟨w.heap.size, 9, none⟩ = some (.string out) := g1.keep (by simp [go_sem])
      have q10 : w1.cell? ⟨w.heap.size, 10, none⟩ = some (.bool fin) := g1.keep (by simp [go_sem])
      have B1 : Hid (Below w.heap.size w w1) := (BW.out.trans g1).below
      clear g1
      go_wp2_with fail
      refine (TO.out _).mono ?_
      rintro e w2 ⟨v2, rfl, o2, b2⟩
      have X2 : Hid (OwnS sgG 7 27 w2 w.heap.size v2 (puL po wa un out fin) ∧ Below w.heap.size w w2) := ⟨o2.lower B1.out.size, B1.out.trans (b2.mono B1.out.size)⟩
      clear o2 b2 B1 q0 q1 q2 q3 q4 q5 q6 q7 q8 q9 q10
      go_wp2
      go_ret2
      exact ⟨_, rfl, X2.out.1, X2.out.2⟩
end Go.Proofs.Ytjammgjmidchmaa
