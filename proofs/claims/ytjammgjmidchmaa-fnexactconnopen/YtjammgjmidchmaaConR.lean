/- What is out, in pieces, and the end behind it: the model. -/
import Derived.Test.YtjammgjmidchmaaConQ
namespace Go.Proofs.Ytjammgjmidchmaa
open Go.RowKit Go.PlainAid Go.Proofs.Ytjammgjmidchmaa.Bt Go.Sort
set_option linter.unusedVariables false
set_option maxRecDepth 20000

def strLen : Value → Nat | .string s => s.size | _ => 0
theorem ext_none (T : ByteArray) : T.extract T.size T.size = ByteArray.empty := by simp
theorem sq_more (sq : Int) (k : Nat) (n : Int) : sqN (sqN (sq + 200 * (k : Int)) + n) = sqN (sq + 200 * (k : Int) + n) := by unfold sqN; omega
set_option maxHeartbeats 4000000 in
theorem l10Pieces_any (mc : ByteArray) (ip po di st un nx wa : Int) (inn out : ByteArray) (fin : Bool) (sq : Int) (t : ByteArray) (fn : Bool) (w : World) (ho : t.size ≤ 300) (hu : 0 ≤ sq ∧ sq ≤ 4294967295) :
    Calls Try.prog 82 #[.agg #[.string mc, .int .i64 ip, .int .i64 po, .int .i64 di, .int .i64 st, .int .i64 un, .int .i64 nx, .int .i64 wa, .string inn, .string out, .bool fin], .int .i64 sq, .string t, .bool fn] w fun e w' => ∃ v, e = .returned v ∧ OwnS sgG 7 27 w' w.heap.size v (puL po wa sq t fn) ∧ Below w.heap.size w w' := by
  obtain ⟨hu0, hu1⟩ := hu
  have SG : Hid (∀ (sq fl : Int) (da : ByteArray) (w : World), Calls Try.prog 79 #[.agg #[.string mc, .int .i64 ip, .int .i64 po, .int .i64 di, .int .i64 st, .int .i64 un, .int .i64 nx, .int .i64 wa, .string inn, .string out, .bool fin], .int .i64 sq, .int .i64 fl, .string da] w fun e w' => e = .returned (.agg #[.int .i64 80, .int .i64 po, .int .i64 sq, .int .i64 wa, .int .i64 fl, .int .i64 1000, .string da]) ∧ Grw w w') := fun sq fl da w => l10Reply_any mc ip po di st un nx wa inn out fin sq fl da w
  have SQ : Hid (∀ (n : Int) (w : World), 0 ≤ n → n ≤ 9000000000 → Calls Try.prog 65 #[.int .i64 n] w fun e w' => e = .returned (.int .i64 (sqN n)) ∧ w' = w) := fun n w h0 h1 => l10Seq_any n w (by omega) (by omega)
  have CC : Hid (∀ o, CnS w.heap.size mc ip po di st un nx wa inn out fin w ((w.alloc (.cells #[.string mc, .int .i64 ip, .int .i64 po, .int .i64 di, .int .i64 st, .int .i64 un, .int .i64 nx, .int .i64 wa, .string inn, .string out, .bool fin] 24)).alloc o)) := fun o => CnS.below (wx := w.alloc (.cells #[.string mc, .int .i64 ip, .int .i64 po, .int .i64 di, .int .i64 st, .int .i64 un, .int .i64 nx, .int .i64 wa, .string inn, .string out, .bool fin] 24)) ⟨by simp [go_sem], by simp [go_sem], by simp [go_sem], by simp [go_sem], by simp [go_sem], by simp [go_sem], by simp [go_sem], by simp [go_sem], by simp [go_sem], by simp [go_sem], by simp [go_sem], ⟨(Below.refl _ _).alloc (Nat.le_refl _) _⟩⟩ ((Below.refl _ _).alloc (Nat.le_refl _) o)
  have CB : Hid (∀ wx wy, Below wx.heap.size wx wy → CnS w.heap.size mc ip po di st un nx wa inn out fin w wx → CnS w.heap.size mc ip po di st un nx wa inn out fin w wy) := fun wx wy hb h => h.below hb
  have O0 : Hid (OwnS sgG 7 27 ((w.alloc (.cells #[.string mc, .int .i64 ip, .int .i64 po, .int .i64 di, .int .i64 st, .int .i64 un, .int .i64 nx, .int .i64 wa, .string inn, .string out, .bool fin] 24)).alloc (.cells #[] 27)) w.heap.size (.slice (some ⟨w.heap.size + 1, 0, none⟩) 0 0) []) := by
    have := OwnS.lit (α := SegV) (c := sgG) (K := 7) (e := 27) (w.alloc (.cells #[.string mc, .int .i64 ip, .int .i64 po, .int .i64 di, .int .i64 st, .int .i64 un, .int .i64 nx, .int .i64 wa, .string inn, .string out, .bool fin] 24)) w.heap.size (by simp)
    rw [World.size_alloc] at this
    exact this
  have hst : Hid (t.extract 0 t.size = t) := ext_all t
  go_enter Try.func82, Try.ntmps82
  go_wp2
  go_loopw [1, 2, 9] (fun x y v wr => ∃ k : Nat, k ≤ pcN t.size ∧ x = .int .i64 (sqN (sq + (min (200 * k) t.size : Nat))) ∧ y = .string (t.extract (min (200 * k) t.size) t.size) ∧ Hid (OwnS sgG 7 27 wr w.heap.size v (pcL po wa sq t k) ∧ v.ownBlock ≠ some w.heap.size ∧ CnS w.heap.size mc ip po di st un nx wa inn out fin w wr)) (fun _ y _ _ => (strLen y))
  case atStart =>
    have e0 : min (200 * 0) t.size = 0 := by omega
    have e1 : sqN (sq + ((min (200 * 0) t.size : Nat) : Int)) = sq := by
      rw [e0]
      unfold sqN
      omega
    exact ⟨0, Nat.zero_le _, by rw [e1], by rw [e0, hst.out], O0.out, (by simp [Value.ownBlock]), CC.out _⟩
  case round =>
    obtain ⟨k, hk, rfl, rfl, X⟩ := hrel
    by_cases hlt : 200 * k < t.size
    · have hmn : min (200 * k) t.size = 200 * k := Nat.min_eq_left (by omega)
      rw [hmn]
      have hkn : k + 1 ≤ pcN t.size := by unfold pcN; omega
      have hk2 : k ≤ 1 := by omega
      obtain ⟨T, hT⟩ : ∃ T, T = t.extract (200 * k) t.size := ⟨_, rfl⟩
      have HT : Hid (T = t.extract (200 * k) t.size) := hT
      have HTs : Hid (T.size = t.size - 200 * k) := by show _ = _; rw [hT, ByteArray.size_extract]; omega
      have hT0 : (0 : Int) < (T.size : Int) := by have := HTs.out; omega
      have hT3 : T.size ≤ 300 := by have := HTs.out; omega
      rw [← hT]
      obtain ⟨s0, hs0⟩ : ∃ s0, s0 = sqN (sq + ((200 * k : Nat) : Int)) := ⟨_, rfl⟩
      have hsb := sqN_bd (sq + ((200 * k : Nat) : Int))
      rw [← hs0] at hsb ⊢
      have HS0 : Hid (s0 = sqN (sq + 200 * (k : Int))) := by show _ = _; rw [hs0]; congr 1
      obtain ⟨hsb0, hsb1⟩ := hsb
      clear hT hs0 hmn
      have PL : Hid (pcL po wa sq t (k + 1) = pcL po wa sq t k ++ [pcS po wa sq t k]) := pcL_more _ _ _ _ _
      have PN : Hid ((pcL po wa sq t k).length = k) := pcL_len _ _ _ _ _
      by_cases hq : T.size < 200
      · have hqz : (T.size : Int) < 200 := by omega
        have PS : Hid (pcS po wa sq t k = ⟨80, po, s0, wa, 24, 1000, T⟩) := by
          have h2 := ext_ext t (200 * k) T.size (min (200 * k + 200) t.size) (by have := HTs.out; omega) (by have := HTs.out; omega)
          rw [← HT.out] at h2
          show _ = _
          unfold pcS
          rw [ext_all] at h2
          rw [HS0.out, ← h2]
        have NX : Hid (sqN (s0 + (T.size : Int)) = sqN (sq + ((min (200 * (k + 1)) t.size : Nat) : Int)) ∧ ByteArray.empty = t.extract (min (200 * (k + 1)) t.size) t.size ∧ (ByteArray.empty).size < T.size) := by
          refine ⟨?_, ?_, ?_⟩
          · rw [HS0.out, sq_more]
            congr 1
            have := HTs.out
            omega
          · have h1 := HTs.out
            have h2 := ext_tail t (200 * k) T.size (t.extract (200 * k) t.size).size (min (200 * (k + 1)) t.size) (by omega) (by omega) rfl
            rw [← HT.out] at h2
            rw [ext_none] at h2
            exact h2
          · show 0 < _; omega
        have SS : Hid (CnS w.heap.size mc ip po di st un nx wa inn out fin w wr.drew) := X.out.2.2.below ((Below.refl _ _).drew)
        have S2 : Hid (∀ w, Calls Try.prog 79 #[.agg #[.string mc, .int .i64 ip, .int .i64 po, .int .i64 di, .int .i64 st, .int .i64 un, .int .i64 nx, .int .i64 wa, .string inn, .string out, .bool fin], .int .i64 s0, .int .i64 24, .string (T)] w fun e w' => e = .returned (.agg #[.int .i64 80, .int .i64 po, .int .i64 s0, .int .i64 wa, .int .i64 24, .int .i64 1000, .string (T)]) ∧ Grw w w') := fun w => SG.out _ _ _ w
        have S3 : Hid (∀ w, Calls Try.prog 65 #[.int .i64 (s0 + (T.size : Int))] w fun e w' => e = .returned (.int .i64 (sqN (s0 + (T.size : Int)))) ∧ w' = w) := fun w => SQ.out _ w (by omega) (by omega)
        have OW : Hid (∀ w5 o, Below wr.drew.heap.size wr.drew w5 → OwnS sgG 7 27 (w5.alloc o) w.heap.size u9 (pcL po wa sq t k)) := fun w5 o b5 => (OwnS.now (w := wr.drew) X.out.1 b5).now ((Below.refl _ _).alloc (Nat.le_refl _) o)
        have SR : Hid (∀ wx wy, wx.grownBy wy u9.ownBlock → Below w.heap.size wx wy → CnS w.heap.size mc ip po di st un nx wa inn out fin w wx → CnS w.heap.size mc ip po di st un nx wa inn out fin w wy) := fun wx wy hg hb h => h.row hg hb (fun e => X.out.2.1 e.symm)
        have SZ : Hid (∀ wx, CnS w.heap.size mc ip po di st un nx wa inn out fin w wx → w.heap.size ≤ wx.heap.size) := fun wx h => h.2.2.2.2.2.2.2.2.2.2.2.out.size
        have SA : Hid (∀ wx o, CnS w.heap.size mc ip po di st un nx wa inn out fin w wx → CnS w.heap.size mc ip po di st un nx wa inn out fin w (wx.alloc o)) := fun wx o h => h.below ((Below.refl _ _).alloc (Nat.le_refl _) o)
        generalize sqN (s0 + (T.size : Int)) = s1 at S3 NX
        go_wp2_with fail
        go_region_held3 (fun wx => wx.cell? ⟨w.heap.size, 0, none⟩ = some (.string mc) ∧ wx.cell? ⟨w.heap.size, 1, none⟩ = some (.int .i64 ip) ∧ wx.cell? ⟨w.heap.size, 2, none⟩ = some (.int .i64 po) ∧ wx.cell? ⟨w.heap.size, 3, none⟩ = some (.int .i64 di) ∧ wx.cell? ⟨w.heap.size, 4, none⟩ = some (.int .i64 st) ∧ wx.cell? ⟨w.heap.size, 5, none⟩ = some (.int .i64 un) ∧ wx.cell? ⟨w.heap.size, 6, none⟩ = some (.int .i64 nx) ∧ wx.cell? ⟨w.heap.size, 7, none⟩ = some (.int .i64 wa) ∧ wx.cell? ⟨w.heap.size, 8, none⟩ = some (.string inn) ∧ wx.cell? ⟨w.heap.size, 9, none⟩ = some (.string out) ∧ wx.cell? ⟨w.heap.size, 10, none⟩ = some (.bool fin) ∧ KpC w wx)
          (first | exact SS.out | exact CB.out _ _ b6 (by assumption) | exact SA.out _ _ (by assumption) | exact SR.out _ _ Y7.out.2.2 Y7.out.2.1 (by assumption))
          (first | (go_at_call 79; (with_reducible refine (S2.out _).mono ?_); rintro e w6 ⟨rfl, g6⟩; have b6 := g6.below) | (refine step_segs _ (by rfl) (.tmp 18) (.tmp 25) (by rfl) w.heap.size u9 (pcL po wa sq t k) (by rfl) (OW.out _ _ b6) _ 0 1 1 [⟨80, po, s0, wa, 24, 1000, T⟩] (by rfl) rfl (seg_new _ _ _ _ _ _ _ _) (by rw [PN.out]; omega) (SZ.out _ (by assumption)) ?_; intro v7 w7 Y7))
        have hS7 : CnS w.heap.size mc ip po di st un nx wa inn out fin w w7 := by assumption
        have F7 : Hid (OwnS sgG 7 27 w7 w.heap.size v7 (pcL po wa sq t (k + 1)) ∧ v7.ownBlock ≠ some w.heap.size ∧ CnS w.heap.size mc ip po di st un nx wa inn out fin w w7) := by
          have h7 : OwnS sgG 7 27 w7 w.heap.size v7 (pcL po wa sq t (k + 1)) := by rw [PL.out, PS.out]; exact Y7.out.1
          refine ⟨h7, ?_, hS7⟩
          intro e
          obtain ⟨q, hq⟩ : ∃ q, v7 = .slice (some ⟨w.heap.size, 0, none⟩) (pcL po wa sq t (k + 1)).length q := by
            obtain ⟨a7, c7, he, _⟩ := h7.slice
            subst he
            obtain ⟨g7, hg7, -⟩ := h7.form (by rw [PL.out]; simp)
            subst hg7
            have : g7 = w.heap.size := by simpa [Value.ownBlock] using e
            subst this
            exact ⟨_, rfl⟩
          subst hq
          have h1 := (h7.cell sgG_len (i := 0) (j := 0) (x := pcS po wa sq t 0) (u := .int .i64 80) (by unfold pcL; rw [List.getElem?_map, List.getElem?_range (by omega)]; rfl) rfl).1
          have h2 := hS7.1
          rw [h2] at h1
          cases h1
        clear hS7 Y7 SS OW SR SZ SA b6 g6 X S2
        go_wp2_with fail
        refine (S3.out _).mono ?_
        rintro e w1 ⟨rfl, hw⟩
        subst hw
        go_wp2
        go_roundw
        case rel => exact ⟨k + 1, hkn, by rw [NX.out.1], by rw [NX.out.2.1], F7⟩
        case measure => exact NX.out.2.2
      by_cases hq3 : T.size = 200
      · have hqa : ¬ (T.size : Int) < 200 := by omega
        have hqb : ¬ (200 : Int) < (T.size : Int) := by omega
        have HQ3 : Hid (T.size = 200) := hq3
        clear hq hq3
        have PS : Hid (pcS po wa sq t k = ⟨80, po, s0, wa, 24, 1000, T⟩) := by
          have h2 := ext_ext t (200 * k) T.size (min (200 * k + 200) t.size) (by have := HTs.out; omega) (by have := HTs.out; omega)
          rw [← HT.out] at h2
          show _ = _
          unfold pcS
          rw [ext_all] at h2
          rw [HS0.out, ← h2]
        have NX : Hid (sqN (s0 + (T.size : Int)) = sqN (sq + ((min (200 * (k + 1)) t.size : Nat) : Int)) ∧ ByteArray.empty = t.extract (min (200 * (k + 1)) t.size) t.size ∧ (ByteArray.empty).size < T.size) := by
          refine ⟨?_, ?_, ?_⟩
          · rw [HS0.out, sq_more]
            congr 1
            have := HTs.out
            omega
          · have h1 := HTs.out
            have h2 := ext_tail t (200 * k) T.size (t.extract (200 * k) t.size).size (min (200 * (k + 1)) t.size) (by omega) (by omega) rfl
            rw [← HT.out] at h2
            rw [ext_none] at h2
            exact h2
          · show 0 < _; omega
        have SS : Hid (CnS w.heap.size mc ip po di st un nx wa inn out fin w wr.drew) := X.out.2.2.below ((Below.refl _ _).drew)
        have S2 : Hid (∀ w, Calls Try.prog 79 #[.agg #[.string mc, .int .i64 ip, .int .i64 po, .int .i64 di, .int .i64 st, .int .i64 un, .int .i64 nx, .int .i64 wa, .string inn, .string out, .bool fin], .int .i64 s0, .int .i64 24, .string (T)] w fun e w' => e = .returned (.agg #[.int .i64 80, .int .i64 po, .int .i64 s0, .int .i64 wa, .int .i64 24, .int .i64 1000, .string (T)]) ∧ Grw w w') := fun w => SG.out _ _ _ w
        have S3 : Hid (∀ w, Calls Try.prog 65 #[.int .i64 (s0 + (T.size : Int))] w fun e w' => e = .returned (.int .i64 (sqN (s0 + (T.size : Int)))) ∧ w' = w) := fun w => SQ.out _ w (by omega) (by omega)
        have OW : Hid (∀ w5 o, Below wr.drew.heap.size wr.drew w5 → OwnS sgG 7 27 (w5.alloc o) w.heap.size u9 (pcL po wa sq t k)) := fun w5 o b5 => (OwnS.now (w := wr.drew) X.out.1 b5).now ((Below.refl _ _).alloc (Nat.le_refl _) o)
        have SR : Hid (∀ wx wy, wx.grownBy wy u9.ownBlock → Below w.heap.size wx wy → CnS w.heap.size mc ip po di st un nx wa inn out fin w wx → CnS w.heap.size mc ip po di st un nx wa inn out fin w wy) := fun wx wy hg hb h => h.row hg hb (fun e => X.out.2.1 e.symm)
        have SZ : Hid (∀ wx, CnS w.heap.size mc ip po di st un nx wa inn out fin w wx → w.heap.size ≤ wx.heap.size) := fun wx h => h.2.2.2.2.2.2.2.2.2.2.2.out.size
        have SA : Hid (∀ wx o, CnS w.heap.size mc ip po di st un nx wa inn out fin w wx → CnS w.heap.size mc ip po di st un nx wa inn out fin w (wx.alloc o)) := fun wx o h => h.below ((Below.refl _ _).alloc (Nat.le_refl _) o)
        generalize sqN (s0 + (T.size : Int)) = s1 at S3 NX
        go_wp2_with fail
        go_region_held3 (fun wx => wx.cell? ⟨w.heap.size, 0, none⟩ = some (.string mc) ∧ wx.cell? ⟨w.heap.size, 1, none⟩ = some (.int .i64 ip) ∧ wx.cell? ⟨w.heap.size, 2, none⟩ = some (.int .i64 po) ∧ wx.cell? ⟨w.heap.size, 3, none⟩ = some (.int .i64 di) ∧ wx.cell? ⟨w.heap.size, 4, none⟩ = some (.int .i64 st) ∧ wx.cell? ⟨w.heap.size, 5, none⟩ = some (.int .i64 un) ∧ wx.cell? ⟨w.heap.size, 6, none⟩ = some (.int .i64 nx) ∧ wx.cell? ⟨w.heap.size, 7, none⟩ = some (.int .i64 wa) ∧ wx.cell? ⟨w.heap.size, 8, none⟩ = some (.string inn) ∧ wx.cell? ⟨w.heap.size, 9, none⟩ = some (.string out) ∧ wx.cell? ⟨w.heap.size, 10, none⟩ = some (.bool fin) ∧ KpC w wx)
          (first | exact SS.out | exact CB.out _ _ b6 (by assumption) | exact SA.out _ _ (by assumption) | exact SR.out _ _ Y7.out.2.2 Y7.out.2.1 (by assumption))
          (first | (go_at_call 79; (with_reducible refine (S2.out _).mono ?_); rintro e w6 ⟨rfl, g6⟩; have b6 := g6.below) | (refine step_segs _ (by rfl) (.tmp 18) (.tmp 25) (by rfl) w.heap.size u9 (pcL po wa sq t k) (by rfl) (OW.out _ _ b6) _ 0 1 1 [⟨80, po, s0, wa, 24, 1000, T⟩] (by rfl) rfl (seg_new _ _ _ _ _ _ _ _) (by rw [PN.out]; omega) (SZ.out _ (by assumption)) ?_; intro v7 w7 Y7))
        have hS7 : CnS w.heap.size mc ip po di st un nx wa inn out fin w w7 := by assumption
        have F7 : Hid (OwnS sgG 7 27 w7 w.heap.size v7 (pcL po wa sq t (k + 1)) ∧ v7.ownBlock ≠ some w.heap.size ∧ CnS w.heap.size mc ip po di st un nx wa inn out fin w w7) := by
          have h7 : OwnS sgG 7 27 w7 w.heap.size v7 (pcL po wa sq t (k + 1)) := by rw [PL.out, PS.out]; exact Y7.out.1
          refine ⟨h7, ?_, hS7⟩
          intro e
          obtain ⟨q, hq⟩ : ∃ q, v7 = .slice (some ⟨w.heap.size, 0, none⟩) (pcL po wa sq t (k + 1)).length q := by
            obtain ⟨a7, c7, he, _⟩ := h7.slice
            subst he
            obtain ⟨g7, hg7, -⟩ := h7.form (by rw [PL.out]; simp)
            subst hg7
            have : g7 = w.heap.size := by simpa [Value.ownBlock] using e
            subst this
            exact ⟨_, rfl⟩
          subst hq
          have h1 := (h7.cell sgG_len (i := 0) (j := 0) (x := pcS po wa sq t 0) (u := .int .i64 80) (by unfold pcL; rw [List.getElem?_map, List.getElem?_range (by omega)]; rfl) rfl).1
          have h2 := hS7.1
          rw [h2] at h1
          cases h1
        clear hS7 Y7 SS OW SR SZ SA b6 g6 X S2
        go_wp2_with fail
        refine (S3.out _).mono ?_
        rintro e w1 ⟨rfl, hw⟩
        subst hw
        go_wp2
        go_roundw
        case rel => exact ⟨k + 1, hkn, by rw [NX.out.1], by rw [NX.out.2.1], F7⟩
        case measure => exact NX.out.2.2
      · have hqz : (200 : Int) < (T.size : Int) := by omega
        have hqw : (200 : Int) ≤ (T.size : Int) := by omega
        have PS : Hid (pcS po wa sq t k = ⟨80, po, s0, wa, 24, 1000, T.extract 0 200⟩) := by
          have h2 := ext_ext t (200 * k) 200 (min (200 * k + 200) t.size) (by have := HTs.out; omega) (by have := HTs.out; omega)
          rw [← HT.out] at h2
          show _ = _
          unfold pcS
          rw [HS0.out, ← h2]
        have NX : Hid (sqN (s0 + 200) = sqN (sq + ((min (200 * (k + 1)) t.size : Nat) : Int)) ∧ T.extract 200 T.size = t.extract (min (200 * (k + 1)) t.size) t.size ∧ (T.extract 200 T.size).size < T.size) := by
          refine ⟨?_, ?_, ?_⟩
          · rw [HS0.out, sq_more]
            congr 1
            have := HTs.out
            omega
          · have h1 := HTs.out
            have h2 := ext_tail t (200 * k) 200 (t.extract (200 * k) t.size).size (min (200 * (k + 1)) t.size) (by omega) (by omega) rfl
            rw [← HT.out] at h2
            exact h2
          · rw [ByteArray.size_extract]; omega
        have SS : Hid (CnS w.heap.size mc ip po di st un nx wa inn out fin w wr.drew) := X.out.2.2.below ((Below.refl _ _).drew)
        have S2 : Hid (∀ w, Calls Try.prog 79 #[.agg #[.string mc, .int .i64 ip, .int .i64 po, .int .i64 di, .int .i64 st, .int .i64 un, .int .i64 nx, .int .i64 wa, .string inn, .string out, .bool fin], .int .i64 s0, .int .i64 24, .string (T.extract 0 200)] w fun e w' => e = .returned (.agg #[.int .i64 80, .int .i64 po, .int .i64 s0, .int .i64 wa, .int .i64 24, .int .i64 1000, .string (T.extract 0 200)]) ∧ Grw w w') := fun w => SG.out _ _ _ w
        have S3 : Hid (∀ w, Calls Try.prog 65 #[.int .i64 (s0 + 200)] w fun e w' => e = .returned (.int .i64 (sqN (s0 + 200))) ∧ w' = w) := fun w => SQ.out _ w (by omega) (by omega)
        have OW : Hid (∀ w5 o, Below wr.drew.heap.size wr.drew w5 → OwnS sgG 7 27 (w5.alloc o) w.heap.size u9 (pcL po wa sq t k)) := fun w5 o b5 => (OwnS.now (w := wr.drew) X.out.1 b5).now ((Below.refl _ _).alloc (Nat.le_refl _) o)
        have SR : Hid (∀ wx wy, wx.grownBy wy u9.ownBlock → Below w.heap.size wx wy → CnS w.heap.size mc ip po di st un nx wa inn out fin w wx → CnS w.heap.size mc ip po di st un nx wa inn out fin w wy) := fun wx wy hg hb h => h.row hg hb (fun e => X.out.2.1 e.symm)
        have SZ : Hid (∀ wx, CnS w.heap.size mc ip po di st un nx wa inn out fin w wx → w.heap.size ≤ wx.heap.size) := fun wx h => h.2.2.2.2.2.2.2.2.2.2.2.out.size
        have SA : Hid (∀ wx o, CnS w.heap.size mc ip po di st un nx wa inn out fin w wx → CnS w.heap.size mc ip po di st un nx wa inn out fin w (wx.alloc o)) := fun wx o h => h.below ((Below.refl _ _).alloc (Nat.le_refl _) o)
        generalize sqN (s0 + 200) = s1 at S3 NX
        go_wp2_with fail
        go_region_held3 (fun wx => wx.cell? ⟨w.heap.size, 0, none⟩ = some (.string mc) ∧ wx.cell? ⟨w.heap.size, 1, none⟩ = some (.int .i64 ip) ∧ wx.cell? ⟨w.heap.size, 2, none⟩ = some (.int .i64 po) ∧ wx.cell? ⟨w.heap.size, 3, none⟩ = some (.int .i64 di) ∧ wx.cell? ⟨w.heap.size, 4, none⟩ = some (.int .i64 st) ∧ wx.cell? ⟨w.heap.size, 5, none⟩ = some (.int .i64 un) ∧ wx.cell? ⟨w.heap.size, 6, none⟩ = some (.int .i64 nx) ∧ wx.cell? ⟨w.heap.size, 7, none⟩ = some (.int .i64 wa) ∧ wx.cell? ⟨w.heap.size, 8, none⟩ = some (.string inn) ∧ wx.cell? ⟨w.heap.size, 9, none⟩ = some (.string out) ∧ wx.cell? ⟨w.heap.size, 10, none⟩ = some (.bool fin) ∧ KpC w wx)
          (first | exact SS.out | exact CB.out _ _ b6 (by assumption) | exact SA.out _ _ (by assumption) | exact SR.out _ _ Y7.out.2.2 Y7.out.2.1 (by assumption))
          (first | (go_at_call 79; (with_reducible refine (S2.out _).mono ?_); rintro e w6 ⟨rfl, g6⟩; have b6 := g6.below) | (refine step_segs _ (by rfl) (.tmp 18) (.tmp 25) (by rfl) w.heap.size u9 (pcL po wa sq t k) (by rfl) (OW.out _ _ b6) _ 0 1 1 [⟨80, po, s0, wa, 24, 1000, T.extract 0 200⟩] (by rfl) rfl (seg_new _ _ _ _ _ _ _ _) (by rw [PN.out]; omega) (SZ.out _ (by assumption)) ?_; intro v7 w7 Y7))
        have hS7 : CnS w.heap.size mc ip po di st un nx wa inn out fin w w7 := by assumption
        have F7 : Hid (OwnS sgG 7 27 w7 w.heap.size v7 (pcL po wa sq t (k + 1)) ∧ v7.ownBlock ≠ some w.heap.size ∧ CnS w.heap.size mc ip po di st un nx wa inn out fin w w7) := by
          have h7 : OwnS sgG 7 27 w7 w.heap.size v7 (pcL po wa sq t (k + 1)) := by rw [PL.out, PS.out]; exact Y7.out.1
          refine ⟨h7, ?_, hS7⟩
          intro e
          obtain ⟨q, hq⟩ : ∃ q, v7 = .slice (some ⟨w.heap.size, 0, none⟩) (pcL po wa sq t (k + 1)).length q := by
            obtain ⟨a7, c7, he, _⟩ := h7.slice
            subst he
            obtain ⟨g7, hg7, -⟩ := h7.form (by rw [PL.out]; simp)
            subst hg7
            have : g7 = w.heap.size := by simpa [Value.ownBlock] using e
            subst this
            exact ⟨_, rfl⟩
          subst hq
          have h1 := (h7.cell sgG_len (i := 0) (j := 0) (x := pcS po wa sq t 0) (u := .int .i64 80) (by unfold pcL; rw [List.getElem?_map, List.getElem?_range (by omega)]; rfl) rfl).1
          have h2 := hS7.1
          rw [h2] at h1
          cases h1
        clear hS7 Y7 SS OW SR SZ SA b6 g6 X S2
        go_wp2_with fail
        refine (S3.out _).mono ?_
        rintro e w1 ⟨rfl, hw⟩
        subst hw
        go_wp2
        go_roundw
        case rel => exact ⟨k + 1, hkn, by rw [NX.out.1], by rw [NX.out.2.1], F7⟩
        case measure => exact NX.out.2.2
    · have hmn : min (200 * k) t.size = t.size := Nat.min_eq_right (by omega)
      rw [hmn]
      have hkn : k = pcN t.size := by unfold pcN at hk ⊢; omega
      have HK : Hid (pcL po wa sq t k = pcL po wa sq t (pcN t.size)) := by show _ = _; rw [← hkn]
      have PN : Hid ((pcL po wa sq t k).length = k) := pcL_len _ _ _ _ _
      have hk2 : k ≤ 2 := by unfold pcN at hkn; omega
      obtain ⟨T, hT⟩ : ∃ T, T = t.extract t.size t.size := ⟨_, rfl⟩
      have hTs : T.size = 0 := by rw [hT, ByteArray.size_extract]; omega
      have hT0 : ¬ (0 : Int) < (T.size : Int) := by omega
      rw [← hT]
      clear hT hTs hkn
      cases hfin : fn with
      | false =>
        subst hfin
        go_wp2
        go_ret
        exact ⟨_, rfl, by rw [puL_open, ← HK.out]; exact X.out.1, X.out.2.2.2.2.2.2.2.2.2.2.2.2.2.out⟩
      | true =>
        subst hfin
        have PF : Hid (puL po wa sq t true = pcL po wa sq t k ++ [⟨80, po, sqN (sq + (t.size : Int)), wa, 17, 1000, ⟨#[]⟩⟩]) := by show _ = _; rw [puL_fin, ← HK.out]
        have hS0 := X.out.2.2
        have S2 : Hid (∀ w, Calls Try.prog 79 #[.agg #[.string mc, .int .i64 ip, .int .i64 po, .int .i64 di, .int .i64 st, .int .i64 un, .int .i64 nx, .int .i64 wa, .string inn, .string out, .bool fin], .int .i64 (sqN (sq + (t.size : Int))), .int .i64 17, .string ⟨#[]⟩] w fun e w' => e = .returned (.agg #[.int .i64 80, .int .i64 po, .int .i64 (sqN (sq + (t.size : Int))), .int .i64 wa, .int .i64 17, .int .i64 1000, .string ⟨#[]⟩]) ∧ Grw w w') := fun w => SG.out _ _ _ w
        generalize sqN (sq + (t.size : Int)) = SQN at S2 PF ⊢
        have q0 : wr.cell? ⟨w.heap.size, 0, none⟩ = some (.string mc) := hS0.1
        have q1 : wr.cell? ⟨w.heap.size, 1, none⟩ = some (.int .i64 ip) := hS0.2.1
        have q2 : wr.cell? ⟨w.heap.size, 2, none⟩ = some (.int .i64 po) := hS0.2.2.1
        have q3 : wr.cell? ⟨w.heap.size, 3, none⟩ = some (.int .i64 di) := hS0.2.2.2.1
        have q4 : wr.cell? ⟨w.heap.size, 4, none⟩ = some (.int .i64 st) := hS0.2.2.2.2.1
        have q5 : wr.cell? ⟨w.heap.size, 5, none⟩ = some (.int .i64 un) := hS0.2.2.2.2.2.1
        have q6 : wr.cell? ⟨w.heap.size, 6, none⟩ = some (.int .i64 nx) := hS0.2.2.2.2.2.2.1
        have q7 : wr.cell? ⟨w.heap.size, 7, none⟩ = some (.int .i64 wa) := hS0.2.2.2.2.2.2.2.1
        have q8 : wr.cell? ⟨w.heap.size, 8, none⟩ = some (.string inn) := hS0.2.2.2.2.2.2.2.2.1
        have q9 : wr.cell? ⟨w.heap.size, 9, none⟩ = some (.string out) := hS0.2.2.2.2.2.2.2.2.2.1
        have q10 : wr.cell? ⟨w.heap.size, 10, none⟩ = some (.bool fin) := hS0.2.2.2.2.2.2.2.2.2.2.1
        go_wp2_with fail
        refine (S2.out _).mono ?_
        rintro e w6 ⟨rfl, g6⟩
        have X6 : Hid (OwnS sgG 7 27 w6 w.heap.size u9 (pcL po wa sq t k) ∧ CnS w.heap.size mc ip po di st un nx wa inn out fin w w6) := ⟨X.out.1.now g6.below, hS0.below g6.below⟩
        clear hS0 g6 q0 q1 q2 q3 q4 q5 q6 q7 q8 q9 q10 X
        go_wp2_with (at_builtin; refine wpl_segs _ rfl (.tmp 35) (.tmp 39) rfl w.heap.size u9 (pcL po wa sq t k) [⟨80, po, SQN, wa, 17, 1000, ⟨#[]⟩⟩] rfl (X6.out.1.now ((Below.refl _ _).alloc (Nat.le_refl _) _)) _ 0 1 1 rfl rfl (seg_new _ _ _ _ _ _ _ _) (by rw [PN.out]; omega) (by have := X6.out.2.2.2.2.2.2.2.2.2.2.2.2.out.size; simp; omega) ?_; intro v7 w7 Y7 G7)
        have F7 : Hid (OwnS sgG 7 27 w7 w.heap.size v7 (puL po wa sq t true) ∧ Below w.heap.size w w7) := ⟨by rw [PF.out]; exact Y7.out.1, (X6.out.2.2.2.2.2.2.2.2.2.2.2.2.out.alloc X6.out.2.2.2.2.2.2.2.2.2.2.2.2.out.size _).trans Y7.out.2⟩
        clear Y7 G7 X6
        go_wp2
        go_ret
        exact ⟨_, rfl, F7.out.1, F7.out.2⟩
end Go.Proofs.Ytjammgjmidchmaa
