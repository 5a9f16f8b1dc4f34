/- The walk of laws.FnMeter: true at every two rows of bytes. -/
import Derived.Test.YtfcdobicilediaaDrawM
import Derived.Test.YtfcdobicilediaaAtV
import Derived.Test.YtfcdobicilediaaMeterB
import Derived.Test.YtfcdobicilediaaNums
namespace Go.Proofs.Ytfcdobicilediaa
open Go.RowKit Go.PlainAid Go.Sort
set_option linter.unusedVariables false
set_option maxRecDepth 20000

theorem meter_step (m l h c x : Int) (hm : okM m l h c) (hx : okA x) (hc : c ≤ 900000) :
    mvC m l h c x = 0 ∧ mv1 m l h c x ≤ mv0 m l h c x ∧ mv0 m l h c x ≤ mv2 m l h c x ∧ mv1 m l h c x ≤ x ∧ x ≤ mv2 m l h c x ∧ mv3 m l h c x = c + 1 ∧ okM (mv0 m l h c x) (mv1 m l h c x) (mv2 m l h c x) (mv3 m l h c x) := by
  have e0 : mv0 m l h c x = if c = 0 then x else m + (x - m) / 4 := if_pos ⟨hm, hx⟩
  have e1 : mv1 m l h c x = if c = 0 then x else min l x := if_pos ⟨hm, hx⟩
  have e2 : mv2 m l h c x = if c = 0 then x else max h x := if_pos ⟨hm, hx⟩
  have e3 : mv3 m l h c x = if c = 0 then 1 else min (c + 1) 1000000 := if_pos ⟨hm, hx⟩
  have e4 : mvC m l h c x = 0 := by unfold mvC; rw [if_pos hm, if_pos hx]
  rw [e0, e1, e2, e3, e4]
  unfold okM at hm ⊢
  unfold okA at *
  by_cases hz : c = 0
  · simp only [hz, if_true]
    refine ⟨trivial, by omega, by omega, by omega, by omega, by omega, Or.inr ?_⟩
    omega
  · simp only [hz, if_false]
    rcases hm with h' | h'
    · omega
    · refine ⟨trivial, by omega, by omega, by omega, by omega, by omega, Or.inr ?_⟩
      omega
theorem neq_meter (x0 x1 x2 x3 : Int) (w : World) : (binOp .neq 56 (.agg #[.int .i64 x0, .int .i64 x1, .int .i64 x2, .int .i64 x3]) (.agg #[.int .i64 x0, .int .i64 x1, .int .i64 x2, .int .i64 x3])).run Try.prog w = .ok (.bool false) w := by
  have u3 := Try.underlying3
  have a3 := Try.isAgg3
  have z3 := Try.sizeOf3
  have hS : Try.prog.underlying 56 = some (.struct (Try.prog.fieldsOf 56)) := by kernel_rfl
  have hp : Try.prog.stoodInHeld 56 = false := by kernel_rfl
  rw [run_neq_struct, show (10000 : Nat) = 9999 + 1 from rfl, run_equalIn_agg w 9999 56 _ _ hS hp]
  simp only [Program.fieldsOf, Try.underlying56]
  go_simp
theorem mean_three (n : Int) (h : okA n) : meanV (fun _ => n) 3 = n ∧ meanK (fun _ => n) 3 = 0 := by
  have ha : allA (fun _ => n) 3 := fun _ _ => h
  refine ⟨?_, ?_⟩
  · unfold meanV
    rw [if_pos ⟨by omega, ha, by omega⟩]
    show (0 + n + n + n) / ((3 : Nat) : Int) = n
    omega
  · unfold meanK
    rw [if_neg (by omega), if_pos ha, if_neg (by omega)]
theorem share_in (a b : Int) (ha : okA a) (hb : okA b) (h0 : b ≠ 0) : shareC a b = 0 ∧ 0 ≤ shareV a b ∧ shareV a b ≤ 1000 := by
  unfold shareC shareV
  rw [if_pos ⟨ha, hb⟩, if_pos ⟨ha, hb⟩, if_neg h0]
  omega
theorem OwnN.nm {e : TypeId} {w : World} {B : Nat} {v : Value} {L : List Int} (h : OwnN e w B v L) : ∃ a cap, v = .slice a L.length cap ∧ Nm w a L.length (fun i => L.getD i 0) := by
  rcases h.2 with ⟨h1, h2⟩ | ⟨g, cap, cur, h1, hB, hg, hle, hm, hs, ht⟩
  · have e0 : L = [] := by simpa using h2
    subst e0
    exact ⟨none, 0, by simpa using h1, fun h => absurd h (by simp)⟩
  · have hgl : g < w.heap.size := (World.ownsRow.lt h g (by rw [h1]; rfl)).2
    refine ⟨some ⟨g, 0, none⟩, cap, h1, fun h0 => ⟨g, 0, rfl, hgl, fun i hi => ?_⟩⟩
    have hc := World.ownsRow.cells h (g := g) (by rw [h1]; rfl) i (.int .i64 (L.getD i 0)) (by simp [hi])
    have ea : (⟨g, 0, none⟩ : Addr).add i = ⟨g, 0 + i, none⟩ := by unfold Addr.add; split <;> simp_all
    rw [ea] at hc
    exact hc

/-- A box of four behind a world. -/
structure Box4 (w0 W : World) (B : Nat) (v0 v1 v2 v3 : Int) : Prop where
  c0 : W.cell? ⟨B, 0, none⟩ = some (.int .i64 v0)
  c1 : W.cell? ⟨B, 1, none⟩ = some (.int .i64 v1)
  c2 : W.cell? ⟨B, 2, none⟩ = some (.int .i64 v2)
  c3 : W.cell? ⟨B, 3, none⟩ = some (.int .i64 v3)
  below : Below w0.heap.size w0 W
  ge : w0.heap.size ≤ B
  lt : B < W.heap.size
theorem box_new {w0 wc : World} (hb : Below w0.heap.size w0 wc) (v0 v1 v2 v3 : Int) (t : TypeId) : Box4 w0 (wc.alloc (.cells #[.int .i64 v0, .int .i64 v1, .int .i64 v2, .int .i64 v3] t)) wc.heap.size v0 v1 v2 v3 :=
  ⟨by simp, by simp, by simp, by simp, hb.alloc hb.size _, hb.size, by simp⟩
theorem box_set {w0 wc : World} (hb : Below w0.heap.size w0 wc) {u0 u1 u2 u3 : Value} {v0 v1 v2 v3 : Int} (z0 : wc.cell? ⟨w0.heap.size, 0, none⟩ = some u0) (z1 : wc.cell? ⟨w0.heap.size, 1, none⟩ = some u1) (z2 : wc.cell? ⟨w0.heap.size, 2, none⟩ = some u2) (z3 : wc.cell? ⟨w0.heap.size, 3, none⟩ = some u3) :
    Box4 w0 ((((wc.setCell ⟨w0.heap.size, 0, none⟩ (.int .i64 v0)).setCell ⟨w0.heap.size, 1, none⟩ (.int .i64 v1)).setCell ⟨w0.heap.size, 2, none⟩ (.int .i64 v2)).setCell ⟨w0.heap.size, 3, none⟩ (.int .i64 v3)) w0.heap.size v0 v1 v2 v3 := by
  obtain ⟨a0, a1, a2, a3, ab⟩ := set_four (.int .i64 v0) (.int .i64 v1) (.int .i64 v2) (.int .i64 v3) z0 z1 z2 z3
  exact ⟨a0, a1, a2, a3, hb.trans ab, Nat.le_refl _, by have := World.block_lt_of_cell? wc _ z0; simpa using this⟩

set_option maxHeartbeats 8000000 in
theorem lawMeter_any (a a' : Option Addr) (len cap len' cap' : Nat) (f f' : Nat → Int) (w : World) (h : Bytes w a len f) (h' : Bytes w a' len' f') (hlt : ∀ b off, 0 < len → a = some ⟨b, off, none⟩ → b < w.heap.size) (hlt' : ∀ b off, 0 < len' → a' = some ⟨b, off, none⟩ → b < w.heap.size) (hm : len ≤ maxLen) (hm' : len' ≤ maxLen) :
    Calls Try.prog 5 #[.slice a len cap, .slice a' len' cap'] w fun e w' => e = .returned (.bool true) ∧ Below w.heap.size w w' := by
  by_cases hl : 1048576 < len
  · have hlz : (1048576 : Int) < (len : Int) := by omega
    go_enter Try.func5, Try.ntmps5
    go_wp2
    go_ret
    exact ⟨rfl, Below.refl _ _⟩
  have hlz : (len : Int) ≤ (1048576 : Int) := by omega
  by_cases hl' : 1048576 < len'
  · have hlz' : (1048576 : Int) < (len' : Int) := by omega
    go_enter Try.func5, Try.ntmps5
    go_wp2
    go_ret
    exact ⟨rfl, Below.refl _ _⟩
  have hlz' : (len' : Int) ≤ (1048576 : Int) := by omega
  have K1 : Hid (∀ wx, Below w.heap.size w wx → Calls Try.prog 27 #[.slice a len cap] wx fun e w' => ∃ v zs, e = .returned v ∧ OwnN 3 w' wx.heap.size v zs ∧ FewA 6 zs ∧ Below wx.heap.size wx w') := fun wx hb =>
    AmountsOf_any wx a len cap f (h.below hb hlt) (by omega) (fun b off h0 e => Nat.lt_of_lt_of_le (hlt b off h0 e) hb.size)
  have K2 : Hid (∀ wx, Below w.heap.size w wx → Calls Try.prog 27 #[.slice a' len' cap'] wx fun e w' => ∃ v zs, e = .returned v ∧ OwnN 3 w' wx.heap.size v zs ∧ FewA 6 zs ∧ Below wx.heap.size wx w') := fun wx hb =>
    AmountsOf_any wx a' len' cap' f' (h'.below hb hlt') (by omega) (fun b off h0 e => Nat.lt_of_lt_of_le (hlt' b off h0 e) hb.size)
  have KA : Hid (∀ wx (i : Nat) (n : Int), Below w.heap.size w wx → i ≤ 10 → 1 ≤ n → n ≤ 1000 → Calls Try.prog 11 #[.slice a' len' cap', .int .i64 i, .int .i64 n] wx fun e w' => e = .returned (.int .i64 (atV f' len' i n)) ∧ ∃ k, w' = wx.drewN k) := fun wx i n hb hi hn hn2 =>
    at_val wx a' len' cap' f' i n (h'.below hb hlt') (by omega) (by omega) hn (by omega)
  clear h h' hlt hlt'
  go_enter Try.func5, Try.ntmps5
  go_wp2_with fail
  refine (K1.out _ ((Below.refl _ _).alloc (Nat.le_refl _) _)).mono ?_
  rintro e w1 ⟨v1, z1, rfl, o1, hf1, b1⟩
  have X1 : Hid (OwnN 3 w1 w.heap.size (.slice (some ⟨w.heap.size, 0, none⟩) 0 0) [] ∧ OwnN 3 w1 (w.heap.size + 1) v1 z1 ∧ FewA 6 z1 ∧ Below w.heap.size w w1) := by
    have l0 := own_litI w w.heap.size (Nat.le_refl _)
    exact ⟨l0.now (b1.mono (by simp)), o1.lower (by simp), hf1, ((Below.refl _ _).alloc (Nat.le_refl _) _).trans (b1.mono (by simp))⟩
  clear o1 hf1 b1
  have hz5 : ([] : List Int).length + z1.length ≤ 5000 := by have := X1.out.2.2.1.1; simp; omega
  go_wp2_with (at_builtin; refine wpl_row _ rfl (.tmp 33) (.tmp 35) rfl w.heap.size _ [] rfl X1.out.1 (w.heap.size + 1) v1 z1 rfl X1.out.2.1 hz5 X1.out.2.2.2.size ?_; intro v2 w2 Y2)
  have X2 : Hid (OwnN 3 w2 w.heap.size v2 z1 ∧ FewA 6 z1 ∧ Below w.heap.size w w2) := ⟨by have := Y2.out.1; rw [List.nil_append] at this; exact this, X1.out.2.2.1, X1.out.2.2.2.trans Y2.out.2.1⟩
  clear X1 Y2 hz5
  go_wp2_with fail
  refine (K2.out _ X2.out.2.2).mono ?_
  rintro e w3 ⟨v3, z3, rfl, o3, hf3, b3⟩
  have X3 : Hid (OwnN 3 w3 w.heap.size v2 z1 ∧ OwnN 3 w3 w2.heap.size v3 z3 ∧ FewA 6 z1 ∧ FewA 6 z3 ∧ Below w.heap.size w w3) := ⟨X2.out.1.now b3, o3, X2.out.2.1, hf3, X2.out.2.2.trans (b3.mono X2.out.2.2.size)⟩
  clear o3 hf3 b3 X2
  have hz5 : z1.length + z3.length ≤ 5000 := by have := X3.out.2.2.1.1; have := X3.out.2.2.2.1.1; omega
  go_wp2_with (at_builtin; refine wpl_row _ rfl (.tmp 36) (.tmp 38) rfl w.heap.size _ z1 rfl X3.out.1 w2.heap.size v3 z3 rfl X3.out.2.1 hz5 X3.out.2.2.2.2.size ?_; intro v4 w4 Y4)
  obtain ⟨la, lc, hv4, hn4⟩ := Y4.out.1.nm
  obtain ⟨L, hL⟩ : ∃ L, L = z1 ++ z3 := ⟨_, rfl⟩
  have hall : ∀ i, i < L.length → okA (L.getD i 0) := fun i hi => by
    rw [List.getD_eq_getElem?_getD, List.getElem?_eq_getElem hi]
    have hmem := List.getElem_mem hi
    have hmem2 : L[i] ∈ z1 ++ z3 := by rw [← hL]; exact hmem
    rcases List.mem_append.1 hmem2 with h | h
    · exact X3.out.2.2.1.2 _ h
    · exact X3.out.2.2.2.1.2 _ h
  have hlen : L.length ≤ 12 := by rw [hL, List.length_append]; have := X3.out.2.2.1.1; have := X3.out.2.2.2.1.1; omega
  rw [← hL] at hv4 hn4
  have X4 : Hid (Nm w4 la L.length (fun i => L.getD i 0) ∧ Below w.heap.size w w4) := ⟨hn4, X3.out.2.2.2.2.trans Y4.out.2.1⟩
  have HA : Hid (∀ i, i < L.length → okA (L.getD i 0)) := hall
  subst hv4
  clear hn4 X3 Y4 hz5 hL hall
  generalize L.length = n at *
  generalize hF : (fun i => L.getD i 0) = F at *
  have HA : Hid (∀ i, i < n → okA (F i)) := fun i hi => by rw [← hF]; exact HA.out i hi
  clear hF
  have hb4 : w.heap.size ≤ w4.heap.size := X4.out.2.size
  have X5 : Hid (Nm (w4.alloc (.cells #[.int .i64 0, .int .i64 0, .int .i64 0, .int .i64 0] 56)) la n F ∧ Below w.heap.size w (w4.alloc (.cells #[.int .i64 0, .int .i64 0, .int .i64 0, .int .i64 0] 56))) := ⟨X4.out.1.below ((Below.refl _ _).alloc (Nat.le_refl _) _) (Nat.le_refl _), X4.out.2.alloc X4.out.2.size _⟩
  have HI : Hid (∀ m l h c x wx, Calls Try.prog 28 #[.agg #[.int .i64 m, .int .i64 l, .int .i64 h, .int .i64 c], .int .i64 x] wx fun e w' => e = .returned (.tuple #[.agg #[.int .i64 (mv0 m l h c x), .int .i64 (mv1 m l h c x), .int .i64 (mv2 m l h c x), .int .i64 (mv3 m l h c x)], .int .i64 (mvC m l h c x)]) ∧ Below wx.heap.size wx w') := fun m l h c x wx => iMeterAdd_any m l h c x wx
  have HS : Hid (∀ m l h c x wx, Calls Try.prog 29 #[.agg #[.int .i64 m, .int .i64 l, .int .i64 h, .int .i64 c], .int .i64 x] wx fun e w' => e = .returned (.tuple #[.agg #[.int .i64 (mv0 m l h c x), .int .i64 (mv1 m l h c x), .int .i64 (mv2 m l h c x), .int .i64 (mv3 m l h c x)], .int .i64 (mvC m l h c x)]) ∧ Below wx.heap.size wx w') := fun m l h c x wx => sMeterAdd_any m l h c x wx
  clear K1 K2
  go_wp2
  go_loopw [7] (fun i wr => ∃ (k : Nat) (m0 m1 m2 : Int), k ≤ n ∧ i = .int .i64 k ∧ Hid (wr.cell? ⟨w4.heap.size, 0, none⟩ = some (.int .i64 m0) ∧ wr.cell? ⟨w4.heap.size, 1, none⟩ = some (.int .i64 m1) ∧ wr.cell? ⟨w4.heap.size, 2, none⟩ = some (.int .i64 m2) ∧ wr.cell? ⟨w4.heap.size, 3, none⟩ = some (.int .i64 k) ∧ (∀ i, wr.frozen? ⟨w4.heap.size, i, none⟩ = false) ∧ okM m0 m1 m2 k ∧ Below w4.heap.size w4 wr ∧ w4.heap.size < wr.heap.size)) (fun i _ => n - (intOf i).toNat)
  case atStart => exact ⟨0, 0, 0, 0, Nat.zero_le _, rfl, by simp, by simp, by simp, by simp, fun i => by simp, Or.inl ⟨rfl, rfl, rfl, rfl⟩, (Below.refl _ _).alloc (Nat.le_refl _) _, by simp⟩
  case round =>
    obtain ⟨k, m0, m1, m2, hk, rfl, X⟩ := hrel
    by_cases hlt : k < n
    · have hltz : (k : Int) < (n : Int) := by omega
      obtain ⟨b, off, rfl, hb4', hc⟩ := X4.out.1 (by omega)
      have hck : wr.cell? ⟨b, off + k, none⟩ = some (.int .i64 (F k)) := by rw [X.out.2.2.2.2.2.2.1.cell (by exact hb4')]; exact hc k hlt
      have hbl : b < wr.heap.size := by have := X.out.2.2.2.2.2.2.2; omega
      clear hc
      have q0 := X.out.1
      have q1 := X.out.2.1
      have q2 := X.out.2.2.1
      have q3 := X.out.2.2.2.1
      have MS := meter_step m0 m1 m2 k (F k) X.out.2.2.2.2.2.1 (HA.out k hlt) (by omega)
      have HI1 := fun wx => HI.out m0 m1 m2 k (F k) wx
      have HS1 := fun wx => HS.out m0 m1 m2 k (F k) wx
      rw [MS.1] at HI1 HS1
      generalize F k = x at *
      generalize mv0 m0 m1 m2 k x = r0 at *
      generalize mv1 m0 m1 m2 k x = r1 at *
      generalize mv2 m0 m1 m2 k x = r2 at *
      obtain ⟨_, s1, s2, s3, s4, s5, s6⟩ := MS
      rw [s5] at HI1 HS1 s6
      have HI2 : Hid _ := HI1
      have HS2 : Hid _ := HS1
      have S6 : Hid (okM r0 r1 r2 (k + 1)) := s6
      clear s5 s6 HI1 HS1
      -- ROUND
      have hmb : w4.heap.size < wr.heap.size := X.out.2.2.2.2.2.2.2
      have hmr := hmb
      go_wp2_with fail
      have KP : Hid (∀ wx, Below wr.heap.size wr wx → wx.cell? ⟨w4.heap.size, 0, none⟩ = some (.int .i64 m0) ∧ wx.cell? ⟨w4.heap.size, 1, none⟩ = some (.int .i64 m1) ∧ wx.cell? ⟨w4.heap.size, 2, none⟩ = some (.int .i64 m2) ∧ wx.cell? ⟨w4.heap.size, 3, none⟩ = some (.int .i64 k) ∧ wx.cell? ⟨b, off + k, none⟩ = some (.int .i64 x)) := fun wx hb => ⟨by rw [hb.cell (by exact hmb)]; exact q0, by rw [hb.cell (by exact hmb)]; exact q1, by rw [hb.cell (by exact hmb)]; exact q2, by rw [hb.cell (by exact hmb)]; exact q3, by rw [hb.cell (by exact hbl)]; exact hck⟩
      have BS : Hid (Below wr.heap.size wr wr.drew) := (Below.refl _ _).drew
      have BA : Hid (Below wr.heap.size wr (wr.alloc (.cells #[.int .i64 0, .int .i64 0, .int .i64 0, .int .i64 0] 56)).drew) := ((Below.refl _ _).alloc (Nat.le_refl _) _).drew
      refine wp_region_held_drew (S := (fun wx => wx.cell? ⟨w4.heap.size, 0, none⟩ = some (.int .i64 m0) ∧ wx.cell? ⟨w4.heap.size, 1, none⟩ = some (.int .i64 m1) ∧ wx.cell? ⟨w4.heap.size, 2, none⟩ = some (.int .i64 m2) ∧ wx.cell? ⟨w4.heap.size, 3, none⟩ = some (.int .i64 k) ∧ wx.cell? ⟨b, off + k, none⟩ = some (.int .i64 x))) (by kernel_rfl) ?_ (fun hH0 => ?_)
      · exact KP.out _ BS.out
      refine wpAnyH_take (i := 0) (v := ?v1) rfl (by kernel_rfl) (by kernel_rfl) (by kernel_rfl) (fun _ _ _ h => h) (Or.inl ⟨by rfl, ?hy1⟩) (by assumption) ?rest1
      case hy1 => (intro w hSw; (try dsimp only at hSw); go_simp; (try with_reducible rfl))
      refine wpAnyH_take (i := 1) (v := ?v2) rfl (by kernel_rfl) (by kernel_rfl) (by kernel_rfl) (fun _ _ _ h => h) (Or.inl ⟨by rfl, ?hy2⟩) (by assumption) ?rest2
      case hy2 => (intro w hSw; (try dsimp only at hSw); go_simp; (try with_reducible rfl))
      refine wpAnyH_take (i := 2) (v := ?v3) rfl (by kernel_rfl) (by kernel_rfl) (by kernel_rfl) (fun _ _ _ h => h) (Or.inl ⟨by rfl, ?hy3⟩) (by assumption) ?rest3
      case hy3 => (intro w hSw; (try dsimp only at hSw); go_simp; (try with_reducible rfl))
      refine wpAnyH_take (i := 3) (v := ?v4) rfl (by kernel_rfl) (by kernel_rfl) (by kernel_rfl) (fun _ _ _ h => h) (Or.inl ⟨by rfl, ?hy4⟩) (by assumption) ?rest4
      case hy4 => (intro w hSw; (try dsimp only at hSw); go_simp; (try with_reducible rfl))
      refine wpAnyH_take (i := 4) (v := ?v5) rfl (by kernel_rfl) (by kernel_rfl) (by kernel_rfl) (fun _ _ _ h => h) (Or.inl ⟨by rfl, ?hy5⟩) (by assumption) ?rest5
      case hy5 => (intro w hSw; (try dsimp only at hSw); go_simp; (try with_reducible rfl))
      refine wpAnyH_ready (rs := [5, 9]) (by kernel_rfl) (by simp) ?_
      refine AllReadyH.cons rfl (fun K hK => ?_) ?_
      · go_simp
        go_at_call 28
        (with_reducible refine (HI2.out _).mono ?_)
        rintro e wc ⟨rfl, bc⟩
        have BC : Hid (Below wr.heap.size wr wc) := by first | exact BS.out.trans bc | exact BA.out.trans (bc.mono (by simp))
        skip
        clear bc
        refine hK.out _ _ ?_ (fun hH6 => ?_)
        · (try dsimp only)
          first | with_reducible exact KP.out _ BS.out | with_reducible exact KP.out _ BA.out | with_reducible exact KP.out _ BC.out | with_reducible exact KP.out _ (BC.out.alloc BC.out.size _) | with_reducible exact KP.out _ ((((BC.out.setCell (Nat.le_refl _) _).setCell (Nat.le_refl _) _).setCell (Nat.le_refl _) _).setCell (Nat.le_refl _) _)
        clear hK K hH0
        refine wpAnyH_take (i := 6) (v := ?v7) rfl (by kernel_rfl) (by kernel_rfl) (by kernel_rfl) (fun _ _ _ h => h) (Or.inl ⟨by rfl, ?hy7⟩) (by assumption) ?rest7
        case hy7 => (intro w hSw; (try dsimp only at hSw); go_simp; (try with_reducible rfl))
        refine wpAnyH_take (i := 7) (v := ?v8) rfl (by kernel_rfl) (by kernel_rfl) (by kernel_rfl) (fun _ _ _ h => h) (Or.inl ⟨by rfl, ?hy8⟩) (by assumption) ?rest8
        case hy8 => (intro w hSw; (try dsimp only at hSw); go_simp; (try with_reducible rfl))
        refine wpAnyH_take (i := 8) (v := ?v9) rfl (by kernel_rfl) (by kernel_rfl) (by kernel_rfl) (fun _ _ _ h => h) (Or.inl ⟨by rfl, ?hy9⟩) (by assumption) ?rest9
        case hy9 => (intro w hSw; (try dsimp only at hSw); go_simp; (try with_reducible rfl))
        refine wpAnyH_ready (rs := [9]) (by kernel_rfl) (by simp) ?_
        refine AllReadyH.cons rfl (fun K hK => ?_) ?_
        · go_simp
          refine hK.out _ _ ?_ (fun hH10 => ?_)
          · (try dsimp only)
            first | with_reducible exact KP.out _ BS.out | with_reducible exact KP.out _ BA.out | with_reducible exact KP.out _ BC.out | with_reducible exact KP.out _ (BC.out.alloc BC.out.size _) | with_reducible exact KP.out _ ((((BC.out.setCell (Nat.le_refl _) _).setCell (Nat.le_refl _) _).setCell (Nat.le_refl _) _).setCell (Nat.le_refl _) _)
          clear hK K hH6
          refine wpAnyH_ready (rs := [10]) (by kernel_rfl) (by simp) ?_
          refine AllReadyH.cons rfl (fun K hK => ?_) ?_
          · go_simp
            refine hK.out _ _ ?_ (fun hH11 => ?_)
            · (try dsimp only)
              first | with_reducible exact KP.out _ BS.out | with_reducible exact KP.out _ BA.out | with_reducible exact KP.out _ BC.out | with_reducible exact KP.out _ (BC.out.alloc BC.out.size _) | with_reducible exact KP.out _ ((((BC.out.setCell (Nat.le_refl _) _).setCell (Nat.le_refl _) _).setCell (Nat.le_refl _) _).setCell (Nat.le_refl _) _)
            clear hK K hH10
            refine wpAnyH_take (i := 11) (v := ?v12) rfl (by kernel_rfl) (by kernel_rfl) (by kernel_rfl) (fun _ _ _ h => h) (Or.inl ⟨by rfl, ?hy12⟩) (by assumption) ?rest12
            case hy12 => (intro w hSw; (try dsimp only at hSw); go_simp; (try with_reducible rfl))
            refine wpAnyH_done (by kernel_rfl) ?_ _
            first
              | (have N1 : Hid (Box4 wr ((((wc.setCell ⟨wr.heap.size, 0, none⟩ (.int .i64 r0)).setCell ⟨wr.heap.size, 1, none⟩ (.int .i64 r1)).setCell ⟨wr.heap.size, 2, none⟩ (.int .i64 r2)).setCell ⟨wr.heap.size, 3, none⟩ (.int .i64 (k + 1))) wr.heap.size r0 r1 r2 (k + 1)) := box_set BC.out y0 y1 y2 y3
                 clear BC BS BA KP hH11 y0 y1 y2 y3 yf
                 generalize (((wc.setCell ⟨wr.heap.size, 0, none⟩ (.int .i64 r0)).setCell ⟨wr.heap.size, 1, none⟩ (.int .i64 r1)).setCell ⟨wr.heap.size, 2, none⟩ (.int .i64 r2)).setCell ⟨wr.heap.size, 3, none⟩ (.int .i64 (k + 1)) = W1 at N1 ⊢
                 obtain ⟨B1, hB⟩ : ∃ B, B = wr.heap.size := ⟨_, rfl⟩
                 rw [← hB] at N1 ⊢
                 clear hB)
              | (have N1 : Hid (Box4 wr (wc.alloc (.cells #[.int .i64 r0, .int .i64 r1, .int .i64 r2, .int .i64 (k + 1)] 56)) wc.heap.size r0 r1 r2 (k + 1)) := box_new BC.out r0 r1 r2 (k + 1) 56
                 clear BC BS BA KP hH11
                 generalize wc.alloc (.cells #[.int .i64 r0, .int .i64 r1, .int .i64 r2, .int .i64 (k + 1)] 56) = W1 at N1 ⊢
                 generalize wc.heap.size = B1 at N1 ⊢)
            have q0 : W1.cell? ⟨w4.heap.size, 0, none⟩ = some (.int .i64 m0) := by rw [N1.out.below.cell (by exact hmr)]; exact q0
            have q1 : W1.cell? ⟨w4.heap.size, 1, none⟩ = some (.int .i64 m1) := by rw [N1.out.below.cell (by exact hmr)]; exact q1
            have q2 : W1.cell? ⟨w4.heap.size, 2, none⟩ = some (.int .i64 m2) := by rw [N1.out.below.cell (by exact hmr)]; exact q2
            have q3 : W1.cell? ⟨w4.heap.size, 3, none⟩ = some (.int .i64 k) := by rw [N1.out.below.cell (by exact hmr)]; exact q3
            have hck : W1.cell? ⟨b, off + k, none⟩ = some (.int .i64 x) := by rw [N1.out.below.cell (by exact hbl)]; exact hck
            have hmb : w4.heap.size < W1.heap.size := by have := N1.out.below.size; omega
            have hbl : b < W1.heap.size := by have := N1.out.below.size; omega
            go_wp2_with fail
            have KP : Hid (∀ wx, Below W1.heap.size W1 wx → wx.cell? ⟨w4.heap.size, 0, none⟩ = some (.int .i64 m0) ∧ wx.cell? ⟨w4.heap.size, 1, none⟩ = some (.int .i64 m1) ∧ wx.cell? ⟨w4.heap.size, 2, none⟩ = some (.int .i64 m2) ∧ wx.cell? ⟨w4.heap.size, 3, none⟩ = some (.int .i64 k) ∧ wx.cell? ⟨b, off + k, none⟩ = some (.int .i64 x)) := fun wx hb => ⟨by rw [hb.cell (by exact hmb)]; exact q0, by rw [hb.cell (by exact hmb)]; exact q1, by rw [hb.cell (by exact hmb)]; exact q2, by rw [hb.cell (by exact hmb)]; exact q3, by rw [hb.cell (by exact hbl)]; exact hck⟩
            have BS : Hid (Below W1.heap.size W1 W1.drew) := (Below.refl _ _).drew
            have BA : Hid (Below W1.heap.size W1 (W1.alloc (.cells #[.int .i64 0, .int .i64 0, .int .i64 0, .int .i64 0] 56)).drew) := ((Below.refl _ _).alloc (Nat.le_refl _) _).drew
            refine wp_region_held_drew (S := (fun wx => wx.cell? ⟨w4.heap.size, 0, none⟩ = some (.int .i64 m0) ∧ wx.cell? ⟨w4.heap.size, 1, none⟩ = some (.int .i64 m1) ∧ wx.cell? ⟨w4.heap.size, 2, none⟩ = some (.int .i64 m2) ∧ wx.cell? ⟨w4.heap.size, 3, none⟩ = some (.int .i64 k) ∧ wx.cell? ⟨b, off + k, none⟩ = some (.int .i64 x))) (by kernel_rfl) ?_ (fun hH0 => ?_)
            · exact KP.out _ BS.out
            refine wpAnyH_take (i := 0) (v := ?v1001) rfl (by kernel_rfl) (by kernel_rfl) (by kernel_rfl) (fun _ _ _ h => h) (Or.inl ⟨by rfl, ?hy1001⟩) (by assumption) ?rest1001
            case hy1001 => (intro w hSw; (try dsimp only at hSw); go_simp; (try with_reducible rfl))
            refine wpAnyH_take (i := 1) (v := ?v1002) rfl (by kernel_rfl) (by kernel_rfl) (by kernel_rfl) (fun _ _ _ h => h) (Or.inl ⟨by rfl, ?hy1002⟩) (by assumption) ?rest1002
            case hy1002 => (intro w hSw; (try dsimp only at hSw); go_simp; (try with_reducible rfl))
            refine wpAnyH_take (i := 2) (v := ?v1003) rfl (by kernel_rfl) (by kernel_rfl) (by kernel_rfl) (fun _ _ _ h => h) (Or.inl ⟨by rfl, ?hy1003⟩) (by assumption) ?rest1003
            case hy1003 => (intro w hSw; (try dsimp only at hSw); go_simp; (try with_reducible rfl))
            refine wpAnyH_take (i := 3) (v := ?v1004) rfl (by kernel_rfl) (by kernel_rfl) (by kernel_rfl) (fun _ _ _ h => h) (Or.inl ⟨by rfl, ?hy1004⟩) (by assumption) ?rest1004
            case hy1004 => (intro w hSw; (try dsimp only at hSw); go_simp; (try with_reducible rfl))
            refine wpAnyH_take (i := 4) (v := ?v1005) rfl (by kernel_rfl) (by kernel_rfl) (by kernel_rfl) (fun _ _ _ h => h) (Or.inl ⟨by rfl, ?hy1005⟩) (by assumption) ?rest1005
            case hy1005 => (intro w hSw; (try dsimp only at hSw); go_simp; (try with_reducible rfl))
            refine wpAnyH_ready (rs := [5, 9]) (by kernel_rfl) (by simp) ?_
            refine AllReadyH.cons rfl (fun K hK => ?_) ?_
            · go_simp
              go_at_call 29
              (with_reducible refine (HS2.out _).mono ?_)
              rintro e wc ⟨rfl, bc⟩
              have BC : Hid (Below W1.heap.size W1 wc) := by first | exact BS.out.trans bc | exact BA.out.trans (bc.mono (by simp))
              skip
              clear bc
              refine hK.out _ _ ?_ (fun hH1006 => ?_)
              · (try dsimp only)
                first | with_reducible exact KP.out _ BS.out | with_reducible exact KP.out _ BA.out | with_reducible exact KP.out _ BC.out | with_reducible exact KP.out _ (BC.out.alloc BC.out.size _) | with_reducible exact KP.out _ ((((BC.out.setCell (Nat.le_refl _) _).setCell (Nat.le_refl _) _).setCell (Nat.le_refl _) _).setCell (Nat.le_refl _) _)
              clear hK K hH0
              refine wpAnyH_take (i := 6) (v := ?v1007) rfl (by kernel_rfl) (by kernel_rfl) (by kernel_rfl) (fun _ _ _ h => h) (Or.inl ⟨by rfl, ?hy1007⟩) (by assumption) ?rest1007
              case hy1007 => (intro w hSw; (try dsimp only at hSw); go_simp; (try with_reducible rfl))
              refine wpAnyH_take (i := 7) (v := ?v1008) rfl (by kernel_rfl) (by kernel_rfl) (by kernel_rfl) (fun _ _ _ h => h) (Or.inl ⟨by rfl, ?hy1008⟩) (by assumption) ?rest1008
              case hy1008 => (intro w hSw; (try dsimp only at hSw); go_simp; (try with_reducible rfl))
              refine wpAnyH_take (i := 8) (v := ?v1009) rfl (by kernel_rfl) (by kernel_rfl) (by kernel_rfl) (fun _ _ _ h => h) (Or.inl ⟨by rfl, ?hy1009⟩) (by assumption) ?rest1009
              case hy1009 => (intro w hSw; (try dsimp only at hSw); go_simp; (try with_reducible rfl))
              refine wpAnyH_ready (rs := [9]) (by kernel_rfl) (by simp) ?_
              refine AllReadyH.cons rfl (fun K hK => ?_) ?_
              · go_simp
                refine hK.out _ _ ?_ (fun hH1010 => ?_)
                · (try dsimp only)
                  first | with_reducible exact KP.out _ BS.out | with_reducible exact KP.out _ BA.out | with_reducible exact KP.out _ BC.out | with_reducible exact KP.out _ (BC.out.alloc BC.out.size _) | with_reducible exact KP.out _ ((((BC.out.setCell (Nat.le_refl _) _).setCell (Nat.le_refl _) _).setCell (Nat.le_refl _) _).setCell (Nat.le_refl _) _)
                clear hK K hH1006
                refine wpAnyH_ready (rs := [10]) (by kernel_rfl) (by simp) ?_
                refine AllReadyH.cons rfl (fun K hK => ?_) ?_
                · go_simp
                  refine hK.out _ _ ?_ (fun hH1011 => ?_)
                  · (try dsimp only)
                    first | with_reducible exact KP.out _ BS.out | with_reducible exact KP.out _ BA.out | with_reducible exact KP.out _ BC.out | with_reducible exact KP.out _ (BC.out.alloc BC.out.size _) | with_reducible exact KP.out _ ((((BC.out.setCell (Nat.le_refl _) _).setCell (Nat.le_refl _) _).setCell (Nat.le_refl _) _).setCell (Nat.le_refl _) _)
                  clear hK K hH1010
                  refine wpAnyH_take (i := 11) (v := ?v1012) rfl (by kernel_rfl) (by kernel_rfl) (by kernel_rfl) (fun _ _ _ h => h) (Or.inl ⟨by rfl, ?hy1012⟩) (by assumption) ?rest1012
                  case hy1012 => (intro w hSw; (try dsimp only at hSw); go_simp; (try with_reducible rfl))
                  refine wpAnyH_done (by kernel_rfl) ?_ _
                  first
                    | (have N2 : Hid (Box4 W1 ((((wc.setCell ⟨W1.heap.size, 0, none⟩ (.int .i64 r0)).setCell ⟨W1.heap.size, 1, none⟩ (.int .i64 r1)).setCell ⟨W1.heap.size, 2, none⟩ (.int .i64 r2)).setCell ⟨W1.heap.size, 3, none⟩ (.int .i64 (k + 1))) W1.heap.size r0 r1 r2 (k + 1)) := box_set BC.out y0 y1 y2 y3
                       clear BC BS BA KP hH1011 y0 y1 y2 y3 yf
                       generalize (((wc.setCell ⟨W1.heap.size, 0, none⟩ (.int .i64 r0)).setCell ⟨W1.heap.size, 1, none⟩ (.int .i64 r1)).setCell ⟨W1.heap.size, 2, none⟩ (.int .i64 r2)).setCell ⟨W1.heap.size, 3, none⟩ (.int .i64 (k + 1)) = W2 at N2 ⊢
                       obtain ⟨B2, hB⟩ : ∃ B, B = W1.heap.size := ⟨_, rfl⟩
                       rw [← hB] at N2 ⊢
                       clear hB)
                    | (have N2 : Hid (Box4 W1 (wc.alloc (.cells #[.int .i64 r0, .int .i64 r1, .int .i64 r2, .int .i64 (k + 1)] 56)) wc.heap.size r0 r1 r2 (k + 1)) := box_new BC.out r0 r1 r2 (k + 1) 56
                       clear BC BS BA KP hH1011
                       generalize wc.alloc (.cells #[.int .i64 r0, .int .i64 r1, .int .i64 r2, .int .i64 (k + 1)] 56) = W2 at N2 ⊢
                       generalize wc.heap.size = B2 at N2 ⊢)
                  have g0 : W2.cell? ⟨B1, 0, none⟩ = some (.int .i64 r0) := by rw [N2.out.below.cell (by exact N1.out.lt)]; exact N1.out.c0
                  have g1 : W2.cell? ⟨B1, 1, none⟩ = some (.int .i64 r1) := by rw [N2.out.below.cell (by exact N1.out.lt)]; exact N1.out.c1
                  have g2 : W2.cell? ⟨B1, 2, none⟩ = some (.int .i64 r2) := by rw [N2.out.below.cell (by exact N1.out.lt)]; exact N1.out.c2
                  have g3 : W2.cell? ⟨B1, 3, none⟩ = some (.int .i64 (k + 1)) := by rw [N2.out.below.cell (by exact N1.out.lt)]; exact N1.out.c3
                  have f0 := N2.out.c0
                  have f1 := N2.out.c1
                  have f2 := N2.out.c2
                  have f3 := N2.out.c3
                  have BW : Hid (Below wr.heap.size wr W2) := N1.out.below.trans (N2.out.below.mono N1.out.below.size)
                  have u0 : W2.cell? ⟨w4.heap.size, 0, none⟩ = some (.int .i64 m0) := by rw [BW.out.cell (by exact hmr)]; exact X.out.1
                  have u1 : W2.cell? ⟨w4.heap.size, 1, none⟩ = some (.int .i64 m1) := by rw [BW.out.cell (by exact hmr)]; exact X.out.2.1
                  have u2 : W2.cell? ⟨w4.heap.size, 2, none⟩ = some (.int .i64 m2) := by rw [BW.out.cell (by exact hmr)]; exact X.out.2.2.1
                  have u3 : W2.cell? ⟨w4.heap.size, 3, none⟩ = some (.int .i64 k) := by rw [BW.out.cell (by exact hmr)]; exact X.out.2.2.2.1
                  have uf : ∀ i, W2.frozen? ⟨w4.heap.size, i, none⟩ = false := fun i => by rw [BW.out.frozen (by exact hmr)]; exact X.out.2.2.2.2.1 i
                  have hck2 : W2.cell? ⟨b, off + k, none⟩ = some (.int .i64 x) := by rw [N2.out.below.cell (by exact hbl)]; exact hck
                  have HN := fun wx => neq_meter r0 r1 r2 (k + 1) wx
                  have hk1 : ((k : Int) + 1 != (k : Int) + 1) = false := by simp
                  have d1 : decide (r0 < r1) = false := decide_eq_false (by omega)
                  have d2 : decide (r2 < r0) = false := decide_eq_false (by omega)
                  have d3 : decide (x < r1) = false := decide_eq_false (by omega)
                  have d4 : decide (r2 < x) = false := decide_eq_false (by omega)
                  clear q0 q1 q2 q3 hck
                  go_wp2_with fail
                  go_simp
                  go_big_quiet (fail)
                  obtain ⟨st0, st1, st2, st3, stb⟩ := set_four (w2 := W2.drewN nq) (.int .i64 r0) (.int .i64 r1) (.int .i64 r2) (.int .i64 ((k + 1 : Nat) : Int)) u0 u1 u2 u3
                  have XN : Hid ((((((W2.drewN nq).setCell ⟨w4.heap.size, 0, none⟩ (.int .i64 r0)).setCell ⟨w4.heap.size, 1, none⟩ (.int .i64 r1)).setCell ⟨w4.heap.size, 2, none⟩ (.int .i64 r2)).setCell ⟨w4.heap.size, 3, none⟩ (.int .i64 ((k + 1 : Nat) : Int))).cell? ⟨w4.heap.size, 0, none⟩ = some (.int .i64 r0) ∧ (((((W2.drewN nq).setCell ⟨w4.heap.size, 0, none⟩ (.int .i64 r0)).setCell ⟨w4.heap.size, 1, none⟩ (.int .i64 r1)).setCell ⟨w4.heap.size, 2, none⟩ (.int .i64 r2)).setCell ⟨w4.heap.size, 3, none⟩ (.int .i64 ((k + 1 : Nat) : Int))).cell? ⟨w4.heap.size, 1, none⟩ = some (.int .i64 r1) ∧ (((((W2.drewN nq).setCell ⟨w4.heap.size, 0, none⟩ (.int .i64 r0)).setCell ⟨w4.heap.size, 1, none⟩ (.int .i64 r1)).setCell ⟨w4.heap.size, 2, none⟩ (.int .i64 r2)).setCell ⟨w4.heap.size, 3, none⟩ (.int .i64 ((k + 1 : Nat) : Int))).cell? ⟨w4.heap.size, 2, none⟩ = some (.int .i64 r2) ∧ (((((W2.drewN nq).setCell ⟨w4.heap.size, 0, none⟩ (.int .i64 r0)).setCell ⟨w4.heap.size, 1, none⟩ (.int .i64 r1)).setCell ⟨w4.heap.size, 2, none⟩ (.int .i64 r2)).setCell ⟨w4.heap.size, 3, none⟩ (.int .i64 ((k + 1 : Nat) : Int))).cell? ⟨w4.heap.size, 3, none⟩ = some (.int .i64 ((k + 1 : Nat) : Int)) ∧ (∀ i, (((((W2.drewN nq).setCell ⟨w4.heap.size, 0, none⟩ (.int .i64 r0)).setCell ⟨w4.heap.size, 1, none⟩ (.int .i64 r1)).setCell ⟨w4.heap.size, 2, none⟩ (.int .i64 r2)).setCell ⟨w4.heap.size, 3, none⟩ (.int .i64 ((k + 1 : Nat) : Int))).frozen? ⟨w4.heap.size, i, none⟩ = false) ∧ okM r0 r1 r2 ((k + 1 : Nat) : Int) ∧ Below w4.heap.size w4 (((((W2.drewN nq).setCell ⟨w4.heap.size, 0, none⟩ (.int .i64 r0)).setCell ⟨w4.heap.size, 1, none⟩ (.int .i64 r1)).setCell ⟨w4.heap.size, 2, none⟩ (.int .i64 r2)).setCell ⟨w4.heap.size, 3, none⟩ (.int .i64 ((k + 1 : Nat) : Int))) ∧ w4.heap.size < (((((W2.drewN nq).setCell ⟨w4.heap.size, 0, none⟩ (.int .i64 r0)).setCell ⟨w4.heap.size, 1, none⟩ (.int .i64 r1)).setCell ⟨w4.heap.size, 2, none⟩ (.int .i64 r2)).setCell ⟨w4.heap.size, 3, none⟩ (.int .i64 ((k + 1 : Nat) : Int))).heap.size) := ⟨st0, st1, st2, st3, fun i => by rw [World.frozen?_setCell, World.frozen?_setCell, World.frozen?_setCell, World.frozen?_setCell]; exact uf i, S6.out, (X.out.2.2.2.2.2.2.1.trans ((BW.out.trans (show Below wr.heap.size W2 (W2.drewN nq) from ⟨rfl, rfl, rfl, Nat.le_refl _, fun _ _ => rfl⟩)).mono (Nat.le_of_lt hmr))).trans stb, by have := BW.out.size; simp; omega⟩
                  clear st0 st1 st2 st3 stb
                  go_wp2
                  go_roundw
                  case rel => exact ⟨k + 1, r0, r1, r2, by omega, by go_num, XN⟩
                  case measure => simp [intOf]; omega
                exact AllReadyH.nil
              exact AllReadyH.nil
            refine AllReadyH.cons rfl (fun K hK => ?_) ?_
            · go_simp
              refine hK.out _ _ ?_ (fun hH1013 => ?_)
              · (try dsimp only)
                first | with_reducible exact KP.out _ BS.out | with_reducible exact KP.out _ BA.out | with_reducible exact KP.out _ BC.out | with_reducible exact KP.out _ (BC.out.alloc BC.out.size _) | with_reducible exact KP.out _ ((((BC.out.setCell (Nat.le_refl _) _).setCell (Nat.le_refl _) _).setCell (Nat.le_refl _) _).setCell (Nat.le_refl _) _)
              clear hK K hH0
              refine wpAnyH_ready (rs := [5]) (by kernel_rfl) (by simp) ?_
              refine AllReadyH.cons rfl (fun K hK => ?_) ?_
              · go_simp
                go_at_call 29
                (with_reducible refine (HS2.out _).mono ?_)
                rintro e wc ⟨rfl, bc⟩
                have BC : Hid (Below W1.heap.size W1 wc) := by first | exact BS.out.trans bc | exact BA.out.trans (bc.mono (by simp))
                have y0 : wc.cell? ⟨W1.heap.size, 0, none⟩ = some (.int .i64 0) := by rw [bc.cell (by simp)]; simp
                have y1 : wc.cell? ⟨W1.heap.size, 1, none⟩ = some (.int .i64 0) := by rw [bc.cell (by simp)]; simp
                have y2 : wc.cell? ⟨W1.heap.size, 2, none⟩ = some (.int .i64 0) := by rw [bc.cell (by simp)]; simp
                have y3 : wc.cell? ⟨W1.heap.size, 3, none⟩ = some (.int .i64 0) := by rw [bc.cell (by simp)]; simp
                have yf : ∀ i, wc.frozen? ⟨W1.heap.size, i, none⟩ = false := fun i => by rw [bc.frozen (by simp)]; simp
                clear bc
                refine hK.out _ _ ?_ (fun hH1014 => ?_)
                · (try dsimp only)
                  first | with_reducible exact KP.out _ BS.out | with_reducible exact KP.out _ BA.out | with_reducible exact KP.out _ BC.out | with_reducible exact KP.out _ (BC.out.alloc BC.out.size _) | with_reducible exact KP.out _ ((((BC.out.setCell (Nat.le_refl _) _).setCell (Nat.le_refl _) _).setCell (Nat.le_refl _) _).setCell (Nat.le_refl _) _)
                clear hK K hH1013
                refine wpAnyH_take (i := 6) (v := ?v1015) rfl (by kernel_rfl) (by kernel_rfl) (by kernel_rfl) (fun _ _ _ h => h) (Or.inl ⟨by rfl, ?hy1015⟩) (by assumption) ?rest1015
                case hy1015 => (intro w hSw; (try dsimp only at hSw); go_simp; (try with_reducible rfl))
                refine wpAnyH_take (i := 7) (v := ?v1016) rfl (by kernel_rfl) (by kernel_rfl) (by kernel_rfl) (fun _ _ _ h => h) (Or.inl ⟨by rfl, ?hy1016⟩) (by assumption) ?rest1016
                case hy1016 => (intro w hSw; (try dsimp only at hSw); go_simp; (try with_reducible rfl))
                refine wpAnyH_take (i := 8) (v := ?v1017) rfl (by kernel_rfl) (by kernel_rfl) (by kernel_rfl) (fun _ _ _ h => h) (Or.inl ⟨by rfl, ?hy1017⟩) (by assumption) ?rest1017
                case hy1017 => (intro w hSw; (try dsimp only at hSw); go_simp; (try with_reducible rfl))
                refine wpAnyH_ready (rs := [10]) (by kernel_rfl) (by simp) ?_
                refine AllReadyH.cons rfl (fun K hK => ?_) ?_
                · go_simp
                  refine hK.out _ _ ?_ (fun hH1018 => ?_)
                  · (try dsimp only)
                    first | with_reducible exact KP.out _ BS.out | with_reducible exact KP.out _ BA.out | with_reducible exact KP.out _ BC.out | with_reducible exact KP.out _ (BC.out.alloc BC.out.size _) | with_reducible exact KP.out _ ((((BC.out.setCell (Nat.le_refl _) _).setCell (Nat.le_refl _) _).setCell (Nat.le_refl _) _).setCell (Nat.le_refl _) _)
                  clear hK K hH1014
                  refine wpAnyH_take (i := 11) (v := ?v1019) rfl (by kernel_rfl) (by kernel_rfl) (by kernel_rfl) (fun _ _ _ h => h) (Or.inl ⟨by rfl, ?hy1019⟩) (by assumption) ?rest1019
                  case hy1019 => (intro w hSw; (try dsimp only at hSw); go_simp; (try with_reducible rfl))
                  refine wpAnyH_done (by kernel_rfl) ?_ _
                  first
                    | (have N2 : Hid (Box4 W1 ((((wc.setCell ⟨W1.heap.size, 0, none⟩ (.int .i64 r0)).setCell ⟨W1.heap.size, 1, none⟩ (.int .i64 r1)).setCell ⟨W1.heap.size, 2, none⟩ (.int .i64 r2)).setCell ⟨W1.heap.size, 3, none⟩ (.int .i64 (k + 1))) W1.heap.size r0 r1 r2 (k + 1)) := box_set BC.out y0 y1 y2 y3
                       clear BC BS BA KP hH1018 y0 y1 y2 y3 yf
                       generalize (((wc.setCell ⟨W1.heap.size, 0, none⟩ (.int .i64 r0)).setCell ⟨W1.heap.size, 1, none⟩ (.int .i64 r1)).setCell ⟨W1.heap.size, 2, none⟩ (.int .i64 r2)).setCell ⟨W1.heap.size, 3, none⟩ (.int .i64 (k + 1)) = W2 at N2 ⊢
                       obtain ⟨B2, hB⟩ : ∃ B, B = W1.heap.size := ⟨_, rfl⟩
                       rw [← hB] at N2 ⊢
                       clear hB)
                    | (have N2 : Hid (Box4 W1 (wc.alloc (.cells #[.int .i64 r0, .int .i64 r1, .int .i64 r2, .int .i64 (k + 1)] 56)) wc.heap.size r0 r1 r2 (k + 1)) := box_new BC.out r0 r1 r2 (k + 1) 56
                       clear BC BS BA KP hH1018
                       generalize wc.alloc (.cells #[.int .i64 r0, .int .i64 r1, .int .i64 r2, .int .i64 (k + 1)] 56) = W2 at N2 ⊢
                       generalize wc.heap.size = B2 at N2 ⊢)
                  have g0 : W2.cell? ⟨B1, 0, none⟩ = some (.int .i64 r0) := by rw [N2.out.below.cell (by exact N1.out.lt)]; exact N1.out.c0
                  have g1 : W2.cell? ⟨B1, 1, none⟩ = some (.int .i64 r1) := by rw [N2.out.below.cell (by exact N1.out.lt)]; exact N1.out.c1
                  have g2 : W2.cell? ⟨B1, 2, none⟩ = some (.int .i64 r2) := by rw [N2.out.below.cell (by exact N1.out.lt)]; exact N1.out.c2
                  have g3 : W2.cell? ⟨B1, 3, none⟩ = some (.int .i64 (k + 1)) := by rw [N2.out.below.cell (by exact N1.out.lt)]; exact N1.out.c3
                  have f0 := N2.out.c0
                  have f1 := N2.out.c1
                  have f2 := N2.out.c2
                  have f3 := N2.out.c3
                  have BW : Hid (Below wr.heap.size wr W2) := N1.out.below.trans (N2.out.below.mono N1.out.below.size)
                  have u0 : W2.cell? ⟨w4.heap.size, 0, none⟩ = some (.int .i64 m0) := by rw [BW.out.cell (by exact hmr)]; exact X.out.1
                  have u1 : W2.cell? ⟨w4.heap.size, 1, none⟩ = some (.int .i64 m1) := by rw [BW.out.cell (by exact hmr)]; exact X.out.2.1
                  have u2 : W2.cell? ⟨w4.heap.size, 2, none⟩ = some (.int .i64 m2) := by rw [BW.out.cell (by exact hmr)]; exact X.out.2.2.1
                  have u3 : W2.cell? ⟨w4.heap.size, 3, none⟩ = some (.int .i64 k) := by rw [BW.out.cell (by exact hmr)]; exact X.out.2.2.2.1
                  have uf : ∀ i, W2.frozen? ⟨w4.heap.size, i, none⟩ = false := fun i => by rw [BW.out.frozen (by exact hmr)]; exact X.out.2.2.2.2.1 i
                  have hck2 : W2.cell? ⟨b, off + k, none⟩ = some (.int .i64 x) := by rw [N2.out.below.cell (by exact hbl)]; exact hck
                  have HN := fun wx => neq_meter r0 r1 r2 (k + 1) wx
                  have hk1 : ((k : Int) + 1 != (k : Int) + 1) = false := by simp
                  have d1 : decide (r0 < r1) = false := decide_eq_false (by omega)
                  have d2 : decide (r2 < r0) = false := decide_eq_false (by omega)
                  have d3 : decide (x < r1) = false := decide_eq_false (by omega)
                  have d4 : decide (r2 < x) = false := decide_eq_false (by omega)
                  clear q0 q1 q2 q3 hck
                  go_wp2_with fail
                  go_simp
                  go_big_quiet (fail)
                  obtain ⟨st0, st1, st2, st3, stb⟩ := set_four (w2 := W2.drewN nq) (.int .i64 r0) (.int .i64 r1) (.int .i64 r2) (.int .i64 ((k + 1 : Nat) : Int)) u0 u1 u2 u3
                  have XN : Hid ((((((W2.drewN nq).setCell ⟨w4.heap.size, 0, none⟩ (.int .i64 r0)).setCell ⟨w4.heap.size, 1, none⟩ (.int .i64 r1)).setCell ⟨w4.heap.size, 2, none⟩ (.int .i64 r2)).setCell ⟨w4.heap.size, 3, none⟩ (.int .i64 ((k + 1 : Nat) : Int))).cell? ⟨w4.heap.size, 0, none⟩ = some (.int .i64 r0) ∧ (((((W2.drewN nq).setCell ⟨w4.heap.size, 0, none⟩ (.int .i64 r0)).setCell ⟨w4.heap.size, 1, none⟩ (.int .i64 r1)).setCell ⟨w4.heap.size, 2, none⟩ (.int .i64 r2)).setCell ⟨w4.heap.size, 3, none⟩ (.int .i64 ((k + 1 : Nat) : Int))).cell? ⟨w4.heap.size, 1, none⟩ = some (.int .i64 r1) ∧ (((((W2.drewN nq).setCell ⟨w4.heap.size, 0, none⟩ (.int .i64 r0)).setCell ⟨w4.heap.size, 1, none⟩ (.int .i64 r1)).setCell ⟨w4.heap.size, 2, none⟩ (.int .i64 r2)).setCell ⟨w4.heap.size, 3, none⟩ (.int .i64 ((k + 1 : Nat) : Int))).cell? ⟨w4.heap.size, 2, none⟩ = some (.int .i64 r2) ∧ (((((W2.drewN nq).setCell ⟨w4.heap.size, 0, none⟩ (.int .i64 r0)).setCell ⟨w4.heap.size, 1, none⟩ (.int .i64 r1)).setCell ⟨w4.heap.size, 2, none⟩ (.int .i64 r2)).setCell ⟨w4.heap.size, 3, none⟩ (.int .i64 ((k + 1 : Nat) : Int))).cell? ⟨w4.heap.size, 3, none⟩ = some (.int .i64 ((k + 1 : Nat) : Int)) ∧ (∀ i, (((((W2.drewN nq).setCell ⟨w4.heap.size, 0, none⟩ (.int .i64 r0)).setCell ⟨w4.heap.size, 1, none⟩ (.int .i64 r1)).setCell ⟨w4.heap.size, 2, none⟩ (.int .i64 r2)).setCell ⟨w4.heap.size, 3, none⟩ (.int .i64 ((k + 1 : Nat) : Int))).frozen? ⟨w4.heap.size, i, none⟩ = false) ∧ okM r0 r1 r2 ((k + 1 : Nat) : Int) ∧ Below w4.heap.size w4 (((((W2.drewN nq).setCell ⟨w4.heap.size, 0, none⟩ (.int .i64 r0)).setCell ⟨w4.heap.size, 1, none⟩ (.int .i64 r1)).setCell ⟨w4.heap.size, 2, none⟩ (.int .i64 r2)).setCell ⟨w4.heap.size, 3, none⟩ (.int .i64 ((k + 1 : Nat) : Int))) ∧ w4.heap.size < (((((W2.drewN nq).setCell ⟨w4.heap.size, 0, none⟩ (.int .i64 r0)).setCell ⟨w4.heap.size, 1, none⟩ (.int .i64 r1)).setCell ⟨w4.heap.size, 2, none⟩ (.int .i64 r2)).setCell ⟨w4.heap.size, 3, none⟩ (.int .i64 ((k + 1 : Nat) : Int))).heap.size) := ⟨st0, st1, st2, st3, fun i => by rw [World.frozen?_setCell, World.frozen?_setCell, World.frozen?_setCell, World.frozen?_setCell]; exact uf i, S6.out, (X.out.2.2.2.2.2.2.1.trans ((BW.out.trans (show Below wr.heap.size W2 (W2.drewN nq) from ⟨rfl, rfl, rfl, Nat.le_refl _, fun _ _ => rfl⟩)).mono (Nat.le_of_lt hmr))).trans stb, by have := BW.out.size; simp; omega⟩
                  clear st0 st1 st2 st3 stb
                  go_wp2
                  go_roundw
                  case rel => exact ⟨k + 1, r0, r1, r2, by omega, by go_num, XN⟩
                  case measure => simp [intOf]; omega
                exact AllReadyH.nil
              exact AllReadyH.nil
            exact AllReadyH.nil
          exact AllReadyH.nil
        exact AllReadyH.nil
      refine AllReadyH.cons rfl (fun K hK => ?_) ?_
      · go_simp
        refine hK.out _ _ ?_ (fun hH13 => ?_)
        · (try dsimp only)
          first | with_reducible exact KP.out _ BS.out | with_reducible exact KP.out _ BA.out | with_reducible exact KP.out _ BC.out | with_reducible exact KP.out _ (BC.out.alloc BC.out.size _) | with_reducible exact KP.out _ ((((BC.out.setCell (Nat.le_refl _) _).setCell (Nat.le_refl _) _).setCell (Nat.le_refl _) _).setCell (Nat.le_refl _) _)
        clear hK K hH0
        refine wpAnyH_ready (rs := [5]) (by kernel_rfl) (by simp) ?_
        refine AllReadyH.cons rfl (fun K hK => ?_) ?_
        · go_simp
          go_at_call 28
          (with_reducible refine (HI2.out _).mono ?_)
          rintro e wc ⟨rfl, bc⟩
          have BC : Hid (Below wr.heap.size wr wc) := by first | exact BS.out.trans bc | exact BA.out.trans (bc.mono (by simp))
          have y0 : wc.cell? ⟨wr.heap.size, 0, none⟩ = some (.int .i64 0) := by rw [bc.cell (by simp)]; simp
          have y1 : wc.cell? ⟨wr.heap.size, 1, none⟩ = some (.int .i64 0) := by rw [bc.cell (by simp)]; simp
          have y2 : wc.cell? ⟨wr.heap.size, 2, none⟩ = some (.int .i64 0) := by rw [bc.cell (by simp)]; simp
          have y3 : wc.cell? ⟨wr.heap.size, 3, none⟩ = some (.int .i64 0) := by rw [bc.cell (by simp)]; simp
          have yf : ∀ i, wc.frozen? ⟨wr.heap.size, i, none⟩ = false := fun i => by rw [bc.frozen (by simp)]; simp
          clear bc
          refine hK.out _ _ ?_ (fun hH14 => ?_)
          · (try dsimp only)
            first | with_reducible exact KP.out _ BS.out | with_reducible exact KP.out _ BA.out | with_reducible exact KP.out _ BC.out | with_reducible exact KP.out _ (BC.out.alloc BC.out.size _) | with_reducible exact KP.out _ ((((BC.out.setCell (Nat.le_refl _) _).setCell (Nat.le_refl _) _).setCell (Nat.le_refl _) _).setCell (Nat.le_refl _) _)
          clear hK K hH13
          refine wpAnyH_take (i := 6) (v := ?v15) rfl (by kernel_rfl) (by kernel_rfl) (by kernel_rfl) (fun _ _ _ h => h) (Or.inl ⟨by rfl, ?hy15⟩) (by assumption) ?rest15
          case hy15 => (intro w hSw; (try dsimp only at hSw); go_simp; (try with_reducible rfl))
          refine wpAnyH_take (i := 7) (v := ?v16) rfl (by kernel_rfl) (by kernel_rfl) (by kernel_rfl) (fun _ _ _ h => h) (Or.inl ⟨by rfl, ?hy16⟩) (by assumption) ?rest16
          case hy16 => (intro w hSw; (try dsimp only at hSw); go_simp; (try with_reducible rfl))
          refine wpAnyH_take (i := 8) (v := ?v17) rfl (by kernel_rfl) (by kernel_rfl) (by kernel_rfl) (fun _ _ _ h => h) (Or.inl ⟨by rfl, ?hy17⟩) (by assumption) ?rest17
          case hy17 => (intro w hSw; (try dsimp only at hSw); go_simp; (try with_reducible rfl))
          refine wpAnyH_ready (rs := [10]) (by kernel_rfl) (by simp) ?_
          refine AllReadyH.cons rfl (fun K hK => ?_) ?_
          · go_simp
            refine hK.out _ _ ?_ (fun hH18 => ?_)
            · (try dsimp only)
              first | with_reducible exact KP.out _ BS.out | with_reducible exact KP.out _ BA.out | with_reducible exact KP.out _ BC.out | with_reducible exact KP.out _ (BC.out.alloc BC.out.size _) | with_reducible exact KP.out _ ((((BC.out.setCell (Nat.le_refl _) _).setCell (Nat.le_refl _) _).setCell (Nat.le_refl _) _).setCell (Nat.le_refl _) _)
            clear hK K hH14
            refine wpAnyH_take (i := 11) (v := ?v19) rfl (by kernel_rfl) (by kernel_rfl) (by kernel_rfl) (fun _ _ _ h => h) (Or.inl ⟨by rfl, ?hy19⟩) (by assumption) ?rest19
            case hy19 => (intro w hSw; (try dsimp only at hSw); go_simp; (try with_reducible rfl))
            refine wpAnyH_done (by kernel_rfl) ?_ _
            first
              | (have N1 : Hid (Box4 wr ((((wc.setCell ⟨wr.heap.size, 0, none⟩ (.int .i64 r0)).setCell ⟨wr.heap.size, 1, none⟩ (.int .i64 r1)).setCell ⟨wr.heap.size, 2, none⟩ (.int .i64 r2)).setCell ⟨wr.heap.size, 3, none⟩ (.int .i64 (k + 1))) wr.heap.size r0 r1 r2 (k + 1)) := box_set BC.out y0 y1 y2 y3
                 clear BC BS BA KP hH18 y0 y1 y2 y3 yf
                 generalize (((wc.setCell ⟨wr.heap.size, 0, none⟩ (.int .i64 r0)).setCell ⟨wr.heap.size, 1, none⟩ (.int .i64 r1)).setCell ⟨wr.heap.size, 2, none⟩ (.int .i64 r2)).setCell ⟨wr.heap.size, 3, none⟩ (.int .i64 (k + 1)) = W1 at N1 ⊢
                 obtain ⟨B1, hB⟩ : ∃ B, B = wr.heap.size := ⟨_, rfl⟩
                 rw [← hB] at N1 ⊢
                 clear hB)
              | (have N1 : Hid (Box4 wr (wc.alloc (.cells #[.int .i64 r0, .int .i64 r1, .int .i64 r2, .int .i64 (k + 1)] 56)) wc.heap.size r0 r1 r2 (k + 1)) := box_new BC.out r0 r1 r2 (k + 1) 56
                 clear BC BS BA KP hH18
                 generalize wc.alloc (.cells #[.int .i64 r0, .int .i64 r1, .int .i64 r2, .int .i64 (k + 1)] 56) = W1 at N1 ⊢
                 generalize wc.heap.size = B1 at N1 ⊢)
            have q0 : W1.cell? ⟨w4.heap.size, 0, none⟩ = some (.int .i64 m0) := by rw [N1.out.below.cell (by exact hmr)]; exact q0
            have q1 : W1.cell? ⟨w4.heap.size, 1, none⟩ = some (.int .i64 m1) := by rw [N1.out.below.cell (by exact hmr)]; exact q1
            have q2 : W1.cell? ⟨w4.heap.size, 2, none⟩ = some (.int .i64 m2) := by rw [N1.out.below.cell (by exact hmr)]; exact q2
            have q3 : W1.cell? ⟨w4.heap.size, 3, none⟩ = some (.int .i64 k) := by rw [N1.out.below.cell (by exact hmr)]; exact q3
            have hck : W1.cell? ⟨b, off + k, none⟩ = some (.int .i64 x) := by rw [N1.out.below.cell (by exact hbl)]; exact hck
            have hmb : w4.heap.size < W1.heap.size := by have := N1.out.below.size; omega
            have hbl : b < W1.heap.size := by have := N1.out.below.size; omega
            go_wp2_with fail
            have KP : Hid (∀ wx, Below W1.heap.size W1 wx → wx.cell? ⟨w4.heap.size, 0, none⟩ = some (.int .i64 m0) ∧ wx.cell? ⟨w4.heap.size, 1, none⟩ = some (.int .i64 m1) ∧ wx.cell? ⟨w4.heap.size, 2, none⟩ = some (.int .i64 m2) ∧ wx.cell? ⟨w4.heap.size, 3, none⟩ = some (.int .i64 k) ∧ wx.cell? ⟨b, off + k, none⟩ = some (.int .i64 x)) := fun wx hb => ⟨by rw [hb.cell (by exact hmb)]; exact q0, by rw [hb.cell (by exact hmb)]; exact q1, by rw [hb.cell (by exact hmb)]; exact q2, by rw [hb.cell (by exact hmb)]; exact q3, by rw [hb.cell (by exact hbl)]; exact hck⟩
            have BS : Hid (Below W1.heap.size W1 W1.drew) := (Below.refl _ _).drew
            have BA : Hid (Below W1.heap.size W1 (W1.alloc (.cells #[.int .i64 0, .int .i64 0, .int .i64 0, .int .i64 0] 56)).drew) := ((Below.refl _ _).alloc (Nat.le_refl _) _).drew
            refine wp_region_held_drew (S := (fun wx => wx.cell? ⟨w4.heap.size, 0, none⟩ = some (.int .i64 m0) ∧ wx.cell? ⟨w4.heap.size, 1, none⟩ = some (.int .i64 m1) ∧ wx.cell? ⟨w4.heap.size, 2, none⟩ = some (.int .i64 m2) ∧ wx.cell? ⟨w4.heap.size, 3, none⟩ = some (.int .i64 k) ∧ wx.cell? ⟨b, off + k, none⟩ = some (.int .i64 x))) (by kernel_rfl) ?_ (fun hH0 => ?_)
            · exact KP.out _ BS.out
            refine wpAnyH_take (i := 0) (v := ?v2001) rfl (by kernel_rfl) (by kernel_rfl) (by kernel_rfl) (fun _ _ _ h => h) (Or.inl ⟨by rfl, ?hy2001⟩) (by assumption) ?rest2001
            case hy2001 => (intro w hSw; (try dsimp only at hSw); go_simp; (try with_reducible rfl))
            refine wpAnyH_take (i := 1) (v := ?v2002) rfl (by kernel_rfl) (by kernel_rfl) (by kernel_rfl) (fun _ _ _ h => h) (Or.inl ⟨by rfl, ?hy2002⟩) (by assumption) ?rest2002
            case hy2002 => (intro w hSw; (try dsimp only at hSw); go_simp; (try with_reducible rfl))
            refine wpAnyH_take (i := 2) (v := ?v2003) rfl (by kernel_rfl) (by kernel_rfl) (by kernel_rfl) (fun _ _ _ h => h) (Or.inl ⟨by rfl, ?hy2003⟩) (by assumption) ?rest2003
            case hy2003 => (intro w hSw; (try dsimp only at hSw); go_simp; (try with_reducible rfl))
            refine wpAnyH_take (i := 3) (v := ?v2004) rfl (by kernel_rfl) (by kernel_rfl) (by kernel_rfl) (fun _ _ _ h => h) (Or.inl ⟨by rfl, ?hy2004⟩) (by assumption) ?rest2004
            case hy2004 => (intro w hSw; (try dsimp only at hSw); go_simp; (try with_reducible rfl))
            refine wpAnyH_take (i := 4) (v := ?v2005) rfl (by kernel_rfl) (by kernel_rfl) (by kernel_rfl) (fun _ _ _ h => h) (Or.inl ⟨by rfl, ?hy2005⟩) (by assumption) ?rest2005
            case hy2005 => (intro w hSw; (try dsimp only at hSw); go_simp; (try with_reducible rfl))
            refine wpAnyH_ready (rs := [5, 9]) (by kernel_rfl) (by simp) ?_
            refine AllReadyH.cons rfl (fun K hK => ?_) ?_
            · go_simp
              go_at_call 29
              (with_reducible refine (HS2.out _).mono ?_)
              rintro e wc ⟨rfl, bc⟩
              have BC : Hid (Below W1.heap.size W1 wc) := by first | exact BS.out.trans bc | exact BA.out.trans (bc.mono (by simp))
              skip
              clear bc
              refine hK.out _ _ ?_ (fun hH2006 => ?_)
              · (try dsimp only)
                first | with_reducible exact KP.out _ BS.out | with_reducible exact KP.out _ BA.out | with_reducible exact KP.out _ BC.out | with_reducible exact KP.out _ (BC.out.alloc BC.out.size _) | with_reducible exact KP.out _ ((((BC.out.setCell (Nat.le_refl _) _).setCell (Nat.le_refl _) _).setCell (Nat.le_refl _) _).setCell (Nat.le_refl _) _)
              clear hK K hH0
              refine wpAnyH_take (i := 6) (v := ?v2007) rfl (by kernel_rfl) (by kernel_rfl) (by kernel_rfl) (fun _ _ _ h => h) (Or.inl ⟨by rfl, ?hy2007⟩) (by assumption) ?rest2007
              case hy2007 => (intro w hSw; (try dsimp only at hSw); go_simp; (try with_reducible rfl))
              refine wpAnyH_take (i := 7) (v := ?v2008) rfl (by kernel_rfl) (by kernel_rfl) (by kernel_rfl) (fun _ _ _ h => h) (Or.inl ⟨by rfl, ?hy2008⟩) (by assumption) ?rest2008
              case hy2008 => (intro w hSw; (try dsimp only at hSw); go_simp; (try with_reducible rfl))
              refine wpAnyH_take (i := 8) (v := ?v2009) rfl (by kernel_rfl) (by kernel_rfl) (by kernel_rfl) (fun _ _ _ h => h) (Or.inl ⟨by rfl, ?hy2009⟩) (by assumption) ?rest2009
              case hy2009 => (intro w hSw; (try dsimp only at hSw); go_simp; (try with_reducible rfl))
              refine wpAnyH_ready (rs := [9]) (by kernel_rfl) (by simp) ?_
              refine AllReadyH.cons rfl (fun K hK => ?_) ?_
              · go_simp
                refine hK.out _ _ ?_ (fun hH2010 => ?_)
                · (try dsimp only)
                  first | with_reducible exact KP.out _ BS.out | with_reducible exact KP.out _ BA.out | with_reducible exact KP.out _ BC.out | with_reducible exact KP.out _ (BC.out.alloc BC.out.size _) | with_reducible exact KP.out _ ((((BC.out.setCell (Nat.le_refl _) _).setCell (Nat.le_refl _) _).setCell (Nat.le_refl _) _).setCell (Nat.le_refl _) _)
                clear hK K hH2006
                refine wpAnyH_ready (rs := [10]) (by kernel_rfl) (by simp) ?_
                refine AllReadyH.cons rfl (fun K hK => ?_) ?_
                · go_simp
                  refine hK.out _ _ ?_ (fun hH2011 => ?_)
                  · (try dsimp only)
                    first | with_reducible exact KP.out _ BS.out | with_reducible exact KP.out _ BA.out | with_reducible exact KP.out _ BC.out | with_reducible exact KP.out _ (BC.out.alloc BC.out.size _) | with_reducible exact KP.out _ ((((BC.out.setCell (Nat.le_refl _) _).setCell (Nat.le_refl _) _).setCell (Nat.le_refl _) _).setCell (Nat.le_refl _) _)
                  clear hK K hH2010
                  refine wpAnyH_take (i := 11) (v := ?v2012) rfl (by kernel_rfl) (by kernel_rfl) (by kernel_rfl) (fun _ _ _ h => h) (Or.inl ⟨by rfl, ?hy2012⟩) (by assumption) ?rest2012
                  case hy2012 => (intro w hSw; (try dsimp only at hSw); go_simp; (try with_reducible rfl))
                  refine wpAnyH_done (by kernel_rfl) ?_ _
                  first
                    | (have N2 : Hid (Box4 W1 ((((wc.setCell ⟨W1.heap.size, 0, none⟩ (.int .i64 r0)).setCell ⟨W1.heap.size, 1, none⟩ (.int .i64 r1)).setCell ⟨W1.heap.size, 2, none⟩ (.int .i64 r2)).setCell ⟨W1.heap.size, 3, none⟩ (.int .i64 (k + 1))) W1.heap.size r0 r1 r2 (k + 1)) := box_set BC.out y0 y1 y2 y3
                       clear BC BS BA KP hH2011 y0 y1 y2 y3 yf
                       generalize (((wc.setCell ⟨W1.heap.size, 0, none⟩ (.int .i64 r0)).setCell ⟨W1.heap.size, 1, none⟩ (.int .i64 r1)).setCell ⟨W1.heap.size, 2, none⟩ (.int .i64 r2)).setCell ⟨W1.heap.size, 3, none⟩ (.int .i64 (k + 1)) = W2 at N2 ⊢
                       obtain ⟨B2, hB⟩ : ∃ B, B = W1.heap.size := ⟨_, rfl⟩
                       rw [← hB] at N2 ⊢
                       clear hB)
                    | (have N2 : Hid (Box4 W1 (wc.alloc (.cells #[.int .i64 r0, .int .i64 r1, .int .i64 r2, .int .i64 (k + 1)] 56)) wc.heap.size r0 r1 r2 (k + 1)) := box_new BC.out r0 r1 r2 (k + 1) 56
                       clear BC BS BA KP hH2011
                       generalize wc.alloc (.cells #[.int .i64 r0, .int .i64 r1, .int .i64 r2, .int .i64 (k + 1)] 56) = W2 at N2 ⊢
                       generalize wc.heap.size = B2 at N2 ⊢)
                  have g0 : W2.cell? ⟨B1, 0, none⟩ = some (.int .i64 r0) := by rw [N2.out.below.cell (by exact N1.out.lt)]; exact N1.out.c0
                  have g1 : W2.cell? ⟨B1, 1, none⟩ = some (.int .i64 r1) := by rw [N2.out.below.cell (by exact N1.out.lt)]; exact N1.out.c1
                  have g2 : W2.cell? ⟨B1, 2, none⟩ = some (.int .i64 r2) := by rw [N2.out.below.cell (by exact N1.out.lt)]; exact N1.out.c2
                  have g3 : W2.cell? ⟨B1, 3, none⟩ = some (.int .i64 (k + 1)) := by rw [N2.out.below.cell (by exact N1.out.lt)]; exact N1.out.c3
                  have f0 := N2.out.c0
                  have f1 := N2.out.c1
                  have f2 := N2.out.c2
                  have f3 := N2.out.c3
                  have BW : Hid (Below wr.heap.size wr W2) := N1.out.below.trans (N2.out.below.mono N1.out.below.size)
                  have u0 : W2.cell? ⟨w4.heap.size, 0, none⟩ = some (.int .i64 m0) := by rw [BW.out.cell (by exact hmr)]; exact X.out.1
                  have u1 : W2.cell? ⟨w4.heap.size, 1, none⟩ = some (.int .i64 m1) := by rw [BW.out.cell (by exact hmr)]; exact X.out.2.1
                  have u2 : W2.cell? ⟨w4.heap.size, 2, none⟩ = some (.int .i64 m2) := by rw [BW.out.cell (by exact hmr)]; exact X.out.2.2.1
                  have u3 : W2.cell? ⟨w4.heap.size, 3, none⟩ = some (.int .i64 k) := by rw [BW.out.cell (by exact hmr)]; exact X.out.2.2.2.1
                  have uf : ∀ i, W2.frozen? ⟨w4.heap.size, i, none⟩ = false := fun i => by rw [BW.out.frozen (by exact hmr)]; exact X.out.2.2.2.2.1 i
                  have hck2 : W2.cell? ⟨b, off + k, none⟩ = some (.int .i64 x) := by rw [N2.out.below.cell (by exact hbl)]; exact hck
                  have HN := fun wx => neq_meter r0 r1 r2 (k + 1) wx
                  have hk1 : ((k : Int) + 1 != (k : Int) + 1) = false := by simp
                  have d1 : decide (r0 < r1) = false := decide_eq_false (by omega)
                  have d2 : decide (r2 < r0) = false := decide_eq_false (by omega)
                  have d3 : decide (x < r1) = false := decide_eq_false (by omega)
                  have d4 : decide (r2 < x) = false := decide_eq_false (by omega)
                  clear q0 q1 q2 q3 hck
                  go_wp2_with fail
                  go_simp
                  go_big_quiet (fail)
                  obtain ⟨st0, st1, st2, st3, stb⟩ := set_four (w2 := W2.drewN nq) (.int .i64 r0) (.int .i64 r1) (.int .i64 r2) (.int .i64 ((k + 1 : Nat) : Int)) u0 u1 u2 u3
                  have XN : Hid ((((((W2.drewN nq).setCell ⟨w4.heap.size, 0, none⟩ (.int .i64 r0)).setCell ⟨w4.heap.size, 1, none⟩ (.int .i64 r1)).setCell ⟨w4.heap.size, 2, none⟩ (.int .i64 r2)).setCell ⟨w4.heap.size, 3, none⟩ (.int .i64 ((k + 1 : Nat) : Int))).cell? ⟨w4.heap.size, 0, none⟩ = some (.int .i64 r0) ∧ (((((W2.drewN nq).setCell ⟨w4.heap.size, 0, none⟩ (.int .i64 r0)).setCell ⟨w4.heap.size, 1, none⟩ (.int .i64 r1)).setCell ⟨w4.heap.size, 2, none⟩ (.int .i64 r2)).setCell ⟨w4.heap.size, 3, none⟩ (.int .i64 ((k + 1 : Nat) : Int))).cell? ⟨w4.heap.size, 1, none⟩ = some (.int .i64 r1) ∧ (((((W2.drewN nq).setCell ⟨w4.heap.size, 0, none⟩ (.int .i64 r0)).setCell ⟨w4.heap.size, 1, none⟩ (.int .i64 r1)).setCell ⟨w4.heap.size, 2, none⟩ (.int .i64 r2)).setCell ⟨w4.heap.size, 3, none⟩ (.int .i64 ((k + 1 : Nat) : Int))).cell? ⟨w4.heap.size, 2, none⟩ = some (.int .i64 r2) ∧ (((((W2.drewN nq).setCell ⟨w4.heap.size, 0, none⟩ (.int .i64 r0)).setCell ⟨w4.heap.size, 1, none⟩ (.int .i64 r1)).setCell ⟨w4.heap.size, 2, none⟩ (.int .i64 r2)).setCell ⟨w4.heap.size, 3, none⟩ (.int .i64 ((k + 1 : Nat) : Int))).cell? ⟨w4.heap.size, 3, none⟩ = some (.int .i64 ((k + 1 : Nat) : Int)) ∧ (∀ i, (((((W2.drewN nq).setCell ⟨w4.heap.size, 0, none⟩ (.int .i64 r0)).setCell ⟨w4.heap.size, 1, none⟩ (.int .i64 r1)).setCell ⟨w4.heap.size, 2, none⟩ (.int .i64 r2)).setCell ⟨w4.heap.size, 3, none⟩ (.int .i64 ((k + 1 : Nat) : Int))).frozen? ⟨w4.heap.size, i, none⟩ = false) ∧ okM r0 r1 r2 ((k + 1 : Nat) : Int) ∧ Below w4.heap.size w4 (((((W2.drewN nq).setCell ⟨w4.heap.size, 0, none⟩ (.int .i64 r0)).setCell ⟨w4.heap.size, 1, none⟩ (.int .i64 r1)).setCell ⟨w4.heap.size, 2, none⟩ (.int .i64 r2)).setCell ⟨w4.heap.size, 3, none⟩ (.int .i64 ((k + 1 : Nat) : Int))) ∧ w4.heap.size < (((((W2.drewN nq).setCell ⟨w4.heap.size, 0, none⟩ (.int .i64 r0)).setCell ⟨w4.heap.size, 1, none⟩ (.int .i64 r1)).setCell ⟨w4.heap.size, 2, none⟩ (.int .i64 r2)).setCell ⟨w4.heap.size, 3, none⟩ (.int .i64 ((k + 1 : Nat) : Int))).heap.size) := ⟨st0, st1, st2, st3, fun i => by rw [World.frozen?_setCell, World.frozen?_setCell, World.frozen?_setCell, World.frozen?_setCell]; exact uf i, S6.out, (X.out.2.2.2.2.2.2.1.trans ((BW.out.trans (show Below wr.heap.size W2 (W2.drewN nq) from ⟨rfl, rfl, rfl, Nat.le_refl _, fun _ _ => rfl⟩)).mono (Nat.le_of_lt hmr))).trans stb, by have := BW.out.size; simp; omega⟩
                  clear st0 st1 st2 st3 stb
                  go_wp2
                  go_roundw
                  case rel => exact ⟨k + 1, r0, r1, r2, by omega, by go_num, XN⟩
                  case measure => simp [intOf]; omega
                exact AllReadyH.nil
              exact AllReadyH.nil
            refine AllReadyH.cons rfl (fun K hK => ?_) ?_
            · go_simp
              refine hK.out _ _ ?_ (fun hH2013 => ?_)
              · (try dsimp only)
                first | with_reducible exact KP.out _ BS.out | with_reducible exact KP.out _ BA.out | with_reducible exact KP.out _ BC.out | with_reducible exact KP.out _ (BC.out.alloc BC.out.size _) | with_reducible exact KP.out _ ((((BC.out.setCell (Nat.le_refl _) _).setCell (Nat.le_refl _) _).setCell (Nat.le_refl _) _).setCell (Nat.le_refl _) _)
              clear hK K hH0
              refine wpAnyH_ready (rs := [5]) (by kernel_rfl) (by simp) ?_
              refine AllReadyH.cons rfl (fun K hK => ?_) ?_
              · go_simp
                go_at_call 29
                (with_reducible refine (HS2.out _).mono ?_)
                rintro e wc ⟨rfl, bc⟩
                have BC : Hid (Below W1.heap.size W1 wc) := by first | exact BS.out.trans bc | exact BA.out.trans (bc.mono (by simp))
                have y0 : wc.cell? ⟨W1.heap.size, 0, none⟩ = some (.int .i64 0) := by rw [bc.cell (by simp)]; simp
                have y1 : wc.cell? ⟨W1.heap.size, 1, none⟩ = some (.int .i64 0) := by rw [bc.cell (by simp)]; simp
                have y2 : wc.cell? ⟨W1.heap.size, 2, none⟩ = some (.int .i64 0) := by rw [bc.cell (by simp)]; simp
                have y3 : wc.cell? ⟨W1.heap.size, 3, none⟩ = some (.int .i64 0) := by rw [bc.cell (by simp)]; simp
                have yf : ∀ i, wc.frozen? ⟨W1.heap.size, i, none⟩ = false := fun i => by rw [bc.frozen (by simp)]; simp
                clear bc
                refine hK.out _ _ ?_ (fun hH2014 => ?_)
                · (try dsimp only)
                  first | with_reducible exact KP.out _ BS.out | with_reducible exact KP.out _ BA.out | with_reducible exact KP.out _ BC.out | with_reducible exact KP.out _ (BC.out.alloc BC.out.size _) | with_reducible exact KP.out _ ((((BC.out.setCell (Nat.le_refl _) _).setCell (Nat.le_refl _) _).setCell (Nat.le_refl _) _).setCell (Nat.le_refl _) _)
                clear hK K hH2013
                refine wpAnyH_take (i := 6) (v := ?v2015) rfl (by kernel_rfl) (by kernel_rfl) (by kernel_rfl) (fun _ _ _ h => h) (Or.inl ⟨by rfl, ?hy2015⟩) (by assumption) ?rest2015
                case hy2015 => (intro w hSw; (try dsimp only at hSw); go_simp; (try with_reducible rfl))
                refine wpAnyH_take (i := 7) (v := ?v2016) rfl (by kernel_rfl) (by kernel_rfl) (by kernel_rfl) (fun _ _ _ h => h) (Or.inl ⟨by rfl, ?hy2016⟩) (by assumption) ?rest2016
                case hy2016 => (intro w hSw; (try dsimp only at hSw); go_simp; (try with_reducible rfl))
                refine wpAnyH_take (i := 8) (v := ?v2017) rfl (by kernel_rfl) (by kernel_rfl) (by kernel_rfl) (fun _ _ _ h => h) (Or.inl ⟨by rfl, ?hy2017⟩) (by assumption) ?rest2017
                case hy2017 => (intro w hSw; (try dsimp only at hSw); go_simp; (try with_reducible rfl))
                refine wpAnyH_ready (rs := [10]) (by kernel_rfl) (by simp) ?_
                refine AllReadyH.cons rfl (fun K hK => ?_) ?_
                · go_simp
                  refine hK.out _ _ ?_ (fun hH2018 => ?_)
                  · (try dsimp only)
                    first | with_reducible exact KP.out _ BS.out | with_reducible exact KP.out _ BA.out | with_reducible exact KP.out _ BC.out | with_reducible exact KP.out _ (BC.out.alloc BC.out.size _) | with_reducible exact KP.out _ ((((BC.out.setCell (Nat.le_refl _) _).setCell (Nat.le_refl _) _).setCell (Nat.le_refl _) _).setCell (Nat.le_refl _) _)
                  clear hK K hH2014
                  refine wpAnyH_take (i := 11) (v := ?v2019) rfl (by kernel_rfl) (by kernel_rfl) (by kernel_rfl) (fun _ _ _ h => h) (Or.inl ⟨by rfl, ?hy2019⟩) (by assumption) ?rest2019
                  case hy2019 => (intro w hSw; (try dsimp only at hSw); go_simp; (try with_reducible rfl))
                  refine wpAnyH_done (by kernel_rfl) ?_ _
                  first
                    | (have N2 : Hid (Box4 W1 ((((wc.setCell ⟨W1.heap.size, 0, none⟩ (.int .i64 r0)).setCell ⟨W1.heap.size, 1, none⟩ (.int .i64 r1)).setCell ⟨W1.heap.size, 2, none⟩ (.int .i64 r2)).setCell ⟨W1.heap.size, 3, none⟩ (.int .i64 (k + 1))) W1.heap.size r0 r1 r2 (k + 1)) := box_set BC.out y0 y1 y2 y3
                       clear BC BS BA KP hH2018 y0 y1 y2 y3 yf
                       generalize (((wc.setCell ⟨W1.heap.size, 0, none⟩ (.int .i64 r0)).setCell ⟨W1.heap.size, 1, none⟩ (.int .i64 r1)).setCell ⟨W1.heap.size, 2, none⟩ (.int .i64 r2)).setCell ⟨W1.heap.size, 3, none⟩ (.int .i64 (k + 1)) = W2 at N2 ⊢
                       obtain ⟨B2, hB⟩ : ∃ B, B = W1.heap.size := ⟨_, rfl⟩
                       rw [← hB] at N2 ⊢
                       clear hB)
                    | (have N2 : Hid (Box4 W1 (wc.alloc (.cells #[.int .i64 r0, .int .i64 r1, .int .i64 r2, .int .i64 (k + 1)] 56)) wc.heap.size r0 r1 r2 (k + 1)) := box_new BC.out r0 r1 r2 (k + 1) 56
                       clear BC BS BA KP hH2018
                       generalize wc.alloc (.cells #[.int .i64 r0, .int .i64 r1, .int .i64 r2, .int .i64 (k + 1)] 56) = W2 at N2 ⊢
                       generalize wc.heap.size = B2 at N2 ⊢)
                  have g0 : W2.cell? ⟨B1, 0, none⟩ = some (.int .i64 r0) := by rw [N2.out.below.cell (by exact N1.out.lt)]; exact N1.out.c0
                  have g1 : W2.cell? ⟨B1, 1, none⟩ = some (.int .i64 r1) := by rw [N2.out.below.cell (by exact N1.out.lt)]; exact N1.out.c1
                  have g2 : W2.cell? ⟨B1, 2, none⟩ = some (.int .i64 r2) := by rw [N2.out.below.cell (by exact N1.out.lt)]; exact N1.out.c2
                  have g3 : W2.cell? ⟨B1, 3, none⟩ = some (.int .i64 (k + 1)) := by rw [N2.out.below.cell (by exact N1.out.lt)]; exact N1.out.c3
                  have f0 := N2.out.c0
                  have f1 := N2.out.c1
                  have f2 := N2.out.c2
                  have f3 := N2.out.c3
                  have BW : Hid (Below wr.heap.size wr W2) := N1.out.below.trans (N2.out.below.mono N1.out.below.size)
                  have u0 : W2.cell? ⟨w4.heap.size, 0, none⟩ = some (.int .i64 m0) := by rw [BW.out.cell (by exact hmr)]; exact X.out.1
                  have u1 : W2.cell? ⟨w4.heap.size, 1, none⟩ = some (.int .i64 m1) := by rw [BW.out.cell (by exact hmr)]; exact X.out.2.1
                  have u2 : W2.cell? ⟨w4.heap.size, 2, none⟩ = some (.int .i64 m2) := by rw [BW.out.cell (by exact hmr)]; exact X.out.2.2.1
                  have u3 : W2.cell? ⟨w4.heap.size, 3, none⟩ = some (.int .i64 k) := by rw [BW.out.cell (by exact hmr)]; exact X.out.2.2.2.1
                  have uf : ∀ i, W2.frozen? ⟨w4.heap.size, i, none⟩ = false := fun i => by rw [BW.out.frozen (by exact hmr)]; exact X.out.2.2.2.2.1 i
                  have hck2 : W2.cell? ⟨b, off + k, none⟩ = some (.int .i64 x) := by rw [N2.out.below.cell (by exact hbl)]; exact hck
                  have HN := fun wx => neq_meter r0 r1 r2 (k + 1) wx
                  have hk1 : ((k : Int) + 1 != (k : Int) + 1) = false := by simp
                  have d1 : decide (r0 < r1) = false := decide_eq_false (by omega)
                  have d2 : decide (r2 < r0) = false := decide_eq_false (by omega)
                  have d3 : decide (x < r1) = false := decide_eq_false (by omega)
                  have d4 : decide (r2 < x) = false := decide_eq_false (by omega)
                  clear q0 q1 q2 q3 hck
                  go_wp2_with fail
                  go_simp
                  go_big_quiet (fail)
                  obtain ⟨st0, st1, st2, st3, stb⟩ := set_four (w2 := W2.drewN nq) (.int .i64 r0) (.int .i64 r1) (.int .i64 r2) (.int .i64 ((k + 1 : Nat) : Int)) u0 u1 u2 u3
                  have XN : Hid ((((((W2.drewN nq).setCell ⟨w4.heap.size, 0, none⟩ (.int .i64 r0)).setCell ⟨w4.heap.size, 1, none⟩ (.int .i64 r1)).setCell ⟨w4.heap.size, 2, none⟩ (.int .i64 r2)).setCell ⟨w4.heap.size, 3, none⟩ (.int .i64 ((k + 1 : Nat) : Int))).cell? ⟨w4.heap.size, 0, none⟩ = some (.int .i64 r0) ∧ (((((W2.drewN nq).setCell ⟨w4.heap.size, 0, none⟩ (.int .i64 r0)).setCell ⟨w4.heap.size, 1, none⟩ (.int .i64 r1)).setCell ⟨w4.heap.size, 2, none⟩ (.int .i64 r2)).setCell ⟨w4.heap.size, 3, none⟩ (.int .i64 ((k + 1 : Nat) : Int))).cell? ⟨w4.heap.size, 1, none⟩ = some (.int .i64 r1) ∧ (((((W2.drewN nq).setCell ⟨w4.heap.size, 0, none⟩ (.int .i64 r0)).setCell ⟨w4.heap.size, 1, none⟩ (.int .i64 r1)).setCell ⟨w4.heap.size, 2, none⟩ (.int .i64 r2)).setCell ⟨w4.heap.size, 3, none⟩ (.int .i64 ((k + 1 : Nat) : Int))).cell? ⟨w4.heap.size, 2, none⟩ = some (.int .i64 r2) ∧ (((((W2.drewN nq).setCell ⟨w4.heap.size, 0, none⟩ (.int .i64 r0)).setCell ⟨w4.heap.size, 1, none⟩ (.int .i64 r1)).setCell ⟨w4.heap.size, 2, none⟩ (.int .i64 r2)).setCell ⟨w4.heap.size, 3, none⟩ (.int .i64 ((k + 1 : Nat) : Int))).cell? ⟨w4.heap.size, 3, none⟩ = some (.int .i64 ((k + 1 : Nat) : Int)) ∧ (∀ i, (((((W2.drewN nq).setCell ⟨w4.heap.size, 0, none⟩ (.int .i64 r0)).setCell ⟨w4.heap.size, 1, none⟩ (.int .i64 r1)).setCell ⟨w4.heap.size, 2, none⟩ (.int .i64 r2)).setCell ⟨w4.heap.size, 3, none⟩ (.int .i64 ((k + 1 : Nat) : Int))).frozen? ⟨w4.heap.size, i, none⟩ = false) ∧ okM r0 r1 r2 ((k + 1 : Nat) : Int) ∧ Below w4.heap.size w4 (((((W2.drewN nq).setCell ⟨w4.heap.size, 0, none⟩ (.int .i64 r0)).setCell ⟨w4.heap.size, 1, none⟩ (.int .i64 r1)).setCell ⟨w4.heap.size, 2, none⟩ (.int .i64 r2)).setCell ⟨w4.heap.size, 3, none⟩ (.int .i64 ((k + 1 : Nat) : Int))) ∧ w4.heap.size < (((((W2.drewN nq).setCell ⟨w4.heap.size, 0, none⟩ (.int .i64 r0)).setCell ⟨w4.heap.size, 1, none⟩ (.int .i64 r1)).setCell ⟨w4.heap.size, 2, none⟩ (.int .i64 r2)).setCell ⟨w4.heap.size, 3, none⟩ (.int .i64 ((k + 1 : Nat) : Int))).heap.size) := ⟨st0, st1, st2, st3, fun i => by rw [World.frozen?_setCell, World.frozen?_setCell, World.frozen?_setCell, World.frozen?_setCell]; exact uf i, S6.out, (X.out.2.2.2.2.2.2.1.trans ((BW.out.trans (show Below wr.heap.size W2 (W2.drewN nq) from ⟨rfl, rfl, rfl, Nat.le_refl _, fun _ _ => rfl⟩)).mono (Nat.le_of_lt hmr))).trans stb, by have := BW.out.size; simp; omega⟩
                  clear st0 st1 st2 st3 stb
                  go_wp2
                  go_roundw
                  case rel => exact ⟨k + 1, r0, r1, r2, by omega, by go_num, XN⟩
                  case measure => simp [intOf]; omega
                exact AllReadyH.nil
              exact AllReadyH.nil
            exact AllReadyH.nil
          exact AllReadyH.nil
        exact AllReadyH.nil
      exact AllReadyH.nil
    · -- LEFT
      obtain rfl : k = n := by omega
      have BR : Hid (Below w.heap.size w wr) := X4.out.2.trans (X.out.2.2.2.2.2.2.1.mono hb4)
      have B4r : Hid (Below w4.heap.size w4 wr) := X.out.2.2.2.2.2.2.1
      clear X HI HS
      have HM3 : Hid (∀ nn g wx, okA nn → Nm wx (some ⟨g, 0, none⟩) 3 (fun _ => nn) → Calls Try.prog 30 #[.slice (some ⟨g, 0, none⟩) 3 3] wx fun e w' => e = .returned (.tuple #[.int .i64 nn, .int .i64 0]) ∧ w' = wx) := fun nn g wx hn hx => by
        have := iMean_any (some ⟨g, 0, none⟩) 3 3 (fun _ => nn) wx hx (by omega)
        rw [(mean_three nn hn).1, (mean_three nn hn).2] at this
        exact this
      have HMI : Hid (∀ wx, Nm wx la k F → Calls Try.prog 30 #[.slice la k lc] wx fun e w' => e = .returned (.tuple #[.int .i64 (meanV F k), .int .i64 (meanK F k)]) ∧ w' = wx) := fun wx hx => iMean_any la k lc F wx hx (by omega)
      have HMS : Hid (∀ wx, Nm wx la k F → Calls Try.prog 31 #[.slice la k lc] wx fun e w' => e = .returned (.tuple #[.int .i64 (meanV F k), .int .i64 (meanK F k)]) ∧ w' = wx) := fun wx hx => sMean_any la k lc F wx hx (by omega)
      have HN : Hid (∀ wx, Below w4.heap.size w4 wx → Nm wx la k F) := fun wx hb => X4.out.1.below hb (Nat.le_refl _)
      generalize meanV F k = q1 at *
      generalize meanK F k = q2 at *
      have A0 := atV_bd f' len' 0 900 (by omega)
      have A1 := atV_bd f' len' 1 500 (by omega)
      have A2 := atV_bd f' len' 2 500 (by omega)
      have K0 : Hid (∀ wx, Below w.heap.size w wx → Calls Try.prog 11 #[.slice a' len' cap', .int .i64 0, .int .i64 900] wx fun e w' => e = .returned (.int .i64 (atV f' len' 0 900)) ∧ ∃ k, w' = wx.drewN k) := fun wx hb => KA.out wx 0 900 hb (by omega) (by omega) (by omega)
      have K1 : Hid (∀ wx, Below w.heap.size w wx → Calls Try.prog 11 #[.slice a' len' cap', .int .i64 1, .int .i64 500] wx fun e w' => e = .returned (.int .i64 (atV f' len' 1 500)) ∧ ∃ k, w' = wx.drewN k) := fun wx hb => KA.out wx 1 500 hb (by omega) (by omega) (by omega)
      have K2 : Hid (∀ wx, Below w.heap.size w wx → Calls Try.prog 11 #[.slice a' len' cap', .int .i64 2, .int .i64 500] wx fun e w' => e = .returned (.int .i64 (atV f' len' 2 500)) ∧ ∃ k, w' = wx.drewN k) := fun wx hb => KA.out wx 2 500 hb (by omega) (by omega) (by omega)
      clear KA
      generalize atV f' len' 0 900 = a0 at *
      generalize atV f' len' 1 500 = a1 at *
      generalize atV f' len' 2 500 = a2 at *
      have SI := share_in a1 (1 + a2) (by unfold okA; omega) (by unfold okA; omega) (by omega)
      have H7 : Hid (∀ wx, Calls Try.prog 32 #[.int .i64 7, .int .i64 0] wx fun e w' => e = .returned (.tuple #[.int .i64 1000, .int .i64 0]) ∧ w' = wx) := fun wx => iShare_any 7 0 wx
      have HSI : Hid (∀ wx, Calls Try.prog 32 #[.int .i64 a1, .int .i64 (1 + a2)] wx fun e w' => e = .returned (.tuple #[.int .i64 (shareV a1 (1 + a2)), .int .i64 (shareC a1 (1 + a2))]) ∧ w' = wx) := fun wx => iShare_any a1 (1 + a2) wx
      have HSS : Hid (∀ wx, Calls Try.prog 33 #[.int .i64 a1, .int .i64 (1 + a2)] wx fun e w' => e = .returned (.tuple #[.int .i64 (shareV a1 (1 + a2)), .int .i64 (shareC a1 (1 + a2))]) ∧ w' = wx) := fun wx => sShare_any a1 (1 + a2) wx
      rw [SI.1] at HSI HSS
      generalize shareV a1 (1 + a2) = sv at *
      obtain ⟨_, sv0, sv1⟩ := SI
      have okn : Hid (okA (a0 - 400)) := by show okA _; unfold okA; omega
      go_wp2_with fail
      refine (K0.out _ BR.out).mono ?_
      rintro e wA ⟨rfl, kA, rfl⟩
      have BA : Hid (Below w4.heap.size w4 (wr.drewN kA) ∧ Below w.heap.size w (wr.drewN kA)) := ⟨B4r.out.trans ⟨rfl, rfl, rfl, Nat.le_refl _, fun _ _ => rfl⟩, BR.out.trans ⟨rfl, rfl, rfl, Nat.le_refl _, fun _ _ => rfl⟩⟩
      generalize wr.drewN kA = wa at BA ⊢
      clear BR B4r
      go_wp2_with fail
      refine (HM3.out (a0 - 400) wa.heap.size _ okn.out (fun _ => ⟨_, 0, rfl, by simp, fun i hi => ?_⟩)).mono ?_
      · have hi3 : i = 0 ∨ i = 1 ∨ i = 2 := by omega
        rcases hi3 with rfl | rfl | rfl <;> simp
      rintro e wb ⟨rfl, hw⟩
      have BB : Hid (Below w4.heap.size w4 wb ∧ Below w.heap.size w wb) := by
        show _ ∧ _
        rw [hw]
        exact ⟨BA.out.1.alloc BA.out.1.size _, BA.out.2.alloc BA.out.2.size _⟩
      clear hw BA
      go_wp2_with fail
      refine (HMI.out _ (HN.out _ BB.out.1)).mono ?_
      rintro e wc ⟨rfl, hw⟩
      subst hw
      go_wp2_with fail
      refine (HMS.out _ (HN.out _ BB.out.1)).mono ?_
      rintro e wd ⟨rfl, hw⟩
      subst hw
      have STEP : Hid (∀ wx j, Below w.heap.size w wx → Below w.heap.size w (wx.drewN j)) := fun wx j hb => hb.trans ⟨rfl, rfl, rfl, Nat.le_refl _, fun _ _ => rfl⟩
      have BD : Hid (Below w.heap.size w wd) := BB.out.2
      clear BB HN HMI HMS HM3
      go_wp2_with fail
      refine (K1.out _ BD.out).mono ?_
      rintro e wA ⟨rfl, kA, rfl⟩
      have BE : Hid (Below w.heap.size w (wd.drewN kA)) := STEP.out _ _ BD.out
      generalize wd.drewN kA = we at BE ⊢
      go_wp2_with fail
      refine (K2.out _ BE.out).mono ?_
      rintro e wA ⟨rfl, kA, rfl⟩
      have BF : Hid (Below w.heap.size w (we.drewN kA)) := STEP.out _ _ BE.out
      generalize we.drewN kA = wf at BF ⊢
      go_wp2_with fail
      refine (HSI.out _).mono ?_
      rintro e wA ⟨rfl, hw⟩
      subst hw
      go_wp2_with fail
      refine (K1.out _ BF.out).mono ?_
      rintro e wB ⟨rfl, kA, rfl⟩
      have BG : Hid (Below w.heap.size w (wA.drewN kA)) := STEP.out _ _ BF.out
      generalize wA.drewN kA = wg at BG ⊢
      go_wp2_with fail
      refine (K2.out _ BG.out).mono ?_
      rintro e wB ⟨rfl, kA, rfl⟩
      have BH : Hid (Below w.heap.size w (wg.drewN kA)) := STEP.out _ _ BG.out
      generalize wg.drewN kA = wh at BH ⊢
      go_wp2_with fail
      refine (HSS.out _).mono ?_
      rintro e wB ⟨rfl, hw⟩
      subst hw
      go_wp2_with fail
      refine (H7.out _).mono ?_
      rintro e wC ⟨rfl, hw⟩
      subst hw
      have e1 : ((a0 - 400 : Int) == a0 - 400) = true := by simp
      have e2 : (q1 == q1) = true := by simp
      have e3 : (q2 == q2) = true := by simp
      have e4 : (sv == sv) = true := by simp
      have e5 : decide (0 ≤ sv) = true := decide_eq_true sv0
      have e6 : decide (sv ≤ 1000) = true := decide_eq_true sv1
      go_wp2
      go_ret
      exact ⟨rfl, BH.out⟩
end Go.Proofs.Ytfcdobicilediaa
