/- The walk of laws.FnCheck: with its sum behind it a text of an even length has the sum 0, and with a bit turned it has not. -/
import Derived.Test.YtpcjdfponkopaaaAt
import Derived.Test.YtpcjdfponkopaaaCheckMath
import Derived.Test.YtpcjdfponkopaaaNumB
import Derived.Test.YtpcjdfponkopaaaSum
import Derived.Laws.BitsAllLaws
namespace Go.Proofs.Ytpcjdfponkopaaa
open Go.RowKit Go.PlainAid Go.Proofs.Ytpcjdfponkopaaa.Pl
set_option linter.unusedVariables false

theorem own_form {w : World} {B : Nat} {e : TypeId} {v : Value} {n : Nat} {xs : List Value} (h : w.ownsRow B e 1 v n xs) (hn : v ≠ .slice none 0 0) : ∃ g cap, v = .slice (some ⟨g, 0, none⟩) n cap := by
  rcases h.2 with ⟨h1, _⟩ | ⟨g, cap, cur, h1, _⟩
  · exact absurd h1 hn
  · exact ⟨g, cap, h1⟩
theorem OwnL.below {e : TypeId} {w w' : World} {B B' : Nat} {v : Value} {L : List Int} (h : OwnL e w B v L) (hb : Below B' w w') (hv : ∀ g, v.ownBlock = some g → g < B') : OwnL e w' B v L := by
  refine ⟨h.1, ?_⟩
  rcases h.2 with hn | ⟨g, cap, cur, rfl, hB, hg, rest⟩
  · exact .inl hn
  · exact .inr ⟨g, cap, cur, rfl, hB, (hb.block g (hv g rfl)).trans hg, rest⟩
theorem OwnL.bytes {e : TypeId} {w : World} {B g c : Nat} {L : List Int} (h : OwnL e w B (.slice (some ⟨g, 0, none⟩) L.length c) L) (hL : AllB L) : Bytes w (some ⟨g, 0, none⟩) L.length (fun j => L.getD j 0) := by
  obtain ⟨a, cap, hv, hb, _⟩ := h.slice hL
  cases hv
  exact hb
theorem OwnL.lt {e : TypeId} {w : World} {B g n c : Nat} {L : List Int} (h : OwnL e w B (.slice (some ⟨g, 0, none⟩) n c) L) : B ≤ g ∧ g < w.heap.size := World.ownsRow.lt h g rfl
theorem OwnL.free {e : TypeId} {w : World} {B g n c : Nat} {L : List Int} (h : OwnL e w B (.slice (some ⟨g, 0, none⟩) n c) L) (i : Nat) : w.frozen? ⟨g, i, none⟩ = false := by
  rcases h.2 with ⟨h1, _⟩ | ⟨g', cap, cur, h1, _, hg, _⟩
  · cases h1
  · cases h1
    simp [World.frozen?, hg]
theorem OwnL.cells {e : TypeId} {w : World} {B g n c : Nat} {L : List Int} (h : OwnL e w B (.slice (some ⟨g, 0, none⟩) n c) L) : ∀ j u, (L.map (Value.int .u8))[j]? = some u → w.cell? ((⟨g, 0, none⟩ : Addr).add j) = some u :=
  World.ownsRow.cells h rfl
theorem ones (L : List Int) : ∀ u ∈ L.map (Value.int .u8), u.oneCell' = true := by
  intro u hu
  obtain ⟨x, _, rfl⟩ := List.mem_map.1 hu
  rfl

theorem cells_on {w w' : World} {B g : Nat} {xs : List Value} (h : ∀ j u, xs[j]? = some u → w.cell? ((⟨g, 0, none⟩ : Addr).add j) = some u) (hb : Below B w w') (hg : g < B) : ∀ j u, xs[j]? = some u → w'.cell? ((⟨g, 0, none⟩ : Addr).add j) = some u := by
  intro j u hu
  have ea : (⟨g, 0, none⟩ : Addr).add j = ⟨g, j, none⟩ := by unfold Addr.add; split <;> simp_all
  have := h j u hu
  rw [ea] at this ⊢
  rw [hb.cell (p := ⟨g, j, none⟩) hg]; exact this

/-- 'x ^ byte(1 << v)'. -/
theorem xor_bit (x v : Int) (h0 : 0 ≤ x) (h1 : x ≤ 255) (v0 : 0 ≤ v) (v1 : v < 8) :
    bits BinOp.xor IntKind.u8 x (IntKind.u8.wrap (2 ^ min (IntKind.u64.wrap v).toNat 8)) - x ≠ 0 ∧ -128 ≤ bits BinOp.xor IntKind.u8 x (IntKind.u8.wrap (2 ^ min (IntKind.u64.wrap v).toNat 8)) - x ∧
      bits BinOp.xor IntKind.u8 x (IntKind.u8.wrap (2 ^ min (IntKind.u64.wrap v).toNat 8)) - x ≤ 128 ∧ 0 ≤ bits BinOp.xor IntKind.u8 x (IntKind.u8.wrap (2 ^ min (IntKind.u64.wrap v).toNat 8)) ∧ bits BinOp.xor IntKind.u8 x (IntKind.u8.wrap (2 ^ min (IntKind.u64.wrap v).toNat 8)) ≤ 255 := by
  obtain ⟨X, rfl⟩ := Int.eq_ofNat_of_zero_le h0
  obtain ⟨V, rfl⟩ := Int.eq_ofNat_of_zero_le v0
  have e1 : IntKind.u64.wrap (V : Int) = V := by rw [IntKind.wrap_u64]; omega
  have e2 : min (V : Int).toNat 8 = V := by omega
  have hp : 2 ^ V ≤ 2 ^ 7 := Nat.pow_le_pow_right (by omega) (by omega)
  have hc : (2 : Int) ^ V = ((2 ^ V : Nat) : Int) := by rw [Int.natCast_pow]; rfl
  have hb := bit_turned ⟨X, by omega⟩ ⟨V, by omega⟩
  simp only at hb
  rw [e1, e2, hc]
  generalize 2 ^ V = P at *
  have e3 : IntKind.u8.wrap (P : Int) = P := by rw [IntKind.wrap_u8]; omega
  rw [e3, u8_xor_nat X P (by omega) (by omega)]
  omega

set_option maxHeartbeats 4000000 in
theorem lawCheck_walk (w : World) (a : Option Addr) (len cap : Nat) (f : Nat → Int) (a' : Option Addr) (len' cap' : Nat) (f' : Nat → Int) (h : Bytes w a len f) (hlt : ∀ b off, 0 < len → a = some ⟨b, off, none⟩ → b < w.heap.size) (hl : len ≤ 1048576)
    (h' : Bytes w a' len' f') (hlt' : ∀ b off, 0 < len' → a' = some ⟨b, off, none⟩ → b < w.heap.size) (hl' : len' ≤ 1048576) :
    Calls Try.prog 3 #[.slice a len cap, .slice a' len' cap'] w fun e w' => e = .returned (.bool true) ∧ Below w.heap.size w w' := by
  obtain ⟨i0, hi, hz0, hz1, hz2⟩ := info_parts Try.infoB
  have A1 : Hid (Bytes w a len f ∧ ∀ b off, 0 < len → a = some ⟨b, off, none⟩ → b < w.heap.size) := ⟨h, hlt⟩
  have A2 : Hid (Bytes w a' len' f' ∧ ∀ b off, 0 < len' → a' = some ⟨b, off, none⟩ → b < w.heap.size) := ⟨h', hlt'⟩
  clear h hlt h' hlt'
  have t1 : decide ((1048576 : Int) < (len : Int)) = false := by simp; omega
  have t2 : decide ((1048576 : Int) < (len' : Int)) = false := by simp; omega
  go_enter Try.func3, Try.ntmps3
  go_wp2_with fail
  have ba : Below w.heap.size w (w.alloc (.cells #[] 5)) := (Below.refl _ _).alloc (Nat.le_refl _) _
  refine (BytesOf_any _ a len cap f 40 (A1.out.1.below ba A1.out.2) hl (fun b off h0 e => Nat.lt_of_lt_of_le (A1.out.2 b off h0 e) ba.size) (by omega) (by omega)).mono ?_
  rintro e w1 ⟨g, c, L, rfl, ho1, hall, hL40, hb1⟩
  have hsz : (w.alloc (.cells #[] 5)).heap.size = w.heap.size + 1 := by simp
  have X1 : Hid (OwnL 5 w1 (w.heap.size + 1) (.slice (some ⟨g, 0, none⟩) L.length c) L ∧ AllB L ∧ OwnL 5 w1 w.heap.size (.slice (some ⟨w.heap.size, 0, none⟩) 0 0) [] ∧ Below w.heap.size w w1) := by
    rw [hsz] at ho1 hb1
    exact ⟨ho1, hall, OwnL.below (World.ownsRow_made w #[] 0 (Nat.le_refl _) (Nat.zero_le _) rfl) hb1 (by intro g hg; simp [Value.ownBlock] at hg; omega), ba.trans (hb1.mono (by omega))⟩
  clear ho1 hall hb1 ba hsz
  have z1 := X1.out.2.2.2.size
  by_cases hpar : L.length % 2 = 1
  · have tp : ((L.length : Int) % 2 == 1) = true := by simp; omega
    go_wp2_with (first | (at_builtin; refine wpList_append_own _ rfl (.tmp 20) (.tmp 22) 22 rfl w.heap.size 5 i0 (.int .u8 0) 1 1 Try.underlying22 hi hz0 hz1 hz2 rfl (by decide) (.slice (some ⟨w.heap.size, 0, none⟩) 0 0) 0 [] rfl X1.out.2.2.1 ⟨g, 0, none⟩ L.length c (L.map (.int .u8)) rfl (by simp) X1.out.1.cells (ones L) (by unfold maxLen; omega) (by omega) z1 ?_; intro v2 w2 ho2 hg2 hn2; obtain ⟨gt, ct, rfl⟩ := own_form ho2 (fun e => by have := hn2.1 e; simp at this); rw [Nat.zero_add]; have X2 : Hid (OwnL 5 w2 w.heap.size (.slice (some ⟨gt, 0, none⟩) L.length ct) L ∧ Below w.heap.size w w2) := ⟨by simpa [OwnL] using ho2, X1.out.2.2.2.grown hg2 z1 (by intro k hk; simp [Value.ownBlock] at hk; omega)⟩; have z2 : w.heap.size ≤ w2.heap.size := X2.out.2.size; clear ho2 hg2 hn2) | (at_builtin; refine wpList_append_lies _ rfl (.tmp 28) (.tmp 29) 22 rfl w.heap.size 5 i0 (.int .u8 0) 1 1 Try.underlying22 hi hz0 hz1 hz2 rfl (by decide) (.slice (some ⟨gt, 0, none⟩) L.length ct) L.length (L.map (.int .u8)) rfl (World.ownsRow.alloc X2.out.1 _) ⟨_, 0, none⟩ 1 1 [.int .u8 0] rfl rfl (cell_one_new _ _ _) (by simp [Value.oneCell']) (by omega) (by unfold maxLen; omega) (by omega) (by simp; omega) _ rfl ?_; intro g3 c3 w3 ho3 hg3 hat3 hlt3; have X3 : Hid (OwnL 5 w3 w.heap.size (.slice (some ⟨g3, 0, none⟩) (L.length + 1) c3) (L ++ [0]) ∧ Below w.heap.size w w3) := ⟨OwnL.snoc ho3, (X2.out.2.alloc z2 _).grown hg3 (by simp; omega) (fun q hq => (World.ownsRow.lt X2.out.1 q hq).1)⟩; clear ho3 hg3 hat3 hlt3) | fail)
    obtain ⟨T, hT⟩ : ∃ T, T = L ++ [0] := ⟨_, rfl⟩
    have hTl : L.length + 1 = T.length := by simp [hT]
    have X : Hid (OwnL 5 w3 w.heap.size (.slice (some ⟨g3, 0, none⟩) T.length c3) T ∧ AllB T ∧ T.length % 2 = 0 ∧ T.length ≤ 40 ∧ Below w.heap.size w w3) := by
      refine ⟨?_, ?_, by omega, by omega, X3.out.2⟩
      · rw [← hTl, hT]; exact X3.out.1
      · rw [hT]; exact X1.out.2.1.snoc (by omega) (by omega)
    rw [hTl]
    clear X1 X2 X3 hT hTl tp hpar hL40 z2
    obtain ⟨N, hN⟩ : ∃ N, N = chk (fun j => T.getD j 0) T.length := ⟨_, rfl⟩
    have hnb := chk_bd (fun j => T.getD j 0) T.length (X.out.1.bytes X.out.2.1).1
    rw [← hN] at hnb
    obtain ⟨n0, n1⟩ := hnb
    have HN : Hid (N = chk (fun j => T.getD j 0) T.length) := hN
    clear hN
    have hT40 := X.out.2.2.2.1
    have HC : Hid (∀ (x : Option Addr) (c : Nat) (w0 : World), Bytes w0 x T.length (fun j => T.getD j 0) → Calls Try.prog 9 #[.slice x T.length c] w0 fun e w' => e = .returned (.int .i64 N) ∧ w' = w0) := by
      intro x c w0 hb
      rw [HN.out]; exact check16_any x T.length c _ w0 hb (by omega)
    have HCS : Hid (∀ (x : Option Addr) (c : Nat) (w0 : World), Bytes w0 x T.length (fun j => T.getD j 0) → Calls Try.prog 11 #[.slice x T.length c] w0 fun e w' => e = .returned (.int .i64 N) ∧ w' = w0) := by
      intro x c w0 hb
      rw [HN.out]; exact specCheck16_any x T.length c _ w0 hb (by omega)
    refine (HC.out _ _ _ (X.out.1.bytes X.out.2.1)).mono ?_
    rintro e w3' ⟨rfl, hw⟩
    subst hw
    go_wp2_with fail
    have HNB : Calls Try.prog 10 #[.int .i64 N, .int .i64 2] w3' (fun e w' => e = .returned (.tuple #[.slice (some ⟨w3'.heap.size, 0, none⟩) 2 2, .int .i64 0]) ∧ Fill w3' w' 2 2 (nb N 2)) := numberBytes_yes N 2 w3' (by omega) (by omega) n0 (by simp; omega) (by omega)
    refine HNB.mono ?_
    clear HNB
    rintro e w4 ⟨rfl, hf4⟩
    have F4 : Hid (Fill w3' w4 2 2 (nb N 2)) := hf4
    clear hf4
    have z3 := X.out.2.2.2.2.size
    have z4 := F4.out.2.1
    have tN : (N != N) = false := by simp
    have Xb : Hid (Bytes w4 (some ⟨g3, 0, none⟩) T.length (fun j => T.getD j 0) ∧ OwnL 5 w4 w.heap.size (.slice (some ⟨g3, 0, none⟩) T.length c3) T ∧ Below w.heap.size w w4) :=
      ⟨(X.out.1.bytes X.out.2.1).below F4.out.1 (fun b off _ e => by cases e; exact X.out.1.lt.2), OwnL.below X.out.1 F4.out.1 (by intro q hq; cases hq; exact X.out.1.lt.2), X.out.2.2.2.2.trans (F4.out.1.mono z3)⟩
    go_wp2_with fail
    refine (HCS.out _ _ _ Xb.out.1).mono ?_
    rintro e w4' ⟨rfl, hw⟩
    subst hw
    have cF : Hid (∀ j u, [Value.int .u8 (nb N 2 0), Value.int .u8 (nb N 2 1)][j]? = some u → w4'.cell? ((⟨w3'.heap.size, 0, none⟩ : Addr).add j) = some u) := by
      intro j u hu
      have ea : (⟨w3'.heap.size, 0, none⟩ : Addr).add j = ⟨w3'.heap.size, j, none⟩ := by unfold Addr.add; split <;> simp_all
      rw [ea]
      match j, hu with
      | 0, hu => simp at hu; subst hu; exact F4.out.2.2.2.2 0 (by omega)
      | 1, hu => simp at hu; subst hu; exact F4.out.2.2.2.2 1 (by omega)
      | (k + 2), hu => simp at hu
    go_wp2_with (first | (at_builtin; refine wpList_append_own _ rfl (.tmp 51) (.tmp 52) 22 rfl w4'.heap.size 5 i0 (.int .u8 0) 1 1 Try.underlying22 hi hz0 hz1 hz2 rfl (by decide) (.slice (some ⟨w4'.heap.size, 0, none⟩) 0 0) 0 [] rfl (World.ownsRow_made w4' #[] 0 (Nat.le_refl _) (Nat.zero_le _) rfl) ⟨g3, 0, none⟩ T.length c3 (T.map (.int .u8)) rfl (by simp) (World.ownsRow.cells (World.ownsRow.alloc Xb.out.2.1 _) rfl) (ones T) (by unfold maxLen; omega) (by omega) (by simp) ?_; intro v6 w6 ho6 hg6 hn6; obtain ⟨g6, c6, rfl⟩ := own_form ho6 (fun e => by have := hn6.1 e; simp at this); rw [Nat.zero_add]; have X6 : Hid (OwnL 5 w6 w4'.heap.size (.slice (some ⟨g6, 0, none⟩) T.length c6) T ∧ Below w4'.heap.size w4' w6) := ⟨by simpa [OwnL] using ho6, ((Below.refl _ _).alloc (Nat.le_refl _) _).grown hg6 (by simp) (by intro k hk; simp [Value.ownBlock] at hk; omega)⟩; have z6 : w4'.heap.size ≤ w6.heap.size := X6.out.2.size; clear ho6 hg6 hn6) | (at_builtin; refine wpList_append_lies _ rfl (.tmp 53) (.tmp 54) 22 rfl w4'.heap.size 5 i0 (.int .u8 0) 1 1 Try.underlying22 hi hz0 hz1 hz2 rfl (by decide) (.slice (some ⟨g6, 0, none⟩) T.length c6) T.length (T.map (.int .u8)) rfl X6.out.1 ⟨w3'.heap.size, 0, none⟩ 2 2 [.int .u8 (nb N 2 0), .int .u8 (nb N 2 1)] rfl rfl (cells_on cF.out X6.out.2 z4) (by simp [Value.oneCell']) (by omega) (by unfold maxLen; omega) (by omega) z6 _ rfl ?_; intro g7 c7 w7 ho7 hg7 hat7 hlt7; have X7 : Hid (OwnL 5 w7 w4'.heap.size (.slice (some ⟨g7, 0, none⟩) (T.length + 2) c7) (T ++ [nb N 2 0, nb N 2 1]) ∧ Below w4'.heap.size w4' w7) := ⟨OwnL.more (M := [nb N 2 0, nb N 2 1]) ho7, X6.out.2.grown hg7 z6 (fun q hq => (World.ownsRow.lt X6.out.1 q hq).1)⟩; clear ho7 hg7 hat7 hlt7) | fail)
    have hFLn : (T ++ [nb N 2 0, nb N 2 1]).length = T.length + 2 := by simp
    have hFLb : AllB (T ++ [nb N 2 0, nb N 2 1]) := by
      intro y hy
      rcases List.mem_append.1 hy with h1 | h1
      · exact X.out.2.1 y h1
      · simp at h1
        rcases h1 with h1 | h1 <;> (subst h1; exact nb_bd _ _ _)
    obtain ⟨FL, hFL⟩ : ∃ FL, FL = T ++ [nb N 2 0, nb N 2 1] := ⟨_, rfl⟩
    rw [← hFL] at hFLn hFLb
    have hz : chk (fun j => FL.getD j 0) (T.length + 2) = 0 := by
      refine chk_full (fun j => FL.getD j 0) (fun j => T.getD j 0) T.length X.out.2.2.1 (X.out.1.bytes X.out.2.1).1 (fun j hj => ?_) ?_ ?_
      · show FL.getD j 0 = T.getD j 0
        rw [hFL]; simp [List.getD, List.getElem?_append_left hj]
      · show FL.getD T.length 0 = _
        rw [← HN.out, hFL]; simp [List.getD, nb]
      · show FL.getD (T.length + 1) 0 = _
        rw [← HN.out, hFL]; simp [List.getD, nb]
    have XF : Hid (OwnL 5 w7 w4'.heap.size (.slice (some ⟨g7, 0, none⟩) FL.length c7) FL ∧ AllB FL ∧ FL.length = T.length + 2 ∧ chk (fun j => FL.getD j 0) (T.length + 2) = 0 ∧ Below w.heap.size w w7 ∧ w4'.heap.size ≤ w7.heap.size) := by
      refine ⟨?_, hFLb, hFLn, hz, Xb.out.2.2.trans (X7.out.2.mono (by have := Xb.out.2.2.size; omega)), X7.out.2.size⟩
      rw [hFLn, hFL]; exact X7.out.1
    clear hFLn hFLb hFL hz X7
    rw [← XF.out.2.2.1]
    have hF42 : FL.length ≤ 42 := by have := XF.out.2.2.1; omega
    have hF2 : 2 ≤ FL.length := by have := XF.out.2.2.1; omega
    have HZ : Hid (∀ (x : Option Addr) (c : Nat) (w0 : World), Bytes w0 x FL.length (fun j => FL.getD j 0) → Calls Try.prog 9 #[.slice x FL.length c] w0 fun e w' => e = .returned (.int .i64 0) ∧ w' = w0) := by
      intro x c w0 hb
      have := check16_any x FL.length c _ w0 hb (by omega)
      rw [XF.out.2.2.1, XF.out.2.2.2.1] at this
      rw [XF.out.2.2.1]
      exact this
    refine (HZ.out _ _ _ (XF.out.1.bytes XF.out.2.1)).mono ?_
    rintro e w7' ⟨rfl, hw⟩
    subst hw
    clear X6 z6 Xb F4 cF HC HCS X
    by_cases hN0 : N = 0
    · subst hN0
      go_wp2_with fail
      refine (HZ.out _ _ _ (XF.out.1.bytes XF.out.2.1)).mono ?_
      rintro e w8 ⟨rfl, hw⟩
      subst hw
      go_wp2
      go_ret
      exact ⟨rfl, XF.out.2.2.2.2.1⟩
    have tN0 : (N == 0) = false := by simp; omega
    go_wp2_with fail
    have HM : Hid (Bytes w7' a' len' f') := A2.out.1.below XF.out.2.2.2.2.1 A2.out.2
    have HAT : Calls Try.prog 12 #[.slice a' len' cap', .int .i64 0, .int .i64 (FL.length : Int)] w7' (fun e w' => ∃ v : Int, e = .returned (.int .i64 v) ∧ 0 ≤ v ∧ v < (FL.length : Int) ∧ ∃ k, w' = w7'.drewN k) := at_any w7' a' len' cap' f' 0 (FL.length : Int) HM.out hl' (by omega) (by omega) (by omega)
    refine HAT.mono ?_
    clear HAT
    rintro e w8 ⟨k, rfl, k0, k1, kk, hw⟩
    subst hw
    obtain ⟨K, rfl⟩ := Int.eq_ofNat_of_zero_le k0
    have XFd : Hid (OwnL 5 (w7'.drewN kk) w4'.heap.size (.slice (some ⟨g7, 0, none⟩) FL.length c7) FL) := XF.out.1
    go_wp2_with (first | (at_builtin; refine wpList_append_own _ rfl (.tmp 70) (.tmp 71) 22 rfl w7'.heap.size 5 i0 (.int .u8 0) 1 1 Try.underlying22 hi hz0 hz1 hz2 rfl (by decide) (.slice (some ⟨w7'.heap.size, 0, none⟩) 0 0) 0 [] rfl (World.ownsRow_made (w7'.drewN kk) #[] 0 (Nat.le_refl _) (Nat.zero_le _) rfl) ⟨g7, 0, none⟩ FL.length c7 (FL.map (.int .u8)) rfl (by simp) (World.ownsRow.cells (World.ownsRow.alloc XFd.out _) rfl) (ones FL) (by unfold maxLen; omega) (by omega) (by simp) ?_; intro v9 w9 ho9 hg9 hn9; obtain ⟨g9, c9, rfl⟩ := own_form ho9 (fun e => by have := hn9.1 e; simp at this); rw [Nat.zero_add]) | fail)
    have bd : Below w7'.heap.size w7' (w7'.drewN kk) := ⟨rfl, rfl, rfl, Nat.le_refl _, fun _ _ => rfl⟩
    have X9 : Hid (OwnL 5 w9 w7'.heap.size (.slice (some ⟨g9, 0, none⟩) FL.length c9) FL ∧ Below w7'.heap.size w7' w9) := ⟨by simpa [OwnL] using ho9, (bd.alloc (Nat.le_refl _) _).grown hg9 (by simp) (by intro k hk; simp [Value.ownBlock] at hk; omega)⟩
    clear bd
    clear ho9 hg9 hn9
    have z9 := X9.out.2.size
    have HM9 : Hid (Bytes w9 a' len' f') := A2.out.1.below (XF.out.2.2.2.2.1.trans (X9.out.2.mono XF.out.2.2.2.2.1.size)) A2.out.2
    have hcK : w9.cell? ⟨g9, K, none⟩ = some (.int .u8 (FL.getD K 0)) := by
      obtain ⟨b, off, e, hc⟩ := (X9.out.1.bytes XF.out.2.1).2 (by omega)
      cases e
      have := hc K (by omega)
      rwa [Nat.zero_add] at this
    have hfK : w9.frozen? ⟨g9, K, none⟩ = false := X9.out.1.free K
    obtain ⟨x, hx⟩ : ∃ x, x = FL.getD K 0 := ⟨_, rfl⟩
    have hxb := (X9.out.1.bytes XF.out.2.1).1 K
    have hx0 : 0 ≤ x := by rw [hx]; exact hxb.1
    have hx1 : x ≤ 255 := by rw [hx]; exact hxb.2
    rw [← hx] at hcK
    have HX : Hid (x = FL.getD K 0) := hx
    clear hx hxb
    have HAT : Hid (∀ w0 : World, Bytes w0 a' len' f' → Calls Try.prog 12 #[.slice a' len' cap', .int .i64 1, .int .i64 8] w0 (fun e w' => ∃ v : Int, e = .returned (.int .i64 v) ∧ 0 ≤ v ∧ v < 8 ∧ ∃ k, w' = w0.drewN k)) := fun w0 hb => at_any w0 a' len' cap' f' 1 8 hb hl' (by omega) (by omega) (by omega)
    have kI0 : (0 : Int) ≤ (K : Int) := by omega
    have kI1 : (K : Int) < (FL.length : Int) := by omega
    go_region_with (go_at_call 12; refine (HAT.out _ ?_).mono ?_; exact HM9.out; rintro e w10 ⟨v, rfl, v0, v1, kv, rfl⟩)
    all_goals
      obtain ⟨y0, y1, y2, y3, y4⟩ := xor_bit x v hx0 hx1 v0 v1
      obtain ⟨y, hy⟩ : ∃ y, y = bits BinOp.xor IntKind.u8 x (IntKind.u8.wrap (2 ^ min (IntKind.u64.wrap v).toNat 8)) := ⟨_, rfl⟩
      rw [← hy] at y0 y1 y2 y3 y4 ⊢
      have HB9 : Hid (∃ R : Int, R ≠ 0 ∧ ∀ n : Nat, Calls Try.prog 9 #[.slice (some ⟨g9, 0, none⟩) FL.length c9] ((w9.drewN n).setCell ⟨g9, K, none⟩ (.int .u8 y)) fun e w' => e = .returned (.int .i64 R) ∧ w' = (w9.drewN n).setCell ⟨g9, K, none⟩ (.int .u8 y)) := by
        refine ⟨chk (fun j => if j = K then y else FL.getD j 0) FL.length, ?_, fun n => check16_any (some ⟨g9, 0, none⟩) FL.length c9 _ _ ⟨fun k => ?_, fun h0 => ⟨g9, 0, rfl, fun i hi => ?_⟩⟩ (by omega)⟩
        · refine chk_turned (fun j => FL.getD j 0) _ K FL.length (by omega) (X9.out.1.bytes XF.out.2.1).1 (fun j => ?_) (fun j hj => if_neg hj) (by rw [XF.out.2.2.1]; exact XF.out.2.2.2.1) ?_ ?_ ?_
          · show 0 ≤ (if j = K then y else FL.getD j 0) ∧ (if j = K then y else FL.getD j 0) ≤ 255
            by_cases e : j = K
            · rw [if_pos e]; exact ⟨y3, y4⟩
            · rw [if_neg e]; exact (X9.out.1.bytes XF.out.2.1).1 j
          · show (if K = K then y else FL.getD K 0) - FL.getD K 0 ≠ 0
            rw [if_pos rfl, ← HX.out]; exact y0
          · show -128 ≤ (if K = K then y else FL.getD K 0) - FL.getD K 0
            rw [if_pos rfl, ← HX.out]; exact y1
          · show (if K = K then y else FL.getD K 0) - FL.getD K 0 ≤ 128
            rw [if_pos rfl, ← HX.out]; exact y2
        · show 0 ≤ (if k = K then y else FL.getD k 0) ∧ (if k = K then y else FL.getD k 0) ≤ 255
          by_cases e : k = K
          · rw [if_pos e]; exact ⟨y3, y4⟩
          · rw [if_neg e]; exact (X9.out.1.bytes XF.out.2.1).1 k
        · rw [Nat.zero_add]
          show ((w9.drewN n).setCell ⟨g9, K, none⟩ (.int .u8 y)).cell? ⟨g9, i, none⟩ = some (Value.int .u8 (if i = K then y else FL.getD i 0))
          by_cases e : i = K
          · rw [if_pos e, e]; exact World.cell?_setCell_same _ _ _ hcK
          · rw [if_neg e, World.cell?_setCell_other _ _ _ _ (fun hh => e (Addr.mk.inj hh).2.1.symm)]
            obtain ⟨b, off, ee, hc⟩ := (X9.out.1.bytes XF.out.2.1).2 h0
            cases ee
            have := hc i hi
            rwa [Nat.zero_add] at this
      have hy' : Hid (y = bits BinOp.xor IntKind.u8 x (IntKind.u8.wrap (2 ^ min (IntKind.u64.wrap v).toNat 8))) := hy
      clear hy y0 y1 y2
      go_wp2_with fail
      obtain ⟨R, hR, hcall⟩ := HB9.out
      refine (hcall _).mono ?_
      clear hcall
      have hRb : (R != 0) = true := by simp; exact hR
      rintro e w11 ⟨rfl, hw⟩
      subst hw
      go_wp2
      go_ret
      have b9 : Below w.heap.size w w9 := XF.out.2.2.2.2.1.trans (X9.out.2.mono XF.out.2.2.2.2.1.size)
      have g9l := X9.out.1.lt.1
      have b7 := XF.out.2.2.2.2.1.size
      exact ⟨rfl, Below.setCell (w := w9.drewN _) ⟨b9.os, b9.tape, b9.output, b9.size, b9.block⟩ (p := ⟨g9, K, none⟩) (by show w.heap.size ≤ g9; omega) _⟩
  · have tp : ((L.length : Int) % 2 == 1) = false := by simp; omega
    go_wp2_with (first | (at_builtin; refine wpList_append_own _ rfl (.tmp 20) (.tmp 22) 22 rfl w.heap.size 5 i0 (.int .u8 0) 1 1 Try.underlying22 hi hz0 hz1 hz2 rfl (by decide) (.slice (some ⟨w.heap.size, 0, none⟩) 0 0) 0 [] rfl X1.out.2.2.1 ⟨g, 0, none⟩ L.length c (L.map (.int .u8)) rfl (by simp) X1.out.1.cells (ones L) (by unfold maxLen; omega) (by omega) z1 ?_; intro v2 w3 ho2 hg2 hn2; obtain ⟨g3, c3, rfl⟩ := own_form ho2 (fun e => by have := hn2.1 e; simp at this); rw [Nat.zero_add]; have X3 : Hid (OwnL 5 w3 w.heap.size (.slice (some ⟨g3, 0, none⟩) L.length c3) L ∧ Below w.heap.size w w3) := ⟨by simpa [OwnL] using ho2, X1.out.2.2.2.grown hg2 z1 (by intro k hk; simp [Value.ownBlock] at hk; omega)⟩; have z3 : w.heap.size ≤ w3.heap.size := X3.out.2.size; clear ho2 hg2 hn2) | fail)
    obtain ⟨T, hT⟩ : ∃ T, T = L := ⟨_, rfl⟩
    rw [← hT]
    have X : Hid (OwnL 5 w3 w.heap.size (.slice (some ⟨g3, 0, none⟩) T.length c3) T ∧ AllB T ∧ T.length % 2 = 0 ∧ T.length ≤ 40 ∧ Below w.heap.size w w3) := by
      rw [hT]
      exact ⟨X3.out.1, X1.out.2.1, by omega, by omega, X3.out.2⟩
    clear X1 X3 hT tp hpar hL40 z3
    obtain ⟨N, hN⟩ : ∃ N, N = chk (fun j => T.getD j 0) T.length := ⟨_, rfl⟩
    have hnb := chk_bd (fun j => T.getD j 0) T.length (X.out.1.bytes X.out.2.1).1
    rw [← hN] at hnb
    obtain ⟨n0, n1⟩ := hnb
    have HN : Hid (N = chk (fun j => T.getD j 0) T.length) := hN
    clear hN
    have hT40 := X.out.2.2.2.1
    have HC : Hid (∀ (x : Option Addr) (c : Nat) (w0 : World), Bytes w0 x T.length (fun j => T.getD j 0) → Calls Try.prog 9 #[.slice x T.length c] w0 fun e w' => e = .returned (.int .i64 N) ∧ w' = w0) := by
      intro x c w0 hb
      rw [HN.out]; exact check16_any x T.length c _ w0 hb (by omega)
    have HCS : Hid (∀ (x : Option Addr) (c : Nat) (w0 : World), Bytes w0 x T.length (fun j => T.getD j 0) → Calls Try.prog 11 #[.slice x T.length c] w0 fun e w' => e = .returned (.int .i64 N) ∧ w' = w0) := by
      intro x c w0 hb
      rw [HN.out]; exact specCheck16_any x T.length c _ w0 hb (by omega)
    refine (HC.out _ _ _ (X.out.1.bytes X.out.2.1)).mono ?_
    rintro e w3' ⟨rfl, hw⟩
    subst hw
    go_wp2_with fail
    have HNB : Calls Try.prog 10 #[.int .i64 N, .int .i64 2] w3' (fun e w' => e = .returned (.tuple #[.slice (some ⟨w3'.heap.size, 0, none⟩) 2 2, .int .i64 0]) ∧ Fill w3' w' 2 2 (nb N 2)) := numberBytes_yes N 2 w3' (by omega) (by omega) n0 (by simp; omega) (by omega)
    refine HNB.mono ?_
    clear HNB
    rintro e w4 ⟨rfl, hf4⟩
    have F4 : Hid (Fill w3' w4 2 2 (nb N 2)) := hf4
    clear hf4
    have z3 := X.out.2.2.2.2.size
    have z4 := F4.out.2.1
    have tN : (N != N) = false := by simp
    have Xb : Hid (Bytes w4 (some ⟨g3, 0, none⟩) T.length (fun j => T.getD j 0) ∧ OwnL 5 w4 w.heap.size (.slice (some ⟨g3, 0, none⟩) T.length c3) T ∧ Below w.heap.size w w4) :=
      ⟨(X.out.1.bytes X.out.2.1).below F4.out.1 (fun b off _ e => by cases e; exact X.out.1.lt.2), OwnL.below X.out.1 F4.out.1 (by intro q hq; cases hq; exact X.out.1.lt.2), X.out.2.2.2.2.trans (F4.out.1.mono z3)⟩
    go_wp2_with fail
    refine (HCS.out _ _ _ Xb.out.1).mono ?_
    rintro e w4' ⟨rfl, hw⟩
    subst hw
    have cF : Hid (∀ j u, [Value.int .u8 (nb N 2 0), Value.int .u8 (nb N 2 1)][j]? = some u → w4'.cell? ((⟨w3'.heap.size, 0, none⟩ : Addr).add j) = some u) := by
      intro j u hu
      have ea : (⟨w3'.heap.size, 0, none⟩ : Addr).add j = ⟨w3'.heap.size, j, none⟩ := by unfold Addr.add; split <;> simp_all
      rw [ea]
      match j, hu with
      | 0, hu => simp at hu; subst hu; exact F4.out.2.2.2.2 0 (by omega)
      | 1, hu => simp at hu; subst hu; exact F4.out.2.2.2.2 1 (by omega)
      | (k + 2), hu => simp at hu
    go_wp2_with (first | (at_builtin; refine wpList_append_own _ rfl (.tmp 51) (.tmp 52) 22 rfl w4'.heap.size 5 i0 (.int .u8 0) 1 1 Try.underlying22 hi hz0 hz1 hz2 rfl (by decide) (.slice (some ⟨w4'.heap.size, 0, none⟩) 0 0) 0 [] rfl (World.ownsRow_made w4' #[] 0 (Nat.le_refl _) (Nat.zero_le _) rfl) ⟨g3, 0, none⟩ T.length c3 (T.map (.int .u8)) rfl (by simp) (World.ownsRow.cells (World.ownsRow.alloc Xb.out.2.1 _) rfl) (ones T) (by unfold maxLen; omega) (by omega) (by simp) ?_; intro v6 w6 ho6 hg6 hn6; obtain ⟨g6, c6, rfl⟩ := own_form ho6 (fun e => by have := hn6.1 e; simp at this); rw [Nat.zero_add]; have X6 : Hid (OwnL 5 w6 w4'.heap.size (.slice (some ⟨g6, 0, none⟩) T.length c6) T ∧ Below w4'.heap.size w4' w6) := ⟨by simpa [OwnL] using ho6, ((Below.refl _ _).alloc (Nat.le_refl _) _).grown hg6 (by simp) (by intro k hk; simp [Value.ownBlock] at hk; omega)⟩; have z6 : w4'.heap.size ≤ w6.heap.size := X6.out.2.size; clear ho6 hg6 hn6) | (at_builtin; refine wpList_append_lies _ rfl (.tmp 53) (.tmp 54) 22 rfl w4'.heap.size 5 i0 (.int .u8 0) 1 1 Try.underlying22 hi hz0 hz1 hz2 rfl (by decide) (.slice (some ⟨g6, 0, none⟩) T.length c6) T.length (T.map (.int .u8)) rfl X6.out.1 ⟨w3'.heap.size, 0, none⟩ 2 2 [.int .u8 (nb N 2 0), .int .u8 (nb N 2 1)] rfl rfl (cells_on cF.out X6.out.2 z4) (by simp [Value.oneCell']) (by omega) (by unfold maxLen; omega) (by omega) z6 _ rfl ?_; intro g7 c7 w7 ho7 hg7 hat7 hlt7; have X7 : Hid (OwnL 5 w7 w4'.heap.size (.slice (some ⟨g7, 0, none⟩) (T.length + 2) c7) (T ++ [nb N 2 0, nb N 2 1]) ∧ Below w4'.heap.size w4' w7) := ⟨OwnL.more (M := [nb N 2 0, nb N 2 1]) ho7, X6.out.2.grown hg7 z6 (fun q hq => (World.ownsRow.lt X6.out.1 q hq).1)⟩; clear ho7 hg7 hat7 hlt7) | fail)
    have hFLn : (T ++ [nb N 2 0, nb N 2 1]).length = T.length + 2 := by simp
    have hFLb : AllB (T ++ [nb N 2 0, nb N 2 1]) := by
      intro y hy
      rcases List.mem_append.1 hy with h1 | h1
      · exact X.out.2.1 y h1
      · simp at h1
        rcases h1 with h1 | h1 <;> (subst h1; exact nb_bd _ _ _)
    obtain ⟨FL, hFL⟩ : ∃ FL, FL = T ++ [nb N 2 0, nb N 2 1] := ⟨_, rfl⟩
    rw [← hFL] at hFLn hFLb
    have hz : chk (fun j => FL.getD j 0) (T.length + 2) = 0 := by
      refine chk_full (fun j => FL.getD j 0) (fun j => T.getD j 0) T.length X.out.2.2.1 (X.out.1.bytes X.out.2.1).1 (fun j hj => ?_) ?_ ?_
      · show FL.getD j 0 = T.getD j 0
        rw [hFL]; simp [List.getD, List.getElem?_append_left hj]
      · show FL.getD T.length 0 = _
        rw [← HN.out, hFL]; simp [List.getD, nb]
      · show FL.getD (T.length + 1) 0 = _
        rw [← HN.out, hFL]; simp [List.getD, nb]
    have XF : Hid (OwnL 5 w7 w4'.heap.size (.slice (some ⟨g7, 0, none⟩) FL.length c7) FL ∧ AllB FL ∧ FL.length = T.length + 2 ∧ chk (fun j => FL.getD j 0) (T.length + 2) = 0 ∧ Below w.heap.size w w7 ∧ w4'.heap.size ≤ w7.heap.size) := by
      refine ⟨?_, hFLb, hFLn, hz, Xb.out.2.2.trans (X7.out.2.mono (by have := Xb.out.2.2.size; omega)), X7.out.2.size⟩
      rw [hFLn, hFL]; exact X7.out.1
    clear hFLn hFLb hFL hz X7
    rw [← XF.out.2.2.1]
    have hF42 : FL.length ≤ 42 := by have := XF.out.2.2.1; omega
    have hF2 : 2 ≤ FL.length := by have := XF.out.2.2.1; omega
    have HZ : Hid (∀ (x : Option Addr) (c : Nat) (w0 : World), Bytes w0 x FL.length (fun j => FL.getD j 0) → Calls Try.prog 9 #[.slice x FL.length c] w0 fun e w' => e = .returned (.int .i64 0) ∧ w' = w0) := by
      intro x c w0 hb
      have := check16_any x FL.length c _ w0 hb (by omega)
      rw [XF.out.2.2.1, XF.out.2.2.2.1] at this
      rw [XF.out.2.2.1]
      exact this
    refine (HZ.out _ _ _ (XF.out.1.bytes XF.out.2.1)).mono ?_
    rintro e w7' ⟨rfl, hw⟩
    subst hw
    clear X6 z6 Xb F4 cF HC HCS X
    by_cases hN0 : N = 0
    · subst hN0
      go_wp2_with fail
      refine (HZ.out _ _ _ (XF.out.1.bytes XF.out.2.1)).mono ?_
      rintro e w8 ⟨rfl, hw⟩
      subst hw
      go_wp2
      go_ret
      exact ⟨rfl, XF.out.2.2.2.2.1⟩
    have tN0 : (N == 0) = false := by simp; omega
    go_wp2_with fail
    have HM : Hid (Bytes w7' a' len' f') := A2.out.1.below XF.out.2.2.2.2.1 A2.out.2
    have HAT : Calls Try.prog 12 #[.slice a' len' cap', .int .i64 0, .int .i64 (FL.length : Int)] w7' (fun e w' => ∃ v : Int, e = .returned (.int .i64 v) ∧ 0 ≤ v ∧ v < (FL.length : Int) ∧ ∃ k, w' = w7'.drewN k) := at_any w7' a' len' cap' f' 0 (FL.length : Int) HM.out hl' (by omega) (by omega) (by omega)
    refine HAT.mono ?_
    clear HAT
    rintro e w8 ⟨k, rfl, k0, k1, kk, hw⟩
    subst hw
    obtain ⟨K, rfl⟩ := Int.eq_ofNat_of_zero_le k0
    have XFd : Hid (OwnL 5 (w7'.drewN kk) w4'.heap.size (.slice (some ⟨g7, 0, none⟩) FL.length c7) FL) := XF.out.1
    go_wp2_with (first | (at_builtin; refine wpList_append_own _ rfl (.tmp 70) (.tmp 71) 22 rfl w7'.heap.size 5 i0 (.int .u8 0) 1 1 Try.underlying22 hi hz0 hz1 hz2 rfl (by decide) (.slice (some ⟨w7'.heap.size, 0, none⟩) 0 0) 0 [] rfl (World.ownsRow_made (w7'.drewN kk) #[] 0 (Nat.le_refl _) (Nat.zero_le _) rfl) ⟨g7, 0, none⟩ FL.length c7 (FL.map (.int .u8)) rfl (by simp) (World.ownsRow.cells (World.ownsRow.alloc XFd.out _) rfl) (ones FL) (by unfold maxLen; omega) (by omega) (by simp) ?_; intro v9 w9 ho9 hg9 hn9; obtain ⟨g9, c9, rfl⟩ := own_form ho9 (fun e => by have := hn9.1 e; simp at this); rw [Nat.zero_add]) | fail)
    have bd : Below w7'.heap.size w7' (w7'.drewN kk) := ⟨rfl, rfl, rfl, Nat.le_refl _, fun _ _ => rfl⟩
    have X9 : Hid (OwnL 5 w9 w7'.heap.size (.slice (some ⟨g9, 0, none⟩) FL.length c9) FL ∧ Below w7'.heap.size w7' w9) := ⟨by simpa [OwnL] using ho9, (bd.alloc (Nat.le_refl _) _).grown hg9 (by simp) (by intro k hk; simp [Value.ownBlock] at hk; omega)⟩
    clear bd
    clear ho9 hg9 hn9
    have z9 := X9.out.2.size
    have HM9 : Hid (Bytes w9 a' len' f') := A2.out.1.below (XF.out.2.2.2.2.1.trans (X9.out.2.mono XF.out.2.2.2.2.1.size)) A2.out.2
    have hcK : w9.cell? ⟨g9, K, none⟩ = some (.int .u8 (FL.getD K 0)) := by
      obtain ⟨b, off, e, hc⟩ := (X9.out.1.bytes XF.out.2.1).2 (by omega)
      cases e
      have := hc K (by omega)
      rwa [Nat.zero_add] at this
    have hfK : w9.frozen? ⟨g9, K, none⟩ = false := X9.out.1.free K
    obtain ⟨x, hx⟩ : ∃ x, x = FL.getD K 0 := ⟨_, rfl⟩
    have hxb := (X9.out.1.bytes XF.out.2.1).1 K
    have hx0 : 0 ≤ x := by rw [hx]; exact hxb.1
    have hx1 : x ≤ 255 := by rw [hx]; exact hxb.2
    rw [← hx] at hcK
    have HX : Hid (x = FL.getD K 0) := hx
    clear hx hxb
    have HAT : Hid (∀ w0 : World, Bytes w0 a' len' f' → Calls Try.prog 12 #[.slice a' len' cap', .int .i64 1, .int .i64 8] w0 (fun e w' => ∃ v : Int, e = .returned (.int .i64 v) ∧ 0 ≤ v ∧ v < 8 ∧ ∃ k, w' = w0.drewN k)) := fun w0 hb => at_any w0 a' len' cap' f' 1 8 hb hl' (by omega) (by omega) (by omega)
    have kI0 : (0 : Int) ≤ (K : Int) := by omega
    have kI1 : (K : Int) < (FL.length : Int) := by omega
    go_region_with (go_at_call 12; refine (HAT.out _ ?_).mono ?_; exact HM9.out; rintro e w10 ⟨v, rfl, v0, v1, kv, rfl⟩)
    all_goals
      obtain ⟨y0, y1, y2, y3, y4⟩ := xor_bit x v hx0 hx1 v0 v1
      obtain ⟨y, hy⟩ : ∃ y, y = bits BinOp.xor IntKind.u8 x (IntKind.u8.wrap (2 ^ min (IntKind.u64.wrap v).toNat 8)) := ⟨_, rfl⟩
      rw [← hy] at y0 y1 y2 y3 y4 ⊢
      have HB9 : Hid (∃ R : Int, R ≠ 0 ∧ ∀ n : Nat, Calls Try.prog 9 #[.slice (some ⟨g9, 0, none⟩) FL.length c9] ((w9.drewN n).setCell ⟨g9, K, none⟩ (.int .u8 y)) fun e w' => e = .returned (.int .i64 R) ∧ w' = (w9.drewN n).setCell ⟨g9, K, none⟩ (.int .u8 y)) := by
        refine ⟨chk (fun j => if j = K then y else FL.getD j 0) FL.length, ?_, fun n => check16_any (some ⟨g9, 0, none⟩) FL.length c9 _ _ ⟨fun k => ?_, fun h0 => ⟨g9, 0, rfl, fun i hi => ?_⟩⟩ (by omega)⟩
        · refine chk_turned (fun j => FL.getD j 0) _ K FL.length (by omega) (X9.out.1.bytes XF.out.2.1).1 (fun j => ?_) (fun j hj => if_neg hj) (by rw [XF.out.2.2.1]; exact XF.out.2.2.2.1) ?_ ?_ ?_
          · show 0 ≤ (if j = K then y else FL.getD j 0) ∧ (if j = K then y else FL.getD j 0) ≤ 255
            by_cases e : j = K
            · rw [if_pos e]; exact ⟨y3, y4⟩
            · rw [if_neg e]; exact (X9.out.1.bytes XF.out.2.1).1 j
          · show (if K = K then y else FL.getD K 0) - FL.getD K 0 ≠ 0
            rw [if_pos rfl, ← HX.out]; exact y0
          · show -128 ≤ (if K = K then y else FL.getD K 0) - FL.getD K 0
            rw [if_pos rfl, ← HX.out]; exact y1
          · show (if K = K then y else FL.getD K 0) - FL.getD K 0 ≤ 128
            rw [if_pos rfl, ← HX.out]; exact y2
        · show 0 ≤ (if k = K then y else FL.getD k 0) ∧ (if k = K then y else FL.getD k 0) ≤ 255
          by_cases e : k = K
          · rw [if_pos e]; exact ⟨y3, y4⟩
          · rw [if_neg e]; exact (X9.out.1.bytes XF.out.2.1).1 k
        · rw [Nat.zero_add]
          show ((w9.drewN n).setCell ⟨g9, K, none⟩ (.int .u8 y)).cell? ⟨g9, i, none⟩ = some (Value.int .u8 (if i = K then y else FL.getD i 0))
          by_cases e : i = K
          · rw [if_pos e, e]; exact World.cell?_setCell_same _ _ _ hcK
          · rw [if_neg e, World.cell?_setCell_other _ _ _ _ (fun hh => e (Addr.mk.inj hh).2.1.symm)]
            obtain ⟨b, off, ee, hc⟩ := (X9.out.1.bytes XF.out.2.1).2 h0
            cases ee
            have := hc i hi
            rwa [Nat.zero_add] at this
      have hy' : Hid (y = bits BinOp.xor IntKind.u8 x (IntKind.u8.wrap (2 ^ min (IntKind.u64.wrap v).toNat 8))) := hy
      clear hy y0 y1 y2
      go_wp2_with fail
      obtain ⟨R, hR, hcall⟩ := HB9.out
      refine (hcall _).mono ?_
      clear hcall
      have hRb : (R != 0) = true := by simp; exact hR
      rintro e w11 ⟨rfl, hw⟩
      subst hw
      go_wp2
      go_ret
      have b9 : Below w.heap.size w w9 := XF.out.2.2.2.2.1.trans (X9.out.2.mono XF.out.2.2.2.2.1.size)
      have g9l := X9.out.1.lt.1
      have b7 := XF.out.2.2.2.2.1.size
      exact ⟨rfl, Below.setCell (w := w9.drewN _) ⟨b9.os, b9.tape, b9.output, b9.size, b9.block⟩ (p := ⟨g9, K, none⟩) (by show w.heap.size ≤ g9; omega) _⟩

theorem lawCheck_long (w : World) (a : Option Addr) (len cap : Nat) (a' : Option Addr) (len' cap' : Nat) (h : 1048576 < len ∨ 1048576 < len') :
    Calls Try.prog 3 #[.slice a len cap, .slice a' len' cap'] w fun e w' => e = .returned (.bool true) ∧ Below w.heap.size w w' := by
  by_cases h1 : 1048576 < len
  · have t1 : decide ((1048576 : Int) < (len : Int)) = true := by simp; omega
    go_enter Try.func3, Try.ntmps3
    go_wp2
    go_ret
    exact ⟨rfl, Below.refl _ _⟩
  · have t1 : decide ((1048576 : Int) < (len : Int)) = false := by simp; omega
    have t2 : decide ((1048576 : Int) < (len' : Int)) = true := by simp; omega
    go_enter Try.func3, Try.ntmps3
    go_wp2
    go_ret
    exact ⟨rfl, Below.refl _ _⟩
end Go.Proofs.Ytpcjdfponkopaaa
