/- DnsBytes, the program: a question's bytes. -/
import Derived.Test.YtfcdobicilediaaDoorDnsB
import Derived.Test.YtfcdobicilediaaDoorZeros
import Derived.Test.YtfcdobicilediaaDoorTests
namespace Go.Proofs.YtfcdobicilediaaDoor
open Go.RowKit Go.PlainAid
set_option linter.unusedVariables false
set_option maxRecDepth 20000

theorem wpl_appG (w : World) {ops : Array Oper} {rest : List Oper} {o : Oper} {a : Act} {Q : Exit → Act → World → Prop} (hgd : o.guard = none) (s x : Operand)
    (ho : o.op = .call { callee := .builtin .append, args := #[s, x], argTypes := #[22, 22] })
    (B : Nat) (v : Value) (L : List Int) (hs : a.eval s = v) (hown : OwnL 5 w B v L)
    (ad : Addr) (m c : Nat) (M : List Int) (hx : a.eval x = .slice (some ad) m c) (hl : M.length = m) (hnews : ∀ j u, (M.map (Value.int .u8))[j]? = some u → w.cell? (ad.add j) = some u)
    (hlen : L.length + m ≤ 1000000) (hB : B ≤ w.heap.size)
    (h : ∀ v' w', Hid (Laid w w' B v' (L ++ M) ∧ w.grownBy w' v.ownBlock) → wpList Tryd.prog ops Q rest (a.put o.dst v') w') : wpList Tryd.prog ops Q (o :: rest) a w := by
  obtain ⟨i0, hi, hz0, hz1, hz2⟩ := info_parts Tryd.infoB
  refine wpList_append_own w hgd s x 22 ho B 5 i0 (.int .u8 0) 1 1 Tryd.underlying22 hi hz0 hz1 hz2 rfl (by decide) v L.length (L.map (Value.int .u8)) hs hown ad m c (M.map (Value.int .u8)) hx (by simp [hl]) hnews
    (by intro u hu; obtain ⟨j, -, rfl⟩ := List.mem_map.1 hu; rfl) (by unfold maxLen; omega) (by omega) hB ?_
  intro v' w' h1 h2 _
  exact h v' w' ⟨⟨OwnL.more (by rw [hl]; exact h1), grown_below hown hB h2⟩, h2⟩
theorem wpl_strG (w : World) {ops : Array Oper} {rest : List Oper} {o : Oper} {a : Act} {Q : Exit → Act → World → Prop} (hgd : o.guard = none) (sl x : Operand)
    (ho : o.op = .call { callee := .builtin .append, args := #[sl, x], argTypes := #[22, 9] })
    (B : Nat) (v : Value) (L : List Int) (hs : a.eval sl = v) (hown : OwnL 5 w B v L) (s : ByteArray) (hx : a.eval x = .string s)
    (hlen : L.length + s.size ≤ 1000000) (hB : B ≤ w.heap.size)
    (h : ∀ v' w', Hid (Laid w w' B v' (L ++ nums s) ∧ w.grownBy w' v.ownBlock) → wpList Tryd.prog ops Q rest (a.put o.dst v') w') : wpList Tryd.prog ops Q (o :: rest) a w := by
  obtain ⟨i0, hi, hz0, hz1, hz2⟩ := info_parts Tryd.infoB
  refine Lib.wpList_append_own_string w hgd sl x 22 9 ho B 5 i0 Tryd.underlying22 Tryd.underlying9 hi hz0 hz1 hz2 v L.length (L.map (Value.int .u8)) hs hown s hx (by unfold maxLen; omega) (by omega) hB ?_
  intro v' w' h1 h2 _
  exact h v' w' ⟨⟨OwnL.more (by rw [nums_len, ← strCells_nums]; exact h1), grown_below hown hB h2⟩, h2⟩
/-- The parts lie where they lay, where the row that grew is another one. -/
theorem strAt_grown {w w' : World} {g : Nat} {s : ByteArray} {r : Option Nat} (h : StrAt w g s) (hg : w.grownBy w' r) (hl : g < w.heap.size) (hne : r ≠ some g) : StrAt w' g s := fun i hi => by
  exact hg.cell (h i hi) (fun e => hne e.symm)

theorem szs_le20 (s : ByteArray) : ∀ k, k ≤ 8 → (∀ j, j < (pcs s).length → (piece s j).size ≤ 20) → szs s k ≤ 160 := fun k hk h => by
  have : ∀ k, szs s k ≤ 20 * k := fun k => by
    induction k with
    | zero => simp [szs]
    | succ k ih =>
      have hp : (piece s k).size ≤ 20 := by
        by_cases hk : k < (pcs s).length
        · exact h k hk
        · unfold piece; rw [List.getD_eq_getElem?_getD, List.getElem?_eq_none (by omega)]; show (ByteArray.mk #[]).size ≤ 20; decide
      simp only [szs]
      omega
  have := this k
  omega
theorem own_ne {w : World} {B g : Nat} {v : Value} {L : List Int} {s : ByteArray} (h : OwnL 5 w B v L) (h0 : 0 < L.length) (hs : StrAt w g s) : v.ownBlock ≠ some g := fun e => by
  have h1 := World.ownsRow.cells h (g := g) e 0 (.int .u8 (L.getD 0 0)) (by simp [h0])
  have ea : (⟨g, 0, none⟩ : Addr).add 0 = ⟨g, 0, none⟩ := by unfold Addr.add; split <;> simp_all
  rw [ea, hs 0 (pcs_pos s)] at h1
  cases h1
theorem own_now {w w' : World} {B : Nat} {v : Value} {L : List Int} (h : OwnL 5 w B v L) (hb : Below w.heap.size w w') : OwnL 5 w' B v L := by
  have hn := World.ownsRow.lt h
  refine ⟨h.1, ?_⟩
  rcases h.2 with h' | ⟨g, cap, cur, h1, hB, hg, h4⟩
  · exact .inl h'
  · exact .inr ⟨g, cap, cur, h1, hB, by rw [hb.block _ (hn g (by rw [h1]; rfl)).2]; exact hg, h4⟩
theorem own_nil (w : World) (B : Nat) : OwnL 5 w B (.slice none 0 0) [] := ⟨rfl, .inl ⟨rfl, rfl⟩⟩

set_option maxHeartbeats 4000000 in
theorem dnsBytes_yes (idn ty : Int) (ans : Bool) (s : ByteArray) (m : Int) (w : World) (h1 : 0 ≤ idn ∧ idn ≤ 65535) (h2 : 0 ≤ ty ∧ ty ≤ 65535) (hs : dnB s = true) (hm : w.cell? ⟨0, 0, none⟩ = some (.int .i64 m)) :
    Calls Tryd.prog 6 #[.agg #[.int .i64 idn, .int .i64 ty, .bool ans, .string s]] w fun e w' => ∃ v B, e = .returned (.tuple #[v, .int .i64 0]) ∧ OwnL 5 w' B v (dnsL idn ty ans s) ∧ w.heap.size ≤ B ∧ Below w.heap.size w w' := by
  obtain ⟨i0, i1⟩ := h1
  obtain ⟨t0, t1⟩ := h2
  have hs80 : s.size ≤ 80 := by
    rcases Nat.lt_or_ge 80 s.size with h | h
    · rw [dn_no_len h] at hs; cases hs
    · exact h
  have hn8 : (pcs s).length ≤ 8 := by
    rcases Nat.lt_or_ge 8 (pcs s).length with h | h
    · rw [dn_no_many h] at hs; cases hs
    · exact h
  have d1 := dec_y (show 0 ≤ idn ∧ idn ≤ 65535 from ⟨i0, i1⟩)
  have d2 := dec_y (show 0 ≤ ty ∧ ty ≤ 65535 from ⟨t0, t1⟩)
  have H1 : Hid (∀ wx, Calls Tryd.prog 22 #[.int .i64 idn, .int .i64 2] wx fun e w' => e = .returned (.bool true) ∧ w' = wx) := fun wx => d1 ▸ hasRoom2 idn wx (by omega)
  have H2 : Hid (∀ wx, Calls Tryd.prog 22 #[.int .i64 ty, .int .i64 2] wx fun e w' => e = .returned (.bool true) ∧ w' = wx) := fun wx => d2 ▸ hasRoom2 ty wx (by omega)
  have H3 : Hid (∀ wx, Below w.heap.size w wx → Calls Tryd.prog 14 #[.string s] wx fun e w' => e = .returned (.bool true) ∧ Below wx.heap.size wx w') := fun wx hb => hs ▸ dnsNameOK_any s m wx (by omega) (by rw [hb.cell (World.block_lt_of_cell? w _ hm)]; exact hm)
  have H4 : Hid (∀ wx, Below w.heap.size w wx → Calls Tryd.prog 24 #[.string s, .string ⟨#[46]⟩] wx fun e w' => e = .returned (.slice (some ⟨wx.heap.size, 0, none⟩) (pcs s).length (pcs s).length) ∧ StrAt w' wx.heap.size s ∧ Below wx.heap.size wx w') := fun wx hb => split_any s m wx (by omega) (by rw [hb.cell (World.block_lt_of_cell? w _ hm)]; exact hm)
  have K0 : Hid (Boxed (w.alloc (.cells #[.int .i64 idn, .int .i64 ty, .bool ans, .string s] 24)) w.heap.size [.int .i64 idn, .int .i64 ty, .bool ans, .string s]) := Boxed.new w _ _
  have hpl : ∀ j, j < (pcs s).length → (piece s j).size ≤ 20 := fun j hj => by
    unfold dnB at hs
    have h := (of_decide_eq_true hs).2.2 j hj
    unfold labB at h
    exact (of_decide_eq_true h).2.1
  clear hm d1 d2 hs
  go_enter Tryd.func6, Tryd.ntmps6
  go_wp2_with fail
  refine (H1.out _).mono ?_
  rintro e wt ⟨rfl, hwt⟩
  subst hwt
  go_wp2_with fail
  refine (H2.out _).mono ?_
  rintro e wt ⟨rfl, hwt⟩
  subst hwt
  go_wp2_with fail
  -- NAME
  refine (H3.out _ ((Below.refl _ _).alloc (Nat.le_refl _) _)).mono ?_
  rintro e w2 ⟨rfl, b2⟩
  have X2 : Hid (Boxed w2 w.heap.size [.int .i64 idn, .int .i64 ty, .bool ans, .string s] ∧ Below w.heap.size w w2 ∧ w.heap.size < w2.heap.size) := ⟨K0.out.below b2 (by simp), ((Below.refl _ _).alloc (Nat.le_refl _) _).trans (b2.mono (by simp)), by have := b2.size; simp at this; omega⟩
  have hsl : Hid (∀ j, j < (pcs s).length → (piece s j).size ≤ 20) := hpl
  clear b2 K0 H1 H2 H3 hpl
  cases ans
  · obtain ⟨B, hBe⟩ : ∃ B, B = w2.heap.size := ⟨_, rfl⟩
    have hB2 : B ≤ w2.heap.size := by omega
    have hwB : w.heap.size < B := by have := X2.out.2.2; omega
    clear hBe
    have c0 := X2.out.1.at 0 _ rfl
    have c2 := X2.out.1.at 2 _ rfl
    go_wp2_with fail
    refine (addNum (.slice none 0 0) [] idn 2 w2 B (own_nil w2 B) hB2 (by omega) (by omega) i0 (by omega) (by omega) (by simp)).mono ?_
    rintro e w3 ⟨v3, rfl, Y3⟩
    have z3 := Y3.out.below.size
    clear c0 c2
    go_wp2_with fail
    refine (addNum v3 _ 256 2 w3 B Y3.out.own (by omega) (by omega) (by omega) (by omega) (by omega) (by omega) (by simp [nbl_len])).mono ?_
    rintro e w4 ⟨v4, rfl, Y4⟩
    have z4 := Y4.out.below.size
    go_wp2_with fail
    refine (addNum v4 _ 1 2 w4 B Y4.out.own (by omega) (by omega) (by omega) (by omega) (by omega) (by omega) (by simp [nbl_len])).mono ?_
    rintro e w5 ⟨v5, rfl, Y5⟩
    have z5 := Y5.out.below.size
    obtain ⟨L5, hL5⟩ : ∃ L, L = [] ++ nbl idn 2 ++ nbl 256 2 ++ nbl 1 2 := ⟨_, rfl⟩
    have l5 : L5.length = 6 := by rw [hL5]; simp [nbl_len]
    have O5 : Hid (OwnL 5 w5 B v5 L5) := by rw [hL5]; exact Y5.out.own
    have HL5 : Hid (L5 = [] ++ nbl idn 2 ++ nbl 256 2 ++ nbl 1 2) := hL5
    clear hL5
    have B5 : Hid (Below B w2 w5) := (Y3.out.below.trans Y4.out.below).trans Y5.out.below
    clear Y3 Y4 Y5
    obtain ⟨g5, c5, cur5, hv5, _⟩ := O5.out.form (by omega)
    rw [l5] at hv5
    subst hv5
    go_wp2_with (at_builtin; refine wpl_zer _ rfl rfl _ _ rfl B _ L5 rfl O5.out l5 rfl (by omega) ?_)
    intro v6 w6 Y6
    have z6 := Y6.out.below.size
    obtain ⟨L6, hL6⟩ : ∃ L, L = L5 ++ List.replicate 6 0 := ⟨_, rfl⟩
    have l6 : L6.length = 12 := by rw [hL6]; simp [l5]
    have X6 : Hid (OwnL 5 w6 B v6 L6 ∧ Below B w2 w6) := ⟨by rw [hL6]; exact Y6.out.own, B5.out.trans Y6.out.below⟩
    have HL6 : Hid (L6 = L5 ++ List.replicate 6 0) := hL6
    clear Y6 O5 B5 hL6
    have C6 : Hid (Below w.heap.size w w6) := X2.out.2.1.trans (X6.out.2.mono (by omega))
    have b3 := (X2.out.1.below X6.out.2 (by omega)).at 3 _ rfl
    go_wp2_with fail
    refine (H4.out _ C6.out).mono ?_
    rintro e w7 ⟨rfl, s7, b7⟩
    obtain ⟨n, hn⟩ : ∃ n, n = (pcs s).length := ⟨_, rfl⟩
    obtain ⟨g7, hg7⟩ : ∃ g, g = w6.heap.size := ⟨_, rfl⟩
    rw [← hn, ← hg7]
    have HN : Hid (n = (pcs s).length) := hn
    have hnn : n ≤ 8 := by omega
    have X7 : Hid (OwnL 5 w7 B v6 (L6 ++ labsL s 0) ∧ Below B w2 w7 ∧ StrAt w7 g7 s ∧ g7 < w7.heap.size) := by
      have hlt : w6.heap.size < w7.heap.size := World.block_lt_of_cell? w7 _ (s7 0 (pcs_pos s))
      refine ⟨?_, X6.out.2.trans (b7.mono (by omega)), by rw [hg7]; exact s7, by rw [hg7]; exact hlt⟩
      rw [show L6 ++ labsL s 0 = L6 from List.append_nil L6]
      exact own_now X6.out.1 b7
    have HL : Hid (∀ k, k ≤ n → (labsL s k).length ≤ 200) := fun k hk => by
      have h1 := labsL_len s k
      have h2 : szs s k ≤ 160 := szs_le20 s k (by omega) hsl.out
      omega
    clear b7 s7 hg7 X6 C6 b3 hn
    go_wp2
    go_loopw [5, 43] (fun v i wr => ∃ k : Nat, k ≤ n ∧ i = .int .i64 k ∧ Hid (OwnL 5 wr B v (L6 ++ labsL s k) ∧ Below B w2 wr ∧ StrAt wr g7 s ∧ g7 < wr.heap.size)) (fun _ i _ => n - (intOf i).toNat)
    case atStart => exact ⟨0, Nat.zero_le _, rfl, X7⟩
    case round =>
      obtain ⟨k, hk, rfl, X⟩ := hrel
      have hBw : B ≤ wr.heap.size := by have := X.out.2.1.size; omega
      by_cases hlt : k < n
      · have hltz : (k : Int) < (n : Int) := by omega
        have hc := X.out.2.2.1 k (by rw [← HN.out]; exact hlt)
        have hpz := piece_size s k
        have hll := HL.out k (by omega)
        have EL : Hid (L6 ++ labsL s (k + 1) = L6 ++ labsL s k ++ [((piece s k).size : Int)] ++ nums (piece s k)) := by show _ = _; simp [labsL]
        obtain ⟨p, hp⟩ : ∃ p, p = piece s k := ⟨_, rfl⟩
        rw [← hp] at hc hpz EL
        clear hp
        have hwr : IntKind.u8.wrap (p.size : Int) = (p.size : Int) := by rw [IntKind.wrap_u8]; omega
        obtain ⟨M, hM⟩ : ∃ M, M = L6 ++ labsL s k := ⟨_, rfl⟩
        have lM : M.length = 12 + (labsL s k).length := by rw [hM, List.length_append, l6]
        rw [← hM] at EL
        have X : Hid (OwnL 5 wr B u5 M ∧ Below B w2 wr ∧ StrAt wr g7 s ∧ g7 < wr.heap.size) := by rw [hM]; exact X.out
        clear hM
        have XA : Hid (∀ o, OwnL 5 (wr.alloc o) B u5 M ∧ B ≤ (wr.alloc o).heap.size) := fun o => ⟨World.ownsRow.alloc X.out.1 o, by simp; omega⟩
        have N8 : Hid (Boxed (wr.alloc (.cells #[.int .u8 (p.size : Int)] 5)) wr.heap.size ([(p.size : Int)].map (Value.int .u8))) := Boxed.new wr _ _
        go_wp2_with (at_builtin; refine wpl_appG _ rfl _ _ rfl B _ _ rfl (XA.out _).1 ⟨wr.heap.size, 0, none⟩ 1 1 [(p.size : Int)] rfl rfl (news_row N8.out) (by omega) (XA.out _).2 ?_)
        intro v8 w8 Y8
        have hne : u5.ownBlock ≠ some g7 := own_ne X.out.1 (by omega) X.out.2.2.1
        obtain ⟨M2, hM2⟩ : ∃ M2, M2 = M ++ [(p.size : Int)] := ⟨_, rfl⟩
        have lM2 : M2.length = M.length + 1 := by rw [hM2, List.length_append]; rfl
        rw [← hM2] at EL
        have X8 : Hid (OwnL 5 w8 B v8 M2 ∧ Below B w2 w8 ∧ StrAt w8 g7 s ∧ g7 < w8.heap.size) := by
          refine ⟨by rw [hM2]; exact Y8.out.1.own, (X.out.2.1.alloc hBw _).trans Y8.out.1.below, strAt_grown (strAt_grown X.out.2.2.1 (World.grownBy_alloc wr _ none) X.out.2.2.2 (by simp)) Y8.out.2 (by simp; exact Nat.lt_succ_of_lt X.out.2.2.2) hne, ?_⟩
          have := Y8.out.1.below.size
          have h1 := Y8.out.2.size
          have h2 := X.out.2.2.2
          simp at h1
          omega
        clear Y8 X XA N8 hM2
        have hB8 : B ≤ w8.heap.size := by have := X8.out.2.1.size; omega
        go_wp2_with (at_builtin; refine wpl_strG _ rfl _ _ rfl B _ _ rfl X8.out.1 p rfl (by omega) hB8 ?_)
        intro v9 w9 Y9
        have hne : v8.ownBlock ≠ some g7 := own_ne X8.out.1 (by omega) X8.out.2.2.1
        have X9 : Hid (OwnL 5 w9 B v9 (L6 ++ labsL s (k + 1)) ∧ Below B w2 w9 ∧ StrAt w9 g7 s ∧ g7 < w9.heap.size) := by
          refine ⟨by rw [EL.out]; exact Y9.out.1.own, X8.out.2.1.trans Y9.out.1.below, strAt_grown X8.out.2.2.1 Y9.out.2 X8.out.2.2.2 hne, ?_⟩
          have h1 := Y9.out.2.size
          have h2 := X8.out.2.2.2
          omega
        clear Y9 X8 EL
        go_wp2
        go_roundw
        case rel => exact ⟨k + 1, by omega, by go_num, X9⟩
        case measure => simp [intOf]; omega
      · obtain rfl : k = n := by omega
        have hll := HL.out k (by omega)
        obtain ⟨M, hM⟩ : ∃ M, M = L6 ++ labsL s k := ⟨_, rfl⟩
        have lM : M.length = 12 + (labsL s k).length := by rw [hM, List.length_append, l6]
        have HM : Hid (M = L6 ++ labsL s k) := hM
        have X : Hid (OwnL 5 wr B u5 M ∧ Below B w2 wr) := by rw [hM]; exact ⟨X.out.1, X.out.2.1⟩
        clear hM
        have XA : Hid (∀ o, OwnL 5 (wr.alloc o) B u5 M ∧ B ≤ (wr.alloc o).heap.size) := fun o => ⟨World.ownsRow.alloc X.out.1 o, by simp; omega⟩
        have N8 : Hid (Boxed (wr.alloc (.cells #[.int .u8 0] 5)) wr.heap.size ([(0 : Int)].map (Value.int .u8))) := Boxed.new wr _ _
        go_wp2_with (at_builtin; refine wpl_app _ rfl _ _ rfl B _ _ rfl (XA.out _).1 ⟨wr.heap.size, 0, none⟩ 1 1 [(0 : Int)] rfl rfl (news_row N8.out) (by omega) (XA.out _).2 ?_)
        intro v8 w8 Y8
        have B8 : Hid (Below B w2 w8) := (X.out.2.alloc hBw _).trans Y8.out.below
        have z8 := B8.out.size
        have e1 := (X2.out.1.below B8.out (by omega)).at 1 _ rfl
        clear X XA N8
        go_wp2_with fail
        refine (addNum v8 _ ty 2 w8 B Y8.out.own (by omega) (by omega) (by omega) t0 (by omega) (by omega) (by simp; omega)).mono ?_
        rintro e w9 ⟨v9, rfl, Y9⟩
        have z9 := Y9.out.below.size
        clear e1
        go_wp2_with fail
        refine (addNum v9 _ 1 2 w9 B Y9.out.own (by omega) (by omega) (by omega) (by omega) (by omega) (by omega) (by simp [nbl_len]; omega)).mono ?_
        rintro e w10 ⟨v10, rfl, Y10⟩
        have FIN : Hid (OwnL 5 w10 B v10 (dnsL idn ty false s) ∧ Below B w2 w10) := by
          refine ⟨?_, (B8.out.trans Y9.out.below).trans Y10.out.below⟩
          have := Y10.out.own
          rw [HM.out, HL6.out, HL5.out] at this
          have hk' := HN.out
          simp only [dnsL]
          rw [← hk']
          simpa using this
        clear Y8 Y9 Y10 B8
        go_wp2
        go_ret2
        exact ⟨v10, B, rfl, FIN.out.1, by omega, X2.out.2.1.trans (FIN.out.2.mono (by omega))⟩
  · obtain ⟨B, hBe⟩ : ∃ B, B = w2.heap.size := ⟨_, rfl⟩
    have hB2 : B ≤ w2.heap.size := by omega
    have hwB : w.heap.size < B := by have := X2.out.2.2; omega
    clear hBe
    have c0 := X2.out.1.at 0 _ rfl
    have c2 := X2.out.1.at 2 _ rfl
    go_wp2_with fail
    refine (addNum (.slice none 0 0) [] idn 2 w2 B (own_nil w2 B) hB2 (by omega) (by omega) i0 (by omega) (by omega) (by simp)).mono ?_
    rintro e w3 ⟨v3, rfl, Y3⟩
    have z3 := Y3.out.below.size
    clear c0 c2
    go_wp2_with fail
    refine (addNum v3 _ 33152 2 w3 B Y3.out.own (by omega) (by omega) (by omega) (by omega) (by omega) (by omega) (by simp [nbl_len])).mono ?_
    rintro e w4 ⟨v4, rfl, Y4⟩
    have z4 := Y4.out.below.size
    go_wp2_with fail
    refine (addNum v4 _ 1 2 w4 B Y4.out.own (by omega) (by omega) (by omega) (by omega) (by omega) (by omega) (by simp [nbl_len])).mono ?_
    rintro e w5 ⟨v5, rfl, Y5⟩
    have z5 := Y5.out.below.size
    obtain ⟨L5, hL5⟩ : ∃ L, L = [] ++ nbl idn 2 ++ nbl 33152 2 ++ nbl 1 2 := ⟨_, rfl⟩
    have l5 : L5.length = 6 := by rw [hL5]; simp [nbl_len]
    have O5 : Hid (OwnL 5 w5 B v5 L5) := by rw [hL5]; exact Y5.out.own
    have HL5 : Hid (L5 = [] ++ nbl idn 2 ++ nbl 33152 2 ++ nbl 1 2) := hL5
    clear hL5
    have B5 : Hid (Below B w2 w5) := (Y3.out.below.trans Y4.out.below).trans Y5.out.below
    clear Y3 Y4 Y5
    obtain ⟨g5, c5, cur5, hv5, _⟩ := O5.out.form (by omega)
    rw [l5] at hv5
    subst hv5
    go_wp2_with (at_builtin; refine wpl_zer _ rfl rfl _ _ rfl B _ L5 rfl O5.out l5 rfl (by omega) ?_)
    intro v6 w6 Y6
    have z6 := Y6.out.below.size
    obtain ⟨L6, hL6⟩ : ∃ L, L = L5 ++ List.replicate 6 0 := ⟨_, rfl⟩
    have l6 : L6.length = 12 := by rw [hL6]; simp [l5]
    have X6 : Hid (OwnL 5 w6 B v6 L6 ∧ Below B w2 w6) := ⟨by rw [hL6]; exact Y6.out.own, B5.out.trans Y6.out.below⟩
    have HL6 : Hid (L6 = L5 ++ List.replicate 6 0) := hL6
    clear Y6 O5 B5 hL6
    have C6 : Hid (Below w.heap.size w w6) := X2.out.2.1.trans (X6.out.2.mono (by omega))
    have b3 := (X2.out.1.below X6.out.2 (by omega)).at 3 _ rfl
    go_wp2_with fail
    refine (H4.out _ C6.out).mono ?_
    rintro e w7 ⟨rfl, s7, b7⟩
    obtain ⟨n, hn⟩ : ∃ n, n = (pcs s).length := ⟨_, rfl⟩
    obtain ⟨g7, hg7⟩ : ∃ g, g = w6.heap.size := ⟨_, rfl⟩
    rw [← hn, ← hg7]
    have HN : Hid (n = (pcs s).length) := hn
    have hnn : n ≤ 8 := by omega
    have X7 : Hid (OwnL 5 w7 B v6 (L6 ++ labsL s 0) ∧ Below B w2 w7 ∧ StrAt w7 g7 s ∧ g7 < w7.heap.size) := by
      have hlt : w6.heap.size < w7.heap.size := World.block_lt_of_cell? w7 _ (s7 0 (pcs_pos s))
      refine ⟨?_, X6.out.2.trans (b7.mono (by omega)), by rw [hg7]; exact s7, by rw [hg7]; exact hlt⟩
      rw [show L6 ++ labsL s 0 = L6 from List.append_nil L6]
      exact own_now X6.out.1 b7
    have HL : Hid (∀ k, k ≤ n → (labsL s k).length ≤ 200) := fun k hk => by
      have h1 := labsL_len s k
      have h2 : szs s k ≤ 160 := szs_le20 s k (by omega) hsl.out
      omega
    clear b7 s7 hg7 X6 C6 b3 hn
    go_wp2
    go_loopw [5, 43] (fun v i wr => ∃ k : Nat, k ≤ n ∧ i = .int .i64 k ∧ Hid (OwnL 5 wr B v (L6 ++ labsL s k) ∧ Below B w2 wr ∧ StrAt wr g7 s ∧ g7 < wr.heap.size)) (fun _ i _ => n - (intOf i).toNat)
    case atStart => exact ⟨0, Nat.zero_le _, rfl, X7⟩
    case round =>
      obtain ⟨k, hk, rfl, X⟩ := hrel
      have hBw : B ≤ wr.heap.size := by have := X.out.2.1.size; omega
      by_cases hlt : k < n
      · have hltz : (k : Int) < (n : Int) := by omega
        have hc := X.out.2.2.1 k (by rw [← HN.out]; exact hlt)
        have hpz := piece_size s k
        have hll := HL.out k (by omega)
        have EL : Hid (L6 ++ labsL s (k + 1) = L6 ++ labsL s k ++ [((piece s k).size : Int)] ++ nums (piece s k)) := by show _ = _; simp [labsL]
        obtain ⟨p, hp⟩ : ∃ p, p = piece s k := ⟨_, rfl⟩
        rw [← hp] at hc hpz EL
        clear hp
        have hwr : IntKind.u8.wrap (p.size : Int) = (p.size : Int) := by rw [IntKind.wrap_u8]; omega
        obtain ⟨M, hM⟩ : ∃ M, M = L6 ++ labsL s k := ⟨_, rfl⟩
        have lM : M.length = 12 + (labsL s k).length := by rw [hM, List.length_append, l6]
        rw [← hM] at EL
        have X : Hid (OwnL 5 wr B u5 M ∧ Below B w2 wr ∧ StrAt wr g7 s ∧ g7 < wr.heap.size) := by rw [hM]; exact X.out
        clear hM
        have XA : Hid (∀ o, OwnL 5 (wr.alloc o) B u5 M ∧ B ≤ (wr.alloc o).heap.size) := fun o => ⟨World.ownsRow.alloc X.out.1 o, by simp; omega⟩
        have N8 : Hid (Boxed (wr.alloc (.cells #[.int .u8 (p.size : Int)] 5)) wr.heap.size ([(p.size : Int)].map (Value.int .u8))) := Boxed.new wr _ _
        go_wp2_with (at_builtin; refine wpl_appG _ rfl _ _ rfl B _ _ rfl (XA.out _).1 ⟨wr.heap.size, 0, none⟩ 1 1 [(p.size : Int)] rfl rfl (news_row N8.out) (by omega) (XA.out _).2 ?_)
        intro v8 w8 Y8
        have hne : u5.ownBlock ≠ some g7 := own_ne X.out.1 (by omega) X.out.2.2.1
        obtain ⟨M2, hM2⟩ : ∃ M2, M2 = M ++ [(p.size : Int)] := ⟨_, rfl⟩
        have lM2 : M2.length = M.length + 1 := by rw [hM2, List.length_append]; rfl
        rw [← hM2] at EL
        have X8 : Hid (OwnL 5 w8 B v8 M2 ∧ Below B w2 w8 ∧ StrAt w8 g7 s ∧ g7 < w8.heap.size) := by
          refine ⟨by rw [hM2]; exact Y8.out.1.own, (X.out.2.1.alloc hBw _).trans Y8.out.1.below, strAt_grown (strAt_grown X.out.2.2.1 (World.grownBy_alloc wr _ none) X.out.2.2.2 (by simp)) Y8.out.2 (by simp; exact Nat.lt_succ_of_lt X.out.2.2.2) hne, ?_⟩
          have := Y8.out.1.below.size
          have h1 := Y8.out.2.size
          have h2 := X.out.2.2.2
          simp at h1
          omega
        clear Y8 X XA N8 hM2
        have hB8 : B ≤ w8.heap.size := by have := X8.out.2.1.size; omega
        go_wp2_with (at_builtin; refine wpl_strG _ rfl _ _ rfl B _ _ rfl X8.out.1 p rfl (by omega) hB8 ?_)
        intro v9 w9 Y9
        have hne : v8.ownBlock ≠ some g7 := own_ne X8.out.1 (by omega) X8.out.2.2.1
        have X9 : Hid (OwnL 5 w9 B v9 (L6 ++ labsL s (k + 1)) ∧ Below B w2 w9 ∧ StrAt w9 g7 s ∧ g7 < w9.heap.size) := by
          refine ⟨by rw [EL.out]; exact Y9.out.1.own, X8.out.2.1.trans Y9.out.1.below, strAt_grown X8.out.2.2.1 Y9.out.2 X8.out.2.2.2 hne, ?_⟩
          have h1 := Y9.out.2.size
          have h2 := X8.out.2.2.2
          omega
        clear Y9 X8 EL
        go_wp2
        go_roundw
        case rel => exact ⟨k + 1, by omega, by go_num, X9⟩
        case measure => simp [intOf]; omega
      · obtain rfl : k = n := by omega
        have hll := HL.out k (by omega)
        obtain ⟨M, hM⟩ : ∃ M, M = L6 ++ labsL s k := ⟨_, rfl⟩
        have lM : M.length = 12 + (labsL s k).length := by rw [hM, List.length_append, l6]
        have HM : Hid (M = L6 ++ labsL s k) := hM
        have X : Hid (OwnL 5 wr B u5 M ∧ Below B w2 wr) := by rw [hM]; exact ⟨X.out.1, X.out.2.1⟩
        clear hM
        have XA : Hid (∀ o, OwnL 5 (wr.alloc o) B u5 M ∧ B ≤ (wr.alloc o).heap.size) := fun o => ⟨World.ownsRow.alloc X.out.1 o, by simp; omega⟩
        have N8 : Hid (Boxed (wr.alloc (.cells #[.int .u8 0] 5)) wr.heap.size ([(0 : Int)].map (Value.int .u8))) := Boxed.new wr _ _
        go_wp2_with (at_builtin; refine wpl_app _ rfl _ _ rfl B _ _ rfl (XA.out _).1 ⟨wr.heap.size, 0, none⟩ 1 1 [(0 : Int)] rfl rfl (news_row N8.out) (by omega) (XA.out _).2 ?_)
        intro v8 w8 Y8
        have B8 : Hid (Below B w2 w8) := (X.out.2.alloc hBw _).trans Y8.out.below
        have z8 := B8.out.size
        have e1 := (X2.out.1.below B8.out (by omega)).at 1 _ rfl
        clear X XA N8
        go_wp2_with fail
        refine (addNum v8 _ ty 2 w8 B Y8.out.own (by omega) (by omega) (by omega) t0 (by omega) (by omega) (by simp; omega)).mono ?_
        rintro e w9 ⟨v9, rfl, Y9⟩
        have z9 := Y9.out.below.size
        clear e1
        go_wp2_with fail
        refine (addNum v9 _ 1 2 w9 B Y9.out.own (by omega) (by omega) (by omega) (by omega) (by omega) (by omega) (by simp [nbl_len]; omega)).mono ?_
        rintro e w10 ⟨v10, rfl, Y10⟩
        have FIN : Hid (OwnL 5 w10 B v10 (dnsL idn ty true s) ∧ Below B w2 w10) := by
          refine ⟨?_, (B8.out.trans Y9.out.below).trans Y10.out.below⟩
          have := Y10.out.own
          rw [HM.out, HL6.out, HL5.out] at this
          have hk' := HN.out
          simp only [dnsL]
          rw [← hk']
          simpa using this
        clear Y8 Y9 Y10 B8
        go_wp2
        go_ret2
        exact ⟨v10, B, rfl, FIN.out.1, by omega, X2.out.2.1.trans (FIN.out.2.mono (by omega))⟩
end Go.Proofs.YtfcdobicilediaaDoor
