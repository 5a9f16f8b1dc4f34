/- FormText of both sides. -/
import Derived.Test.YtbpdfkngkkopbaaStrS
import Derived.Test.YtbpdfkngkkopbaaLawPr
import Derived.Test.YtbpdfkngkkopbaaEscW
namespace Go.Proofs.Ytbpdfkngkkopbaa
open Go.RowKit Go.PlainAid Go.Sort
set_option linter.unusedVariables false
set_option maxRecDepth 20000

/-- A pair told; whether it is right. -/
def pjS (p : PairV) : ByteArray := strOfNums (ess (bt p.ke) p.ke.size) ++ ⟨#[61]⟩ ++ strOfNums (ess (bt p.va) p.va.size)
def pjB (p : PairV) : Bool := (!(p.ke.toList == [])) && !decide ((40 : Int) < (p.ke.size : Int)) && !decide ((40 : Int) < (p.va.size : Int))
theorem pjB_bd {p : PairV} (h : pjB p = true) : p.ke.size ≤ 40 ∧ p.va.size ≤ 40 := by
  unfold pjB at h
  simp at h
  omega
theorem pjS_size {p : PairV} (h : pjB p = true) : (pjS p).size ≤ 241 := by
  have := pjB_bd h
  have h1 := ess_len (bt p.ke) p.ke.size
  have h2 := ess_len (bt p.va) p.va.size
  unfold pjS
  rw [ByteArray.size_append, ByteArray.size_append, strOfNums_size, strOfNums_size]
  show _ + 1 + _ ≤ _
  omega
def fmL (xs : List PairV) (k : Nat) : List ByteArray := (xs.take k).map pjS
theorem fmL_len (xs : List PairV) (k : Nat) (h : k ≤ xs.length) : (fmL xs k).length = k := by simp [fmL]; omega
theorem fmL_more {xs : List PairV} {k : Nat} {x : PairV} (hx : xs[k]? = some x) : fmL xs (k + 1) = fmL xs k ++ [pjS x] := by
  unfold fmL
  rw [takeS_next hx, List.map_append]
  rfl
/-- The first k are right. -/
def rgK (xs : List PairV) (k : Nat) : Prop := ∀ x, x ∈ xs.take k → pjB x = true
theorem rgK_more {xs : List PairV} {k : Nat} {x : PairV} (hx : xs[k]? = some x) (h : rgK xs k) (hp : pjB x = true) : rgK xs (k + 1) := by
  intro y hy
  rw [takeS_next hx] at hy
  rcases List.mem_append.1 hy with h1 | h1
  · exact h y h1
  · simp at h1
    rw [h1]; exact hp
theorem szT_fm (xs : List PairV) : ∀ k, rgK xs k → k ≤ xs.length → szT (fmL xs k) ≤ 241 * k
  | 0, _, _ => by simp [fmL, szT]
  | k + 1, h, hk => by
    have hx : xs[k]? = some (xs[k]'(by omega)) := List.getElem?_eq_getElem (by omega)
    have h1 : rgK xs k := fun y hy => h y (by rw [takeS_next hx]; exact List.mem_append_left _ hy)
    have ih := szT_fm xs k h1 (by omega)
    have h2 := pjS_size (h (xs[k]'(by omega)) (by rw [takeS_next hx]; exact List.mem_append_right _ (List.mem_singleton.2 rfl)))
    rw [fmL_more hx, szT_app]
    have e1 : szT [pjS (xs[k]'(by omega))] = (pjS (xs[k]'(by omega))).size := by simp [szT]
    omega
/-- What FormText answers. -/
def fmC (xs : List PairV) : Int := if 4096 < xs.length then 2 else if 8 < xs.length then 6 else if xs.all pjB = true then 0 else 4
def fmT (xs : List PairV) : ByteArray := if fmC xs = 0 then jnT (xs.map pjS) ⟨#[38]⟩ else ⟨#[]⟩
theorem fm_long {xs : List PairV} (h : 4096 < xs.length) : fmC xs = 2 ∧ fmT xs = ⟨#[]⟩ := by
  have e : fmC xs = 2 := by unfold fmC; rw [if_pos h]
  exact ⟨e, by unfold fmT; rw [e]; rfl⟩
theorem fm_many {xs : List PairV} (h : 8 < xs.length) (h2 : xs.length ≤ 4096) : fmC xs = 6 ∧ fmT xs = ⟨#[]⟩ := by
  have e : fmC xs = 6 := by unfold fmC; rw [if_neg (by omega), if_pos h]
  exact ⟨e, by unfold fmT; rw [e]; rfl⟩
theorem fm_no {xs : List PairV} {k : Nat} {x : PairV} (hx : xs[k]? = some x) (h : pjB x = false) (h2 : xs.length ≤ 8) : fmC xs = 4 ∧ fmT xs = ⟨#[]⟩ := by
  have hm : x ∈ xs := List.mem_of_getElem? hx
  have ha : ¬ (xs.all pjB = true) := by
    rw [List.all_eq_true]
    intro h3
    have := h3 x hm
    rw [h] at this
    cases this
  have e : fmC xs = 4 := by unfold fmC; rw [if_neg (by omega), if_neg (by omega), if_neg ha]
  exact ⟨e, by unfold fmT; rw [e]; rfl⟩
theorem fm_yes {xs : List PairV} (h : rgK xs xs.length) (h2 : xs.length ≤ 8) : fmC xs = 0 ∧ fmT xs = jnT (fmL xs xs.length) ⟨#[38]⟩ := by
  have ha : xs.all pjB = true := by
    rw [List.all_eq_true]
    intro x hx
    exact h x (by rw [List.take_length]; exact hx)
  have e : fmC xs = 0 := by unfold fmC; rw [if_neg (by omega), if_neg (by omega), if_pos ha]
  exact ⟨e, by unfold fmT fmL; rw [e, if_pos rfl, List.take_length]⟩
/-- What a region reads: a pair in memory. -/
def SP (b o : Nat) (ke va : ByteArray) (W wx : World) : Prop := wx.cell? ⟨b, o, none⟩ = some (.string ke) ∧ wx.cell? ⟨b, o + 1, none⟩ = some (.string va) ∧ KpB W wx
theorem SP.below {b o : Nat} {ke va : ByteArray} {W wx wy : World} (h : SP b o ke va W wx) (hb : Below wx.heap.size wx wy) : SP b o ke va W wy :=
  ⟨bkeep hb h.1, bkeep hb h.2.1, ⟨h.2.2.out.trans (hb.mono h.2.2.out.size)⟩⟩
theorem SP.row {b o g : Nat} {ke va : ByteArray} {W wx wy : World} (h : SP b o ke va W wx) (hg : wx.grownBy wy (some g)) (hb : Below W.heap.size wx wy) (hne : b ≠ g) : SP b o ke va W wy :=
  ⟨hg.cell (a := ⟨b, o, none⟩) h.1 (by simp; exact hne), hg.cell (a := ⟨b, o + 1, none⟩) h.2.1 (by simp; exact hne), ⟨h.2.2.out.trans hb⟩⟩

set_option maxHeartbeats 2000000 in
theorem specForm_big (a : Option Addr) (len cap : Nat) (xs : List PairV) (w : World) (hl : xs.length = len) (h : 8 < len) :
    Calls Try.prog 5 #[.slice a len cap] w fun e w' => e = .returned (.tuple #[.string (fmT xs), .int .i64 (fmC xs)]) ∧ Below w.heap.size w w' := by
  by_cases h4 : 4096 < len
  · have E := fm_long (xs := xs) (by omega)
    rw [E.1, E.2]
    have t1 : decide ((4096 : Int) < (len : Int)) = true := decide_eq_true (by omega)
    clear E hl h h4
    go_enter Try.func5, Try.ntmps5
    go_wp2
    go_ret2
    exact ⟨rfl, Below.refl _ _⟩
  · have E := fm_many (xs := xs) (by omega) (by omega)
    rw [E.1, E.2]
    have t1 : decide ((4096 : Int) < (len : Int)) = false := decide_eq_false (by omega)
    have t2 : decide ((8 : Int) < (len : Int)) = true := decide_eq_true (by omega)
    clear E hl h h4
    go_enter Try.func5, Try.ntmps5
    go_wp2
    go_ret2
    exact ⟨rfl, Below.refl _ _⟩
set_option maxHeartbeats 4000000 in
theorem specForm_few (a : Option Addr) (len cap : Nat) (xs : List PairV) (w : World) (h : Rw PrR 2 w a xs) (hl : xs.length = len) (h8 : len ≤ 8) :
    Calls Try.prog 5 #[.slice a len cap] w fun e w' => e = .returned (.tuple #[.string (fmT xs), .int .i64 (fmC xs)]) ∧ Below w.heap.size w w' := by
  have RW : Hid (Rw PrR 2 w a xs) := h
  have t1 : decide ((4096 : Int) < (len : Int)) = false := decide_eq_false (by omega)
  have t2 : decide ((8 : Int) < (len : Int)) = false := decide_eq_false (by omega)
  have ES : Hid (∀ (s : ByteArray) (w : World), s.size ≤ 40 → Calls Try.prog 10 #[.string s] w fun e w' => e = .returned (.string (strOfNums (ess (bt s) s.size))) ∧ Below w.heap.size w w') := fun s w h => l11Escape_any s w (by omega)
  have HN : Hid (∀ k x, xs[k]? = some x → pjB x = false → fmC xs = 4 ∧ fmT xs = ⟨#[]⟩) := fun k x hx hb => fm_no hx hb (by omega)
  have HY : Hid (rgK xs len → fmC xs = 0 ∧ fmT xs = jnT (fmL xs len) ⟨#[38]⟩) := fun hr => by rw [← hl] at hr ⊢; exact fm_yes hr (by omega)
  clear h
  generalize fmC xs = C at HN HY ⊢
  generalize fmT xs = T at HN HY ⊢
  have X0 : Hid (OwnS stG 1 9 (w.alloc (.cells #[] 9)) w.heap.size (.slice (some ⟨w.heap.size, 0, none⟩) 0 0) [] ∧ Below w.heap.size w (w.alloc (.cells #[] 9))) := ⟨OwnS.lit w _ (Nat.le_refl _), (Below.refl _ _).alloc (Nat.le_refl _) _⟩
  go_enter Try.func5, Try.ntmps5
  go_wp2
  go_loopw [4, 5] (fun v i wr => ∃ k : Nat, k ≤ len ∧ i = .int .i64 k ∧ (∃ g c, v = .slice (some ⟨g, 0, none⟩) k c) ∧ Hid (OwnS stG 1 9 wr w.heap.size v (fmL xs k) ∧ Below w.heap.size w wr ∧ rgK xs k)) (fun _ i _ => len - (intOf i).toNat)
  case atStart => exact ⟨0, Nat.zero_le _, rfl, ⟨_, _, rfl⟩, X0.out.1, X0.out.2, (fun x hx => by simp at hx)⟩
  case round =>
    obtain ⟨k, hk, rfl, ⟨gv, cv, rfl⟩, X⟩ := hrel
    clear X0
    by_cases hlt : k < len
    · obtain ⟨x, hx⟩ := at_of hl hlt
      have hltz : (k : Int) < (len : Int) := by omega
      obtain ⟨b, off, vs, rfl, hb, hvl, hR, hc⟩ := RW.out.at FR.kp X.out.2.1 hx
      have HF : Hid (fmL xs (k + 1) = fmL xs k ++ [pjS x]) := fmL_more hx
      have HN1 : Hid (pjB x = false → C = 4 ∧ T = ⟨#[]⟩) := HN.out k x hx
      have HG : Hid (pjB x = true → rgK xs (k + 1)) := rgK_more hx X.out.2.2
      have HZ : Hid (pjB x = true → x.ke.size ≤ 40 ∧ x.va.size ≤ 40) := pjB_bd
      have FL : Hid ((fmL xs k).length = k) := fmL_len xs k (by omega)
      obtain ⟨ke, va⟩ := x
      obtain ⟨rfl, hok⟩ := hR
      have hks : ke.size ≤ maxLen := hok.1
      have hvs : va.size ≤ maxLen := hok.2
      unfold maxLen at hks hvs
      have E : pjB ⟨ke, va⟩ = ((!(ke.toList == [])) && !decide ((40 : Int) < (ke.size : Int)) && !decide ((40 : Int) < (va.size : Int))) := rfl
      rw [E] at HN1 HG HZ
      have q0 : wr.cell? ⟨b, off + k * 2, none⟩ = some (.string ke) := hc 0 _ rfl
      have q1 : wr.cell? ⟨b, off + k * 2 + 1, none⟩ = some (.string va) := hc 1 _ rfl
      clear hc hvl hx E hok
      generalize hk1 : (ke.toList == []) = d1 at HN1 HG HZ
      cases d1 with
      | true =>
        obtain ⟨rfl, rfl⟩ := HN1.out (by simp)
        clear HN1 HG HZ HN HY ES
        go_wp2
        go_ret2
        exact ⟨rfl, X.out.2.1⟩
      | false =>
      generalize hk2 : decide ((40 : Int) < (ke.size : Int)) = d2 at HN1 HG HZ
      cases d2 with
      | true =>
        obtain ⟨rfl, rfl⟩ := HN1.out (by simp)
        clear HN1 HG HZ HN HY ES
        go_wp2
        go_ret2
        exact ⟨rfl, X.out.2.1⟩
      | false =>
      generalize hk3 : decide ((40 : Int) < (va.size : Int)) = d3 at HN1 HG HZ
      cases d3 with
      | true =>
        obtain ⟨rfl, rfl⟩ := HN1.out (by simp)
        clear HN1 HG HZ HN HY ES
        go_wp2
        go_ret2
        exact ⟨rfl, X.out.2.1⟩
      | false =>
      obtain ⟨z1, z2⟩ : ke.size ≤ 40 ∧ va.size ≤ 40 := HZ.out (by simp)
      have RG : Hid (rgK xs (k + 1)) := HG.out (by simp)
      have L1 := ess_len (bt ke) ke.size
      have L2 := ess_len (bt va) va.size
      have E1 : Hid (∀ w, Calls Try.prog 10 #[.string ke] w fun e w' => e = .returned (.string (strOfNums (ess (bt ke) ke.size))) ∧ Below w.heap.size w w') := fun w => ES.out ke w z1
      have E2 : Hid (∀ w, Calls Try.prog 10 #[.string va] w fun e w' => e = .returned (.string (strOfNums (ess (bt va) va.size))) ∧ Below w.heap.size w w') := fun w => ES.out va w z2
      have PJ : Hid (pjS ⟨ke, va⟩ = strOfNums (ess (bt ke) ke.size) ++ ⟨#[61]⟩ ++ strOfNums (ess (bt va) va.size)) := rfl
      have s1 : (strOfNums (ess (bt ke) ke.size)).size ≤ 120 := by rw [strOfNums_size]; omega
      have s2 : (strOfNums (ess (bt va) va.size)).size ≤ 120 := by rw [strOfNums_size]; omega
      generalize strOfNums (ess (bt ke) ke.size) = A1 at *
      generalize strOfNums (ess (bt va) va.size) = A2 at *
      have hadd1 : ∀ wx : World, (Op.stringOp .add A1 ⟨#[61]⟩).run Try.prog wx = .ok (.string (A1 ++ ⟨#[61]⟩)) wx := fun wx => run_string_add_sum (P := Try.prog) (w := wx) _ _ (by show _ + 1 ≤ _; omega)
      have hadd2 : ∀ wx : World, (Op.stringOp .add (A1 ++ ⟨#[61]⟩) A2).run Try.prog wx = .ok (.string (A1 ++ ⟨#[61]⟩ ++ A2)) wx := fun wx => run_string_add_sum (P := Try.prog) (w := wx) _ _ (by rw [ByteArray.size_append]; show _ + 1 + _ ≤ _; omega)
      have s12 : (A1 ++ ⟨#[61]⟩ ++ A2).size ≤ 300 := by rw [ByteArray.size_append, ByteArray.size_append]; show _ + 1 + _ ≤ _; omega
      clear HN1 HG HZ HN HY ES L1 L2
      go_wp2_with fail
      obtain ⟨W, hW⟩ : ∃ W, W = wr := ⟨_, rfl⟩
      have SS : Hid (SP b (off + k * 2) ke va w W.drew) := by
        subst hW
        exact ⟨q0, q1, ⟨X.out.2.1.drew⟩⟩
      have XW : Hid (OwnS stG 1 9 W w.heap.size (.slice (some ⟨gv, 0, none⟩) k cv) (fmL xs k) ∧ Below w.heap.size w W) := by rw [hW]; exact ⟨X.out.1, X.out.2.1⟩
      subst hW
      have SX : Hid (∀ wx wy, Below wx.heap.size wx wy → SP b (off + k * 2) ke va w wx → SP b (off + k * 2) ke va w wy) := fun wx wy hb h => h.below hb
      have SA : Hid (∀ wx o, SP b (off + k * 2) ke va w wx → SP b (off + k * 2) ke va w (wx.alloc o)) := fun wx o h => h.below ((Below.refl _ _).alloc (Nat.le_refl _) o)
      obtain ⟨hg1, hg2⟩ : w.heap.size ≤ gv ∧ gv < W.heap.size := X.out.1.lt gv rfl
      have SR : Hid (∀ wx wy, wx.grownBy wy (some gv) → Below w.heap.size wx wy → SP b (off + k * 2) ke va w wx → SP b (off + k * 2) ke va w wy) := fun wx wy hg hb h => h.row hg hb (by omega)
      have SZ : Hid (∀ wx, SP b (off + k * 2) ke va w wx → w.heap.size ≤ wx.heap.size) := fun wx h => h.2.2.out.size
      have OW : Hid (∀ w5 w6 o, Below W.drew.heap.size W.drew w5 → Below w5.heap.size w5 w6 → OwnS stG 1 9 (w6.alloc o) w.heap.size (.slice (some ⟨gv, 0, none⟩) k cv) (fmL xs k)) := fun w5 w6 o b5 b6 => ((OwnS.now (w := W.drew) XW.out.1 b5).now b6).now ((Below.refl _ _).alloc (Nat.le_refl _) o)
      clear X
      go_region_held3 (fun wx => wx.cell? ⟨b, off + k * 2, none⟩ = some (.string ke) ∧ wx.cell? ⟨b, off + k * 2 + 1, none⟩ = some (.string va) ∧ KpB w wx)
        (first | exact SS.out | exact SX.out _ _ b6 (by assumption) | exact SX.out _ _ b5 (by assumption) | exact SA.out _ _ (by assumption) | exact SR.out _ _ Y7.out.2.2 Y7.out.2.1 (by assumption))
        (first | (go_at_call 10; (with_reducible refine (E1.out _).mono ?_); rintro e w5 ⟨rfl, b5⟩) | (go_at_call 10; (with_reducible refine (E2.out _).mono ?_); rintro e w6 ⟨rfl, b6⟩) | (refine step_strs _ (by rfl) (.tmp 43) (.tmp 58) (by rfl) w.heap.size (.slice (some ⟨gv, 0, none⟩) k cv) (fmL xs k) (by rfl) (OW.out _ _ _ b5 b6) _ 0 1 1 [A1 ++ ⟨#[61]⟩ ++ A2] (by rfl) rfl (st_new _ _ _) (by rw [FL.out]; omega) (SZ.out _ (by assumption)) ?_; intro v7 w7 Y7))
      have F7 : Hid (OwnS stG 1 9 w7 w.heap.size v7 (fmL xs (k + 1)) ∧ Below w.heap.size w w7 ∧ rgK xs (k + 1)) := by
        have hS7 : SP b (off + k * 2) ke va w w7 := by assumption
        refine ⟨?_, hS7.2.2.out, RG.out⟩
        rw [HF.out, PJ.out]
        exact Y7.out.1
      have hv7 : ∃ g c, v7 = .slice (some ⟨g, 0, none⟩) (k + 1) c := by
        obtain ⟨a7, c7, he, _⟩ := F7.out.1.slice
        have hl7 : (fmL xs (k + 1)).length = k + 1 := fmL_len xs (k + 1) (by omega)
        rw [hl7] at he
        subst he
        obtain ⟨g7, hg7, -⟩ := F7.out.1.form (by omega)
        exact ⟨g7, c7, by rw [hg7]⟩
      obtain ⟨g7, c7, rfl⟩ := hv7
      clear Y7 XW SS SX SA SR SZ OW b5 b6
      go_wp2
      go_roundw
      case rel => exact ⟨k + 1, by omega, by go_num, ⟨_, _, rfl⟩, F7⟩
      case measure => simp [intOf]; omega
    · have e9 : ¬ k < len := hlt
      have hkl : k = len := by omega
      have X2 : Hid (OwnS stG 1 9 wr w.heap.size (.slice (some ⟨gv, 0, none⟩) k cv) (fmL xs k) ∧ Below w.heap.size w wr) := ⟨X.out.1, X.out.2.1⟩
      obtain ⟨hC, hT⟩ := HY.out (by rw [← hkl]; exact X.out.2.2)
      subst hC
      have HE : Hid (T = jnT (fmL xs k) ⟨#[38]⟩) := by show _ = _; rw [hT, hkl]
      clear hT
      have hz := szT_fm xs k X.out.2.2 (by omega)
      have FL : (fmL xs k).length = k := fmL_len xs k (by omega)
      have hcv : k ≤ cv := by
        obtain ⟨a', c', he, h1, _⟩ := X.out.1.slice
        obtain ⟨-, -, rfl⟩ := Value.slice.inj he
        omega
      have HJ : Hid (∀ wx, OwnS stG 1 9 wx w.heap.size (.slice (some ⟨gv, 0, none⟩) k cv) (fmL xs k) → Calls Try.prog 11 #[.slice (some ⟨gv, 0, none⟩) k cv, .string ⟨#[38]⟩] wx fun e w' => e = .returned (.string (jnT (fmL xs k) ⟨#[38]⟩)) ∧ w' = wx) := by
        intro wx hO
        have h1 : (⟨#[38]⟩ : ByteArray).size = 1 := rfl
        have := l00Join_any (some ⟨gv, 0, none⟩) cv w.heap.size (fmL xs k) ⟨#[38]⟩ wx
        rw [FL] at this
        exact this (by rw [FL] at *; exact hO) (by omega) (by rw [h1]; omega)
      clear X HN HY ES hkl FL hz
      generalize jnT (fmL xs k) ⟨#[38]⟩ = Z at HJ HE
      go_wp2_with fail
      refine (HJ.out _ X2.out.1).mono ?_
      rintro e w5 ⟨rfl, b5⟩
      have B5 : Hid (Below w.heap.size w w5) := by rw [b5]; exact X2.out.2
      clear b5 HJ
      go_wp2
      go_ret2
      exact ⟨by rw [HE.out]; rfl, B5.out⟩

set_option maxHeartbeats 2000000 in
theorem implForm_big (a : Option Addr) (len cap : Nat) (xs : List PairV) (w : World) (hl : xs.length = len) (h : 8 < len) :
    Calls Try.prog 7 #[.slice a len cap] w fun e w' => e = .returned (.tuple #[.string (fmT xs), .int .i64 (fmC xs)]) ∧ Below w.heap.size w w' := by
  by_cases h4 : 4096 < len
  · have E := fm_long (xs := xs) (by omega)
    rw [E.1, E.2]
    have t1 : decide ((4096 : Int) < (len : Int)) = true := decide_eq_true (by omega)
    clear E hl h h4
    go_enter Try.func7, Try.ntmps7
    go_wp2
    go_ret2
    exact ⟨rfl, Below.refl _ _⟩
  · have E := fm_many (xs := xs) (by omega) (by omega)
    rw [E.1, E.2]
    have t1 : decide ((4096 : Int) < (len : Int)) = false := decide_eq_false (by omega)
    have t2 : decide ((8 : Int) < (len : Int)) = true := decide_eq_true (by omega)
    clear E hl h h4
    go_enter Try.func7, Try.ntmps7
    go_wp2
    go_ret2
    exact ⟨rfl, Below.refl _ _⟩
set_option maxHeartbeats 4000000 in
theorem implForm_few (a : Option Addr) (len cap : Nat) (xs : List PairV) (w : World) (h : Rw PrR 2 w a xs) (hl : xs.length = len) (h8 : len ≤ 8) :
    Calls Try.prog 7 #[.slice a len cap] w fun e w' => e = .returned (.tuple #[.string (fmT xs), .int .i64 (fmC xs)]) ∧ Below w.heap.size w w' := by
  have RW : Hid (Rw PrR 2 w a xs) := h
  have t1 : decide ((4096 : Int) < (len : Int)) = false := decide_eq_false (by omega)
  have t2 : decide ((8 : Int) < (len : Int)) = false := decide_eq_false (by omega)
  have ES : Hid (∀ (s : ByteArray) (w : World), s.size ≤ 40 → Calls Try.prog 13 #[.string s] w fun e w' => e = .returned (.string (strOfNums (ess (bt s) s.size))) ∧ Below w.heap.size w w') := fun s w h => escaped_any s w (by omega)
  have HN : Hid (∀ k x, xs[k]? = some x → pjB x = false → fmC xs = 4 ∧ fmT xs = ⟨#[]⟩) := fun k x hx hb => fm_no hx hb (by omega)
  have HY : Hid (rgK xs len → fmC xs = 0 ∧ fmT xs = jnT (fmL xs len) ⟨#[38]⟩) := fun hr => by rw [← hl] at hr ⊢; exact fm_yes hr (by omega)
  clear h
  generalize fmC xs = C at HN HY ⊢
  generalize fmT xs = T at HN HY ⊢
  obtain ⟨i0, hi, hz0, hz1, hz2⟩ := info_parts infoStr
  obtain ⟨MC, hM⟩ : ∃ MC : Array Value, (Instr.makeSlice 33 (.int .i64 0) (.int .i64 (len : Int))).run Try.prog w = .ok (.slice (some ⟨w.heap.size, 0, none⟩) 0 len) (w.alloc (.cells MC 9)) ∧ OwnS stG 1 9 (w.alloc (.cells MC 9)) w.heap.size (.slice (some ⟨w.heap.size, 0, none⟩) 0 len) [] := by
    refine ⟨madeCells (Value.string ⟨#[]⟩).cells (len * i0.size), ?_, ?_⟩
    · have := run_make (P := Try.prog) w 33 9 i0 (.string ⟨#[]⟩) Try.underlying33 hi hz0 .i64 .i64 0 len (Int.le_refl _) (by omega) (by rw [hz2]; omega) (by omega)
      simpa using this
    · exact World.ownsRow_made w _ len (Nat.le_refl _) (by unfold maxLen; omega) (by rw [size_madeCells, hz1])
  obtain ⟨hmk, hO0⟩ := hM
  have X0 : Hid (OwnS stG 1 9 (w.alloc (.cells MC 9)) w.heap.size (.slice (some ⟨w.heap.size, 0, none⟩) 0 len) [] ∧ Below w.heap.size w (w.alloc (.cells MC 9))) := ⟨hO0, (Below.refl _ _).alloc (Nat.le_refl _) _⟩
  clear hO0 hi hz0 hz1 hz2
  go_enter Try.func7, Try.ntmps7
  go_wp2
  go_loopw [4, 18] (fun v i wr => ∃ k : Nat, k ≤ len ∧ i = .int .i64 k ∧ (∃ g c, v = .slice (some ⟨g, 0, none⟩) k c) ∧ Hid (OwnS stG 1 9 wr w.heap.size v (fmL xs k) ∧ Below w.heap.size w wr ∧ rgK xs k)) (fun _ i _ => len - (intOf i).toNat)
  case atStart => exact ⟨0, Nat.zero_le _, rfl, ⟨_, _, rfl⟩, X0.out.1, X0.out.2, (fun x hx => by simp at hx)⟩
  case round =>
    obtain ⟨k, hk, rfl, ⟨gv, cv, rfl⟩, X⟩ := hrel
    clear X0
    by_cases hlt : k < len
    · obtain ⟨x, hx⟩ := at_of hl hlt
      have hltz : (k : Int) < (len : Int) := by omega
      obtain ⟨b, off, vs, rfl, hb, hvl, hR, hc⟩ := RW.out.at FR.kp X.out.2.1 hx
      have HF : Hid (fmL xs (k + 1) = fmL xs k ++ [pjS x]) := fmL_more hx
      have HN1 : Hid (pjB x = false → C = 4 ∧ T = ⟨#[]⟩) := HN.out k x hx
      have HG : Hid (pjB x = true → rgK xs (k + 1)) := rgK_more hx X.out.2.2
      have HZ : Hid (pjB x = true → x.ke.size ≤ 40 ∧ x.va.size ≤ 40) := pjB_bd
      have FL : Hid ((fmL xs k).length = k) := fmL_len xs k (by omega)
      obtain ⟨ke, va⟩ := x
      obtain ⟨rfl, hok⟩ := hR
      have hks : ke.size ≤ maxLen := hok.1
      have hvs : va.size ≤ maxLen := hok.2
      unfold maxLen at hks hvs
      have E : pjB ⟨ke, va⟩ = ((!(ke.toList == [])) && !decide ((40 : Int) < (ke.size : Int)) && !decide ((40 : Int) < (va.size : Int))) := rfl
      rw [E] at HN1 HG HZ
      have q0 : wr.cell? ⟨b, off + k * 2, none⟩ = some (.string ke) := hc 0 _ rfl
      have q1 : wr.cell? ⟨b, off + k * 2 + 1, none⟩ = some (.string va) := hc 1 _ rfl
      clear hc hvl hx E hok
      generalize hk1 : (ke.toList == []) = d1 at HN1 HG HZ
      cases d1 with
      | true =>
        obtain ⟨rfl, rfl⟩ := HN1.out (by simp)
        clear HN1 HG HZ HN HY ES
        go_wp2
        go_ret2
        exact ⟨rfl, X.out.2.1.alloc X.out.2.1.size _⟩
      | false =>
      generalize hk2 : decide ((40 : Int) < (ke.size : Int)) = d2 at HN1 HG HZ
      cases d2 with
      | true =>
        obtain ⟨rfl, rfl⟩ := HN1.out (by simp)
        clear HN1 HG HZ HN HY ES
        go_wp2
        go_ret2
        exact ⟨rfl, X.out.2.1.alloc X.out.2.1.size _⟩
      | false =>
      generalize hk3 : decide ((40 : Int) < (va.size : Int)) = d3 at HN1 HG HZ
      cases d3 with
      | true =>
        obtain ⟨rfl, rfl⟩ := HN1.out (by simp)
        clear HN1 HG HZ HN HY ES
        go_wp2
        go_ret2
        exact ⟨rfl, X.out.2.1.alloc X.out.2.1.size _⟩
      | false =>
      obtain ⟨z1, z2⟩ : ke.size ≤ 40 ∧ va.size ≤ 40 := HZ.out (by simp)
      have RG : Hid (rgK xs (k + 1)) := HG.out (by simp)
      have L1 := ess_len (bt ke) ke.size
      have L2 := ess_len (bt va) va.size
      have E1 : Hid (∀ w, Calls Try.prog 13 #[.string ke] w fun e w' => e = .returned (.string (strOfNums (ess (bt ke) ke.size))) ∧ Below w.heap.size w w') := fun w => ES.out ke w z1
      have E2 : Hid (∀ w, Calls Try.prog 13 #[.string va] w fun e w' => e = .returned (.string (strOfNums (ess (bt va) va.size))) ∧ Below w.heap.size w w') := fun w => ES.out va w z2
      have PJ : Hid (pjS ⟨ke, va⟩ = strOfNums (ess (bt ke) ke.size) ++ ⟨#[61]⟩ ++ strOfNums (ess (bt va) va.size)) := rfl
      have s1 : (strOfNums (ess (bt ke) ke.size)).size ≤ 120 := by rw [strOfNums_size]; omega
      have s2 : (strOfNums (ess (bt va) va.size)).size ≤ 120 := by rw [strOfNums_size]; omega
      generalize strOfNums (ess (bt ke) ke.size) = A1 at *
      generalize strOfNums (ess (bt va) va.size) = A2 at *
      have hadd1 : ∀ wx : World, (Op.stringOp .add A1 ⟨#[61]⟩).run Try.prog wx = .ok (.string (A1 ++ ⟨#[61]⟩)) wx := fun wx => run_string_add_sum (P := Try.prog) (w := wx) _ _ (by show _ + 1 ≤ _; omega)
      have hadd2 : ∀ wx : World, (Op.stringOp .add (A1 ++ ⟨#[61]⟩) A2).run Try.prog wx = .ok (.string (A1 ++ ⟨#[61]⟩ ++ A2)) wx := fun wx => run_string_add_sum (P := Try.prog) (w := wx) _ _ (by rw [ByteArray.size_append]; show _ + 1 + _ ≤ _; omega)
      have s12 : (A1 ++ ⟨#[61]⟩ ++ A2).size ≤ 300 := by rw [ByteArray.size_append, ByteArray.size_append]; show _ + 1 + _ ≤ _; omega
      clear HN1 HG HZ HN HY ES L1 L2
      go_wp2_with fail
      obtain ⟨W, hW⟩ : ∃ W, W = wr.alloc (.cells #[.string ke, .string va] 34) := ⟨_, rfl⟩
      have hWs : W.heap.size = wr.heap.size + 1 := by rw [hW]; simp
      have SS : Hid (SP wr.heap.size 0 ke va w W.drew) := by
        subst hW
        exact ⟨by simp [go_sem], by simp [go_sem], ⟨(X.out.2.1.alloc X.out.2.1.size _).drew⟩⟩
      have XW : Hid (OwnS stG 1 9 W w.heap.size (.slice (some ⟨gv, 0, none⟩) k cv) (fmL xs k) ∧ Below w.heap.size w W) := by
        have hbw : Below wr.heap.size wr W := by rw [hW]; exact (Below.refl _ _).alloc (Nat.le_refl _) _
        exact ⟨X.out.1.now hbw, X.out.2.1.trans (hbw.mono X.out.2.1.size)⟩
      rw [← hW]
      clear hW
      have SX : Hid (∀ wx wy, Below wx.heap.size wx wy → SP wr.heap.size 0 ke va w wx → SP wr.heap.size 0 ke va w wy) := fun wx wy hb h => h.below hb
      have SA : Hid (∀ wx o, SP wr.heap.size 0 ke va w wx → SP wr.heap.size 0 ke va w (wx.alloc o)) := fun wx o h => h.below ((Below.refl _ _).alloc (Nat.le_refl _) o)
      obtain ⟨hg1, hg2⟩ : w.heap.size ≤ gv ∧ gv < wr.heap.size := X.out.1.lt gv rfl
      have SR : Hid (∀ wx wy, wx.grownBy wy (some gv) → Below w.heap.size wx wy → SP wr.heap.size 0 ke va w wx → SP wr.heap.size 0 ke va w wy) := fun wx wy hg hb h => h.row hg hb (by omega)
      have SZ : Hid (∀ wx, SP wr.heap.size 0 ke va w wx → w.heap.size ≤ wx.heap.size) := fun wx h => h.2.2.out.size
      have OW : Hid (∀ w5 w6 o, Below W.drew.heap.size W.drew w5 → Below w5.heap.size w5 w6 → OwnS stG 1 9 (w6.alloc o) w.heap.size (.slice (some ⟨gv, 0, none⟩) k cv) (fmL xs k)) := fun w5 w6 o b5 b6 => ((OwnS.now (w := W.drew) XW.out.1 b5).now b6).now ((Below.refl _ _).alloc (Nat.le_refl _) o)
      clear X
      go_region_held3 (fun wx => wx.cell? ⟨wr.heap.size, 0, none⟩ = some (.string ke) ∧ wx.cell? ⟨wr.heap.size, 1, none⟩ = some (.string va) ∧ KpB w wx)
        (first | exact SS.out | exact SX.out _ _ b6 (by assumption) | exact SX.out _ _ b5 (by assumption) | exact SA.out _ _ (by assumption) | exact SR.out _ _ Y7.out.2.2 Y7.out.2.1 (by assumption))
        (first | (go_at_call 13; (with_reducible refine (E1.out _).mono ?_); rintro e w5 ⟨rfl, b5⟩) | (go_at_call 13; (with_reducible refine (E2.out _).mono ?_); rintro e w6 ⟨rfl, b6⟩) | (refine step_strs _ (by rfl) (.tmp 37) (.tmp 46) (by rfl) w.heap.size (.slice (some ⟨gv, 0, none⟩) k cv) (fmL xs k) (by rfl) (OW.out _ _ _ b5 b6) _ 0 1 1 [A1 ++ ⟨#[61]⟩ ++ A2] (by rfl) rfl (st_new _ _ _) (by rw [FL.out]; omega) (SZ.out _ (by assumption)) ?_; intro v7 w7 Y7))
      have F7 : Hid (OwnS stG 1 9 w7 w.heap.size v7 (fmL xs (k + 1)) ∧ Below w.heap.size w w7 ∧ rgK xs (k + 1)) := by
        have hS7 : SP wr.heap.size 0 ke va w w7 := by assumption
        refine ⟨?_, hS7.2.2.out, RG.out⟩
        rw [HF.out, PJ.out]
        exact Y7.out.1
      have hv7 : ∃ g c, v7 = .slice (some ⟨g, 0, none⟩) (k + 1) c := by
        obtain ⟨a7, c7, he, _⟩ := F7.out.1.slice
        have hl7 : (fmL xs (k + 1)).length = k + 1 := fmL_len xs (k + 1) (by omega)
        rw [hl7] at he
        subst he
        obtain ⟨g7, hg7, -⟩ := F7.out.1.form (by omega)
        exact ⟨g7, c7, by rw [hg7]⟩
      obtain ⟨g7, c7, rfl⟩ := hv7
      clear Y7 XW SS SX SA SR SZ OW b5 b6
      go_wp2
      go_roundw
      case rel => exact ⟨k + 1, by omega, by go_num, ⟨_, _, rfl⟩, F7⟩
      case measure => simp [intOf]; omega
    · have e9 : ¬ k < len := hlt
      have hkl : k = len := by omega
      have X2 : Hid (OwnS stG 1 9 wr w.heap.size (.slice (some ⟨gv, 0, none⟩) k cv) (fmL xs k) ∧ Below w.heap.size w wr) := ⟨X.out.1, X.out.2.1⟩
      obtain ⟨hC, hT⟩ := HY.out (by rw [← hkl]; exact X.out.2.2)
      subst hC
      have HE : Hid (T = jnT (fmL xs k) ⟨#[38]⟩) := by show _ = _; rw [hT, hkl]
      clear hT
      have hz := szT_fm xs k X.out.2.2 (by omega)
      have FL : (fmL xs k).length = k := fmL_len xs k (by omega)
      have hcv : k ≤ cv := by
        obtain ⟨a', c', he, h1, _⟩ := X.out.1.slice
        obtain ⟨-, -, rfl⟩ := Value.slice.inj he
        omega
      have HJ : Hid (∀ wx, OwnS stG 1 9 wx w.heap.size (.slice (some ⟨gv, 0, none⟩) k cv) (fmL xs k) → Calls Try.prog 14 #[.slice (some ⟨gv, 0, none⟩) k cv, .string ⟨#[38]⟩] wx fun e w' => e = .returned (.string (jnT (fmL xs k) ⟨#[38]⟩)) ∧ Below wx.heap.size wx w') := by
        intro wx hO
        have h1 : (⟨#[38]⟩ : ByteArray).size = 1 := rfl
        have := join_any gv cv w.heap.size (fmL xs k) ⟨#[38]⟩ wx
        rw [FL] at this
        exact this (by rw [FL] at *; exact hO) hcv (by omega) (by rw [h1]; omega)
      clear X HN HY ES hkl FL hz
      generalize jnT (fmL xs k) ⟨#[38]⟩ = Z at HJ HE
      go_wp2_with fail
      refine (HJ.out _ X2.out.1).mono ?_
      rintro e w5 ⟨rfl, b5⟩
      have B5 : Hid (Below w.heap.size w w5) := X2.out.2.trans (b5.mono X2.out.2.size)
      clear b5 HJ
      go_wp2
      go_ret2
      exact ⟨by rw [HE.out]; rfl, B5.out⟩
end Go.Proofs.Ytbpdfkngkkopbaa
