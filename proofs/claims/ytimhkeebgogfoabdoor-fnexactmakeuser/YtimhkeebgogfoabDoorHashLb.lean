/- The program's lastBlocks and text. -/
import Derived.Test.YtimhkeebgogfoabDoorHashMs
import Derived.Test.YtimhkeebgogfoabDoorHashL
import Derived.Test.YtimhkeebgogfoabDoorAppB
namespace Go.Proofs.YtimhkeebgogfoabDoor
open Go.RowKit Go.PlainAid
set_option linter.unusedVariables false
set_option maxRecDepth 20000

def lenOf : Value → Nat
  | .slice _ n _ => n
  | _ => 0

set_option maxHeartbeats 1000000 in
theorem lastBlocks_any (a : Option Addr) (m cap : Nat) (f : Nat → Int) (size : Nat) (w : World) (h : Bytes w a m f) (hm : m < 64) (hz : size ≤ 65536) (hn : a = none → m = 0 ∧ cap = 0) (hp : ∀ b off, 0 < m → a = some ⟨b, off, none⟩ → b < w.heap.size) :
    Calls Tryd.prog 24 #[.slice a m cap, .int .i64 size] w fun e w' => ∃ v', e = .returned v' ∧ Hid (OwnL 5 w' w.heap.size v' ((List.range m).map f ++ tailL m size)) ∧ Below w.heap.size w w' := by
  have H : Hid (Bytes w a m f) := h
  have HN : Hid (a = none → m = 0 ∧ cap = 0) := hn
  have HP : Hid (∀ b off, 0 < m → a = some ⟨b, off, none⟩ → b < w.heap.size) := hp
  clear h hn hp
  obtain ⟨MC, hM⟩ := make_room 128 (by omega)
  have hmk : ∀ w : World, (Instr.makeSlice 37 (.int .i64 0) (.int .i64 128)).run Tryd.prog w = .ok (.slice (some ⟨w.heap.size, 0, none⟩) 0 128) (w.alloc (.cells MC 5)) := fun w => (hM w).1
  have HM : Hid (OwnL 5 (w.alloc (.cells MC 5)) w.heap.size (.slice (some ⟨w.heap.size, 0, none⟩) 0 128) []) := (hM w).2
  clear hM
  have H1 : Hid (Bytes (w.alloc (.cells MC 5)) a m f) := H.out.below ((Below.refl w.heap.size w).alloc (Nat.le_refl _) _) HP.out
  go_enter Tryd.func24, Tryd.ntmps24
  go_wp2_with (at_builtin; refine wpl_byt _ rfl _ _ rfl w.heap.size _ [] rfl HM.out a m cap f rfl H1.out HN.out (by simp; omega) (by simp) ?_)
  intro v1 w1 Y1
  have Y1' : Hid (OwnL 5 w1 w.heap.size v1 ((List.range m).map f)) := Y1.out.own
  have B1 : Hid (Below w.heap.size w w1) := ((Below.refl w.heap.size w).alloc (Nat.le_refl _) _).trans Y1.out.below
  have z1 : w.heap.size ≤ w1.heap.size := B1.out.size
  clear Y1 H1 HM H HN HP hmk
  go_wp2_with (at_builtin; refine wpl_app _ rfl _ _ rfl w.heap.size _ _ rfl (World.ownsRow.alloc Y1'.out _) ⟨w1.heap.size, 0, none⟩ 1 1 [128] rfl rfl (news_row (Boxed.new w1 [.int .u8 128] _)) (by simp; omega) (by simp; omega) ?_)
  intro v2 w2 Y2
  have Y2' : Hid (OwnL 5 w2 w.heap.size v2 ((List.range m).map f ++ [128])) := Y2.out.own
  have B2 : Hid (Below w.heap.size w w2) := (B1.out.alloc z1 _).trans Y2.out.below
  clear Y2 Y1' B1 z1
  obtain ⟨L0, hL0⟩ : ∃ L, L = (List.range m).map f ++ [128] := ⟨_, rfl⟩
  have sL0 : L0.length = m + 1 := by rw [hL0]; simp
  have bL0 : Hid (L0 = (List.range m).map f ++ [128]) := hL0
  rw [← hL0] at Y2'
  clear hL0
  go_wp2
  go_loopw [5] (fun v wr => ∃ k : Nat, k ≤ padN (m + 1) ∧ Hid (OwnL 5 wr w.heap.size v (L0 ++ List.replicate k 0)) ∧ Hid (Below w.heap.size w wr)) (fun v _ => padN (m + 1) + m + 1 - (lenOf v))
  case atStart => exact ⟨0, Nat.zero_le _, by simpa using Y2', B2⟩
  case round =>
    clear Y2' B2
    obtain ⟨k, hk, Y, B⟩ := hrel
    have pl := padN_lt (m + 1)
    have sL : (L0 ++ List.replicate k (0 : Int)).length = m + 1 + k := by simp [sL0]
    obtain ⟨g, cp, cur, hv, hg, -, -⟩ := OwnL.form Y.out (by omega)
    rw [sL] at hv
    subst hv
    have zz := B.out.size
    by_cases hlt : k < padN (m + 1)
    · have e1 : ((((m + 1 + k : Nat) : Int) % 64) != 56) = true := by have := padN_min (m + 1) k hlt; simp; omega
      have e2 : Int.tmod ((m + 1 + k : Nat) : Int) 64 = ((m + 1 + k : Nat) : Int) % 64 := Int.tmod_eq_emod_of_nonneg (by omega)
      obtain ⟨len, hlen⟩ : ∃ l, l = m + 1 + k := ⟨_, rfl⟩
      rw [← hlen] at e1 e2 Y
      rw [← hlen]
      have HLen : Hid (len = m + 1 + k) := hlen
      clear hlen
      go_wp2_with (at_builtin; refine wpl_app _ rfl _ _ rfl w.heap.size _ _ rfl (World.ownsRow.alloc Y.out _) ⟨wr.heap.size, 0, none⟩ 1 1 [0] rfl rfl (news_row (Boxed.new wr [.int .u8 0] _)) (by simp; omega) (by simp; omega) ?_)
      intro v3 w3 Y3
      have Y3' : Hid (OwnL 5 w3 w.heap.size v3 (L0 ++ List.replicate (k + 1) 0)) := by
        show OwnL _ _ _ _ _
        rw [List.replicate_succ']
        have := Y3.out.own
        simpa only [List.append_assoc] using this
      have B3 : Hid (Below w.heap.size w w3) := (B.out.alloc zz _).trans Y3.out.below
      have sL3 : (L0 ++ List.replicate (k + 1) (0 : Int)).length = m + 1 + (k + 1) := by simp [sL0]
      obtain ⟨g3, cp3, cur3, hv3, -, -, -⟩ := OwnL.form Y3'.out (by omega)
      rw [sL3] at hv3
      have HV3 : Hid (lenOf v3 = m + 1 + (k + 1)) := by rw [hv3]; rfl
      clear Y3 Y B hv3
      go_wp2
      go_roundw
      case rel => exact ⟨k + 1, by omega, Y3', B3⟩
      case measure =>
        rw [HV3.out]
        show _ < padN (m + 1) + m + 1 - len
        have := HLen.out
        omega
    · have ek : k = padN (m + 1) := by omega
      subst ek
      have e1 : ((((m + 1 + padN (m + 1) : Nat) : Int) % 64) != 56) = false := by have := padN_is (m + 1); simp; omega
      have e2 : Int.tmod ((m + 1 + padN (m + 1) : Nat) : Int) 64 = ((m + 1 + padN (m + 1) : Nat) : Int) % 64 := Int.tmod_eq_emod_of_nonneg (by omega)
      obtain ⟨len, hlen⟩ : ∃ l, l = m + 1 + padN (m + 1) := ⟨_, rfl⟩
      rw [← hlen] at e1 e2 Y
      rw [← hlen]
      have s1 : Hid ((L0 ++ List.replicate (padN (m + 1)) (0 : Int)).length ≤ 200) := by show _ ≤ _; rw [sL]; omega
      have sz : IntKind.i64.wrap (8 * (size : Int)) = 8 * (size : Int) := by rw [IntKind.wrap_i64]; omega
      clear hlen hlt hk
      go_wp2_with fail
      refine (addNum _ _ 0 4 wr w.heap.size Y.out zz (by omega) (by omega) (by omega) (by omega) (by omega) (by have := s1.out; omega)).mono ?_
      rintro e w4 ⟨v4, rfl, Y4⟩
      have B4 : Hid (Below w.heap.size w w4) := B.out.trans Y4.out.below
      have z4 : w.heap.size ≤ w4.heap.size := B4.out.size
      go_wp2_with fail
      refine (addNum _ _ (8 * (size : Int)) 4 w4 w.heap.size Y4.out.own z4 (by omega) (by omega) (by omega) (by omega) (by omega) (by have := s1.out; simp [nbl_len] at this ⊢; omega)).mono ?_
      rintro e w5 ⟨v5, rfl, Y5⟩
      go_wp2
      go_ret
      refine ⟨_, rfl, ?_, B4.out.trans Y5.out.below⟩
      have := Y5.out.own
      show OwnL _ _ _ _ _
      rw [bL0.out] at this
      unfold tailL
      simpa [List.append_assoc] using this

set_option maxHeartbeats 1000000 in
theorem text_any (s : Nat → Int) (w : World) (hs : ∀ i, 0 ≤ s i ∧ s i ≤ 4294967295) :
    Calls Tryd.prog 25 #[.agg (words s 8).toArray] w fun e w' => e = .returned (.string (strOfNums (txt s 8))) ∧ Below w.heap.size w w' := by
  have HS : Hid (∀ i, 0 ≤ s i ∧ s i ≤ 4294967295) := hs
  clear hs
  obtain ⟨MC, hM⟩ := make_room 32 (by omega)
  have hmk : ∀ w : World, (Instr.makeSlice 37 (.int .i64 0) (.int .i64 32)).run Tryd.prog w = .ok (.slice (some ⟨w.heap.size, 0, none⟩) 0 32) (w.alloc (.cells MC 5)) := fun w => (hM w).1
  have HM : Hid (∀ w : World, OwnL 5 (w.alloc (.cells MC 5)) w.heap.size (.slice (some ⟨w.heap.size, 0, none⟩) 0 32) []) := fun w => (hM w).2
  clear hM
  obtain ⟨LS, hLS⟩ : ∃ L, L = words s 8 := ⟨_, rfl⟩
  rw [← hLS]
  have C0 : Hid (∀ i, i < 8 → (w.alloc (.cells LS.toArray 41)).cell? ⟨w.heap.size, i, none⟩ = some (.int .u32 (s i))) := fun i hi => by
    rw [World.cell?_alloc_new, hLS]
    have := words_at s 8 i hi
    simpa using this
  clear hLS
  go_enter Tryd.func25, Tryd.ntmps25
  go_wp2
  go_loopw [3, 6] (fun v i wr => ∃ k : Nat, k ≤ 8 ∧ i = .int .i64 k ∧ Hid (OwnL 5 wr (w.heap.size + 1) v (txt s k)) ∧ Hid (Below (w.heap.size + 1) (w.alloc (.cells LS.toArray 41)) wr)) (fun _ i _ => 8 - (intOf i).toNat)
  case atStart =>
    have e1 := HM.out (w.alloc (.cells LS.toArray 41))
    have ez : (w.alloc (.cells LS.toArray 41)).heap.size = w.heap.size + 1 := by simp
    rw [ez] at e1
    exact ⟨0, Nat.zero_le _, rfl, e1, (Below.refl _ _).alloc (by simp) _⟩
  case round =>
    clear hmk HM
    obtain ⟨k, hk, rfl, Y, B⟩ := hrel
    have ez : (w.alloc (.cells LS.toArray 41)).heap.size = w.heap.size + 1 := by simp
    have zz : w.heap.size + 1 ≤ wr.heap.size := by have := B.out.size; omega
    clear ez
    by_cases hlt : k < 8
    · have ck : wr.cell? ⟨w.heap.size, k, none⟩ = some (.int .u32 (s k)) := by rw [B.out.cell (p := ⟨w.heap.size, k, none⟩) (by show w.heap.size < _; omega)]; exact C0.out k hlt
      have sk := HS.out k
      have k0 : (0 : Int) ≤ (k : Int) := by omega
      have k1 : (k : Int) < 8 := by omega
      have HK : Hid (s k = s k) := rfl
      obtain ⟨x, hx⟩ : ∃ x, x = s k := ⟨_, rfl⟩
      have HX : Hid (x = s k) := hx
      rw [← hx] at ck sk
      clear hx HK
      have ex : IntKind.i64.wrap x = x := by rw [IntKind.wrap_i64]; omega
      go_wp2_with (go_at_call 32; refine (addNum _ _ x 4 wr (w.heap.size + 1) Y.out zz (by omega) (by omega) (by omega) (by omega) (by omega) (by rw [txt_len]; omega)).mono ?_; rintro e w4 ⟨v4, rfl, Y4⟩)
      go_roundw
      case rel => exact ⟨k + 1, by omega, by go_num, by rw [txt, ← HX.out]; exact Y4.out.own, B.out.trans Y4.out.below⟩
      case measure => (simp [intOf]; try omega)
    · have ek : k = 8 := by omega
      subst ek
      obtain ⟨a, cap, hv, hby, -⟩ := OwnL.slice Y.out (txt_bd s 8)
      have hc := conv_own (P := Tryd.prog) wr 37 9 5 Tryd.underlying37 Tryd.underlying5 Tryd.underlying9 a cap _ hby
      subst hv
      clear hby
      go_wp2
      go_ret
      exact ⟨rfl, ((Below.refl w.heap.size w).alloc (Nat.le_refl _) _).trans (B.out.mono (by omega))⟩
end Go.Proofs.YtimhkeebgogfoabDoor
