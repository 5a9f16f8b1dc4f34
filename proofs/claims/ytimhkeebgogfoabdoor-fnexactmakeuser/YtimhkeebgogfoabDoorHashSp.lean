/- The program's spreadBlock: the words of a block, and those that are made of them. -/
import Derived.Test.YtimhkeebgogfoabDoorHashA
import Derived.Test.YtimhkeebgogfoabDoorHashTu
import Derived.Deep.RegionHeld3
import Derived.BigQuiet
import Derived.Deep.QuietTactic
namespace Go.Proofs.YtimhkeebgogfoabDoor
open Go.RowKit Go.PlainAid
set_option linter.unusedVariables false
set_option maxRecDepth 20000

theorem Tryd.size64 : (Tryd.prog.info? 51).map (·.size) = some 64 := by kernel_rfl
/-- Behind k words: the row of words, and the answer's row, which may be written. -/
def Spr (f : Nat → Int) (w wr : World) (k : Nat) : Prop := Arr w.heap.size w wr (w.heap.size + 1) 64 k (sch f) ∧ Free wr w.heap.size 64
theorem Spr.start (f : Nat → Int) (w : World) (cs : Array Value) (hc : cs.size = 64) (t : TypeId) : Spr f w ((w.alloc (.cells cs t)).alloc (.cells cs t)) 0 := by
  have h1 := Free.new w cs t
  have h2 := Free.new (w.alloc (.cells cs t)) cs t
  rw [hc] at h1 h2
  have hz : (w.alloc (.cells cs t)).heap.size = w.heap.size + 1 := by simp
  rw [hz] at h2
  have b1 : Below (w.heap.size + 1) (w.alloc (.cells cs t)) ((w.alloc (.cells cs t)).alloc (.cells cs t)) := (Below.refl _ _).alloc (by simp) _
  refine ⟨⟨((Below.refl _ _).alloc (Nat.le_refl _) _).alloc (by simp) _, h2.1, fun i hi => absurd hi (by omega), h2.2⟩, h1.below b1 (by omega)⟩
theorem Spr.set {f : Nat → Int} {w wr : World} {k : Nat} (h : Spr f w wr k) (hk : k < 64) (x : Int) (hx : x = sch f k) : Spr f w (wr.setCell ⟨w.heap.size + 1, k, none⟩ (.int .u32 x)) (k + 1) :=
  ⟨h.1.set hk (by omega) x hx, h.2.set (by show w.heap.size + 1 ≠ w.heap.size; omega) _⟩
theorem Spr.drewN {f : Nat → Int} {w wr : World} {k : Nat} (h : Spr f w wr k) (n : Nat) : Spr f w (wr.drewN n) k :=
  ⟨⟨⟨h.1.bel.os, h.1.bel.tape, h.1.bel.output, h.1.bel.size, h.1.bel.block⟩, h.1.lt, h.1.at_, h.1.thr⟩, h.2⟩
theorem Spr.drew {f : Nat → Int} {w wr : World} {k : Nat} (h : Spr f w wr k) : Spr f w wr.drew k :=
  ⟨⟨⟨h.1.bel.os, h.1.bel.tape, h.1.bel.output, h.1.bel.size, h.1.bel.block⟩, h.1.lt, h.1.at_, h.1.thr⟩, h.2⟩

set_option maxHeartbeats 2000000 in
theorem spreadBlock_any (a : Option Addr) (f : Nat → Int) (w : World) (h : Bytes w a 64 f) (hlt : ∀ b off, a = some ⟨b, off, none⟩ → b < w.heap.size) :
    Calls Tryd.prog 34 #[.slice a 64 64] w fun e w' => e = .returned (.agg (words (sch f) 64).toArray) ∧ Below w.heap.size w w' := by
  have hB : Hid (Bytes w a 64 f) := h
  have hL : Hid (∀ b off, a = some ⟨b, off, none⟩ → b < w.heap.size) := hlt
  clear h hlt
  go_enter Tryd.func34, Tryd.ntmps34
  go_wp2
  go_loopw [8] (fun i wr => ∃ k : Nat, k ≤ 16 ∧ i = .int .i64 k ∧ Hid (Spr f w wr k)) (fun i _ => 16 - (intOf i).toNat)
  case atStart => exact ⟨0, Nat.zero_le _, rfl, Spr.start f w _ rfl _⟩
  case round =>
    obtain ⟨k, hk, rfl, X⟩ := hrel
    by_cases hlt : k < 16
    · have HN : Hid (∀ wx, Bytes wx a 64 f → Calls Tryd.prog 37 #[.slice a 64 64, .int .i64 ((k : Int) * 4), .int .i64 4] wx fun e w' => e = .returned (.int .i64 (wordB f k)) ∧ w' = wx) := fun wx hx => by
        have := numberAt_any a 64 64 f (4 * k) 4 wx hx (by omega) (by omega) (by omega) (by omega) (by omega)
        rw [show (((4 * k : Nat)) : Int) = (k : Int) * 4 by omega] at this
        exact this
      have wb := wordB_bd f hB.out.1 k
      have e1 : IntKind.u32.wrap (wordB f k) = wordB f k := by rw [IntKind.wrap_u32]; omega
      obtain ⟨u, hu⟩ := Option.isSome_iff_exists.1 (X.out.1.thr k (by omega)).1
      have hz := (X.out.1.thr k (by omega)).2
      have HW : Hid (wordB f k = sch f k) := (sch_low f k hlt).symm
      have HX : Hid (Bytes wr a 64 f) := hB.out.below X.out.1.bel (fun b off _ h2 => hL.out b off h2)
      go_wp2_with (go_at_call 37; (with_reducible refine (HN.out _ HX.out).mono ?_); rintro e w' ⟨rfl, hw⟩; subst hw)
      go_roundw
      case rel => exact ⟨k + 1, by omega, by go_num, X.out.set (by omega) _ HW.out⟩
      case measure => (simp [intOf]; try omega)
    · have X16 : Hid (Spr f w wr 16) := by
        rw [← show k = 16 by omega]; exact X
      have e16 : (k : Int) = 16 := by omega
      rw [e16]
      clear X e16 hlt hk
      go_wp2
      go_loopw [5] (fun i wr => ∃ k : Nat, 16 ≤ k ∧ k ≤ 64 ∧ i = .int .i64 k ∧ Hid (Spr f w wr k)) (fun i _ => 64 - (intOf i).toNat)
      case atStart => exact ⟨16, by omega, by omega, rfl, X16⟩
      case round =>
        clear X16
        obtain ⟨k, hk16, hk, rfl, X⟩ := hrel
        by_cases hlt : k < 64
        · have c2 := X.out.1.at_ (k - 2) (by omega)
          have c15 := X.out.1.at_ (k - 15) (by omega)
          have c16 := X.out.1.at_ (k - 16) (by omega)
          have c7 := X.out.1.at_ (k - 7) (by omega)
          obtain ⟨s2, hs2⟩ : ∃ s, s = sch f (k - 2) := ⟨_, rfl⟩
          obtain ⟨s15, hs15⟩ : ∃ s, s = sch f (k - 15) := ⟨_, rfl⟩
          obtain ⟨s16, hs16⟩ : ∃ s, s = sch f (k - 16) := ⟨_, rfl⟩
          obtain ⟨s7, hs7⟩ : ∃ s, s = sch f (k - 7) := ⟨_, rfl⟩
          have HS : Hid (sch f k = IntKind.u32.wrap (IntKind.u32.wrap (IntKind.u32.wrap (s16 + s7) + sg0 s15) + sg1 s2)) := by
            show _ = _
            rw [hs2, hs15, hs16, hs7]; exact sch_high f k hk16
          rw [← hs2] at c2
          rw [← hs15] at c15
          rw [← hs16] at c16
          rw [← hs7] at c7
          clear hs2 hs15 hs16 hs7
          have x2 : ((k : Int) - 2).toNat = k - 2 := by omega
          have x15 : ((k : Int) - 15).toNat = k - 15 := by omega
          have x16 : ((k : Int) - 16).toNat = k - 16 := by omega
          have x7 : ((k : Int) - 7).toNat = k - 7 := by omega
          have p2 : (0 : Int) ≤ (k : Int) - 2 := by omega
          have p15 : (0 : Int) ≤ (k : Int) - 15 := by omega
          have p16 : (0 : Int) ≤ (k : Int) - 16 := by omega
          have p7 : (0 : Int) ≤ (k : Int) - 7 := by omega
          have q2 : (k : Int) - 2 < 64 := by omega
          have q15 : (k : Int) - 15 < 64 := by omega
          have q16 : (k : Int) - 16 < 64 := by omega
          have q7 : (k : Int) - 7 < 64 := by omega
          have w2 : IntKind.i64.wrap ((k : Int) - 2) = (k : Int) - 2 := by rw [IntKind.wrap_i64]; omega
          have w15 : IntKind.i64.wrap ((k : Int) - 15) = (k : Int) - 15 := by rw [IntKind.wrap_i64]; omega
          have w16 : IntKind.i64.wrap ((k : Int) - 16) = (k : Int) - 16 := by rw [IntKind.wrap_i64]; omega
          have w7 : IntKind.i64.wrap ((k : Int) - 7) = (k : Int) - 7 := by rw [IntKind.wrap_i64]; omega
          obtain ⟨u, hu⟩ := Option.isSome_iff_exists.1 (X.out.1.thr k (by omega)).1
          have hz := (X.out.1.thr k (by omega)).2
          go_wp2
          go_quiet (fail)
          have X' : Hid (Spr f w (wr.drewN nq) k) := X.out.drewN nq
          have d16 : (wr.drewN nq).cell? ⟨w.heap.size + 1, k - 16, none⟩ = some (.int .u32 s16) := c16
          have d7 : (wr.drewN nq).cell? ⟨w.heap.size + 1, k - 7, none⟩ = some (.int .u32 s7) := c7
          have du : (wr.drewN nq).cell? ⟨w.heap.size + 1, k, none⟩ = some u := hu
          have dz : (wr.drewN nq).frozen? ⟨w.heap.size + 1, k, none⟩ = false := hz
          obtain ⟨wx, hwx⟩ : ∃ wx, wx = wr.drewN nq := ⟨_, rfl⟩
          rw [← hwx] at X' d16 d7 du dz
          rw [← hwx]
          clear hwx X c2 c15 c16 c7 hu hz
          have k16 : k ≠ k - 16 := by omega
          have k7 : k ≠ k - 7 := by omega
          have M : Hid (∀ v, ((wx.setCell ⟨w.heap.size + 1, k, none⟩ v).drew.cell? ⟨w.heap.size + 1, k - 16, none⟩ = some (.int .u32 s16)) ∧ ((wx.setCell ⟨w.heap.size + 1, k, none⟩ v).drew.cell? ⟨w.heap.size + 1, k - 7, none⟩ = some (.int .u32 s7))) := fun v =>
            ⟨(World.cell?_setCell_other wx ⟨w.heap.size + 1, k, none⟩ ⟨w.heap.size + 1, k - 16, none⟩ v (fun he => k16 (congrArg Addr.off he))).trans d16, (World.cell?_setCell_other wx ⟨w.heap.size + 1, k, none⟩ ⟨w.heap.size + 1, k - 7, none⟩ v (fun he => k7 (congrArg Addr.off he))).trans d7⟩
          have n1 : 7 ≤ k := by omega
          have n2 : k < 80 := by omega
          have n3 : k < 71 := by omega
          have n4 : (7 : Int) ≤ k := by omega
          have n5 : (16 : Int) ≤ k := by omega
          have n6 : (k : Int) < 80 := by omega
          have n7 : (k : Int) < 71 := by omega
          go_wp2
          go_region_held3 (fun w' => w'.cell? ⟨w.heap.size + 1, k - 16, none⟩ = some (.int .u32 s16) ∧ w'.cell? ⟨w.heap.size + 1, k - 7, none⟩ = some (.int .u32 s7)) (first | exact ⟨d16, d7⟩ | exact M.out _) ((go_at_call 38; (with_reducible refine (turnRight_any _ _ _ (by omega) (by omega)).mono ?_); rintro e w1 ⟨rfl, rfl⟩))
          all_goals
            have X2 : Hid (Spr f w (wx.setCell ⟨w.heap.size + 1, k, none⟩ (.int .u32 (IntKind.u32.wrap (IntKind.u32.wrap (IntKind.u32.wrap (s16 + s7) + bits BinOp.xor IntKind.u32 (bits BinOp.xor IntKind.u32 (rot s15 7) (rot s15 18)) (s15 / 8)) + bits BinOp.xor IntKind.u32 (bits BinOp.xor IntKind.u32 (rot s2 17) (rot s2 19)) (s2 / 1024))))).drew (k + 1)) := (X'.out.set (by omega) _ HS.out.symm).drew
            clear X' M d16 d7 du dz
            go_wp2
            go_roundw
            case rel => exact ⟨k + 1, by omega, by omega, by go_num, X2⟩
            case measure => (simp [intOf]; try omega)
        · have X64 : Hid (Spr f w wr 64) := by
            rw [← show k = 64 by omega]; exact X
          have e64 : (k : Int) = 64 := by omega
          rw [e64]
          clear X e64 hlt hk hk16
          have hr : Hid (wr.rangeAt (w.heap.size + 1) 0 (words (sch f) 64)) := X64.out.1.range
          have ht : Hid (wr.there w.heap.size 0 (words (sch f) 64).toArray.size) := by
            show wr.there w.heap.size 0 _
            rw [words_size]; exact X64.out.2.there
          have hi : Hid ((Tryd.prog.info? 51).map (·.size) = some (words (sch f) 64).length) := by
            show _ = _
            rw [words_len]; exact Tryd.size64
          have hi' : Hid ((Tryd.prog.info? 51).map (·.size) = some (words (sch f) 64).toArray.size) := by
            show _ = _
            rw [words_size]; exact Tryd.size64
          have h1 : Hid ((words (sch f) 64).toArray.all (·.oneCell') = true) := words_oneCell _ _
          have HB : Hid (Below w.heap.size w (wr.setCells w.heap.size 0 (words (sch f) 64).toArray.toList)) := below_setCells (Nat.le_refl _) _ _ _ X64.out.1.bel
          have HL : Hid ((loadVar 51 ⟨w.heap.size, 0, none⟩).run Tryd.prog (wr.setCells w.heap.size 0 (words (sch f) 64).toArray.toList) = .ok (.agg (words (sch f) 64).toArray) (wr.setCells w.heap.size 0 (words (sch f) 64).toArray.toList)) :=
            run_loadVar_mid _ _ _ _ (words (sch f) 64) _ (World.rangeAt_setCells_same wr _ _ _ (by have := ht.out; rw [words_size] at this; rw [words_len]; exact this)) Tryd.underlying51 rfl hi.out
          clear X64
          go_wp2_with (first | (refine wpList_load_mid rfl 51 _ rfl (w.heap.size + 1) 0 rfl (words (sch f) 64) _ hr.out Tryd.underlying51 rfl hi.out ?_) | (refine wpList_store_mid rfl 51 _ _ rfl w.heap.size 0 (words (sch f) 64).toArray rfl rfl ht.out hi'.out h1.out ?_))
          (try simp only [Exit.inBlock, Exit.then])
          exact bodyPost_ret (v := .agg (words (sch f) 64).toArray) (results_one rfl rfl HL.out) rfl ⟨rfl, HB.out⟩
end Go.Proofs.YtimhkeebgogfoabDoor
