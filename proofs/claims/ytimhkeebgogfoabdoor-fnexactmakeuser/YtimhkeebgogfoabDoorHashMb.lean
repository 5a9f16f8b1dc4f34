/- The program's mixBlock: 64 rounds over a state of eight words. -/
import Derived.Test.YtimhkeebgogfoabDoorHashSp
namespace Go.Proofs.YtimhkeebgogfoabDoor
open Go.RowKit Go.PlainAid
set_option linter.unusedVariables false
set_option maxRecDepth 20000

theorem Tryd.size8 : (Tryd.prog.info? 41).map (·.size) = some 8 := by kernel_rfl
/-- What mixBlock holds: the state that came in, the answer's row, the spread block, the state at hand. -/
structure MB (f s0 : Nat → Int) (w wr : World) (q : Nat) (cur : Nat → Int) : Prop where
  c2 : ∀ i, i < 8 → wr.cell? ⟨w.heap.size, i, none⟩ = some (.int .u32 (s0 i))
  free4 : Free wr (w.heap.size + 1) 8
  c5 : ∀ i, i < 64 → wr.cell? ⟨q, i, none⟩ = some (.int .u32 (sch f i))
  c6 : Arr w.heap.size w wr (q + 1) 8 8 cur
  hq : w.heap.size + 2 ≤ q

theorem size_setCells (q : Nat) : ∀ (vs : List Value) (o : Nat) (w : World), (w.setCells q o vs).heap.size = w.heap.size
  | [], o, w => rfl
  | v :: vs, o, w => by
    show ((w.setCell ⟨q, o, none⟩ v).setCells q (o + 1) vs).heap.size = _
    rw [size_setCells q vs (o + 1)]; simp
/-- A row stored whole. -/
theorem Arr.sets {base : Nat} {w wr : World} {q n : Nat} {g : Nat → Int} (hb : Below base w wr) (hf : Free wr q n) (hq : base ≤ q) : Arr base w (wr.setCells q 0 (words g n)) q n n g := by
  have hin : ∀ i, i < n → (wr.setCells q 0 (words g n)).cell? ⟨q, i, none⟩ = some (.int .u32 (g i)) := fun i hi => by
    have := World.rangeAt_setCells_same wr q 0 (words g n) (by rw [words_len]; exact hf.there) i _ (words_at g n i hi)
    rwa [Nat.zero_add] at this
  exact ⟨below_setCells hq _ _ _ hb, by rw [size_setCells]; exact hf.1, hin, fun i hi => ⟨by rw [hin i hi]; rfl, by rw [World.frozen?_setCells]; exact (hf.2 i hi).2⟩⟩
theorem cell_sets {wr : World} {q b i : Nat} (vs : List Value) (h : b ≠ q) : (wr.setCells q 0 vs).cell? ⟨b, i, none⟩ = wr.cell? ⟨b, i, none⟩ :=
  World.cell?_setCells_out _ _ _ _ _ (fun e => absurd e h)
theorem Free.sets {wr : World} {q b n : Nat} (h : Free wr b n) (vs : List Value) (hb : b ≠ q) : Free (wr.setCells q 0 vs) b n :=
  ⟨by rw [size_setCells]; exact h.1, fun i hi => by rw [cell_sets vs hb, World.frozen?_setCells]; exact h.2 i hi⟩
theorem Free.alloc {w : World} {q n : Nat} (h : Free w q n) (o : Obj) : Free (w.alloc o) q n := h.below ((Below.refl w.heap.size w).alloc (Nat.le_refl _) o) h.1

theorem mb_start {LS LW : List Value} {f s0 : Nat → Int} {w w1 : World} (B1 : Below w.heap.size w w1) (F4 : Free w1 (w.heap.size + 1) 8) (R2 : w1.rangeAt w.heap.size 0 LS) (z1 : w.heap.size + 2 ≤ w1.heap.size)
    (c64 : Array Value) (h64 : c64.size = 64) (t64 : TypeId) (c8 : Array Value) (h8 : c8.size = 8) (t8 : TypeId) (hLW : LW = words (sch f) 64) (hLS : LS = words s0 8) {W2 : World} (hW2 : W2 = (w1.alloc (.cells c64 t64)).setCells w1.heap.size 0 LW) :
    MB f s0 w ((W2.alloc (.cells c8 t8)).setCells W2.heap.size 0 LS) w1.heap.size s0 ∧ W2.heap.size = w1.heap.size + 1 := by
  have z2 : W2.heap.size = w1.heap.size + 1 := by rw [hW2, size_setCells]; simp
  have A5 : Arr w.heap.size w W2 w1.heap.size 64 64 (sch f) := by
    rw [hW2, hLW]
    have hf := Free.new w1 c64 t64
    rw [h64] at hf
    exact Arr.sets (B1.alloc (by omega) _) hf (by omega)
  have F4' : Free W2 (w.heap.size + 1) 8 := by
    rw [hW2]
    exact (F4.alloc _).sets _ (by omega)
  have C2 : ∀ i, i < 8 → W2.cell? ⟨w.heap.size, i, none⟩ = some (.int .u32 (s0 i)) := fun i hi => by
    rw [hW2, cell_sets _ (by omega), World.cell?_alloc_lt _ _ _ (by show w.heap.size < _; omega)]
    have := R2 i _ (by rw [hLS]; exact words_at s0 8 i hi)
    rwa [Nat.zero_add] at this
  have hf := Free.new W2 c8 t8
  rw [h8] at hf
  refine ⟨⟨fun i hi => ?_, (F4'.alloc _).sets _ (by omega), fun i hi => ?_, ?_, z1⟩, z2⟩
  · rw [cell_sets _ (by omega), World.cell?_alloc_lt _ _ _ (by show w.heap.size < _; omega)]; exact C2 i hi
  · rw [cell_sets _ (by omega), World.cell?_alloc_lt _ _ _ (by show w1.heap.size < _; omega)]; exact A5.at_ i hi
  · rw [← z2, hLS]
    exact Arr.sets (A5.bel.alloc (by have := A5.bel.size; omega) _) hf (by omega)

theorem all8 (e0 e1 e2 e3 e4 e5 e6 e7 : Int) : (#[Value.int .u32 e0, .int .u32 e1, .int .u32 e2, .int .u32 e3, .int .u32 e4, .int .u32 e5, .int .u32 e6, .int .u32 e7]).all (·.oneCell') = true := by simp [Value.oneCell']
/-- The words of the rounds lie in their variable. -/
def KTab (w : World) : Prop := ∀ i, i < 64 → w.cell? ⟨1, i, none⟩ = some (.int .u32 (KK i))
theorem KTab.below {w w' : World} (h : KTab w) (b : Below w.heap.size w w') : KTab w' := fun i hi => by
  rw [b.cell (World.block_lt_of_cell? w _ (h i hi))]
  exact h i hi
theorem MB.drewN {f s0 : Nat → Int} {w wr : World} {q : Nat} {cur : Nat → Int} (h : MB f s0 w wr q cur) (n : Nat) : MB f s0 w (wr.drewN n) q cur :=
  ⟨h.c2, h.free4, h.c5, ⟨⟨h.c6.bel.os, h.c6.bel.tape, h.c6.bel.output, h.c6.bel.size, h.c6.bel.block⟩, h.c6.lt, h.c6.at_, h.c6.thr⟩, h.hq⟩
theorem MB.drew {f s0 : Nat → Int} {w wr : World} {q : Nat} {cur : Nat → Int} (h : MB f s0 w wr q cur) : MB f s0 w wr.drew q cur :=
  ⟨h.c2, h.free4, h.c5, ⟨⟨h.c6.bel.os, h.c6.bel.tape, h.c6.bel.output, h.c6.bel.size, h.c6.bel.block⟩, h.c6.lt, h.c6.at_, h.c6.thr⟩, h.hq⟩
theorem MB.sets {f s0 : Nat → Int} {w wr : World} {q : Nat} {cur g : Nat → Int} (h : MB f s0 w wr q cur) (L : List Value) (hL : L = words g 8) : MB f s0 w (wr.setCells (q + 1) 0 L) q g := by
  subst hL
  have hq := h.hq
  exact ⟨fun i hi => by rw [cell_sets _ (by omega)]; exact h.c2 i hi, h.free4.sets _ (by omega), fun i hi => by rw [cell_sets _ (by omega)]; exact h.c5 i hi, Arr.sets h.c6.bel ⟨h.c6.lt, h.c6.thr⟩ (by omega), hq⟩

theorem MB.set {f s0 : Nat → Int} {w wr : World} {q : Nat} {c : Nat → Int} {k : Nat} (h : MB f s0 w wr q (fin8 c s0 k)) (hk : k < 8) (x : Int) (hx : x = (c k + s0 k) % 4294967296) : MB f s0 w (wr.setCell ⟨q + 1, k, none⟩ (.int .u32 x)) q (fin8 c s0 (k + 1)) := by
  subst hx
  have hq := h.hq
  have far : ∀ (b i : Nat), b ≠ q + 1 → (wr.setCell ⟨q + 1, k, none⟩ (.int .u32 ((c k + s0 k) % 4294967296))).cell? ⟨b, i, none⟩ = wr.cell? ⟨b, i, none⟩ := fun b i hb =>
    World.cell?_setCell_other _ _ _ _ (fun he => hb (congrArg Addr.block he).symm)
  refine ⟨fun i hi => by rw [far _ _ (by omega)]; exact h.c2 i hi, h.free4.set (by show q + 1 ≠ _; omega) _, fun i hi => by rw [far _ _ (by omega)]; exact h.c5 i hi, ⟨h.c6.bel.setCell (by show w.heap.size ≤ q + 1; omega) _, by simpa using h.c6.lt, fun i hi => ?_, fun i hi => ?_⟩, hq⟩
  · by_cases e : i = k
    · subst e
      rw [World.cell?_setCell_same _ _ _ (h.c6.at_ i hi), fin8, if_pos (by omega)]
    · rw [World.cell?_setCell_other _ _ _ _ (fun he => e (congrArg Addr.off he).symm), h.c6.at_ i hi]
      unfold fin8
      by_cases hik : i < k
      · rw [if_pos hik, if_pos (by omega)]
      · rw [if_neg hik, if_neg (by omega)]
  · refine ⟨?_, by rw [World.frozen?_setCell]; exact (h.c6.thr i hi).2⟩
    by_cases e : i = k
    · subst e
      rw [World.cell?_setCell_same _ _ _ (h.c6.at_ i hi)]; rfl
    · rw [World.cell?_setCell_other _ _ _ _ (fun he => e (congrArg Addr.off he).symm)]; exact (h.c6.thr i hi).1

set_option maxHeartbeats 2000000 in
theorem mixBlock_any (s0 : Nat → Int) (a : Option Addr) (f : Nat → Int) (w : World) (hT : KTab w) (h : Bytes w a 64 f) (hlt : ∀ b off, a = some ⟨b, off, none⟩ → b < w.heap.size) :
    Calls Tryd.prog 30 #[.agg (words s0 8).toArray, .slice a 64 64] w fun e w' => e = .returned (.agg (words (blk f s0) 8).toArray) ∧ Below w.heap.size w w' := by
  have hB : Hid (Bytes w a 64 f) := h
  have hL : Hid (∀ b off, a = some ⟨b, off, none⟩ → b < w.heap.size) := hlt
  have HT : Hid (KTab w) := hT
  clear h hlt hT
  obtain ⟨LS, hLS⟩ : ∃ L, L = words s0 8 := ⟨_, rfl⟩
  obtain ⟨LW, hLW⟩ : ∃ L, L = words (sch f) 64 := ⟨_, rfl⟩
  rw [← hLS]
  have hsp : Hid (∀ (w : World), Bytes w a 64 f → (∀ b off, a = some ⟨b, off, none⟩ → b < w.heap.size) → Calls Tryd.prog 34 #[.slice a 64 64] w fun e w' => e = .returned (.agg LW.toArray) ∧ Below w.heap.size w w') := fun w h1 h2 => by
    rw [hLW]; exact spreadBlock_any a f w h1 h2
  have sLW : Hid (LW.toArray.size = 64) := by show _ = _; rw [hLW]; exact words_size _ _
  have sLS : Hid (LS.length = 8) := by show _ = _; rw [hLS]; exact words_len _ _
  have sLS8 : Hid (LS.toArray.size = 8) := by show _ = _; rw [hLS]; exact words_size _ _
  have oLW : Hid (LW.toArray.all (·.oneCell') = true) := by show _ = _; rw [hLW]; exact words_oneCell _ _
  have oLS : Hid (LS.toArray.all (·.oneCell') = true) := by show _ = _; rw [hLS]; exact words_oneCell _ _
  have HLS : Hid (LS = words s0 8) := hLS
  have HLW : Hid (LW = words (sch f) 64) := hLW
  clear hLS hLW
  go_enter Tryd.func30, Tryd.ntmps30
  go_wp2_with fail
  obtain ⟨W0, hW0⟩ : ∃ W0, W0 = (w.alloc (.cells LS.toArray 41)).alloc (.cells #[.int .u32 0, .int .u32 0, .int .u32 0, .int .u32 0, .int .u32 0, .int .u32 0, .int .u32 0, .int .u32 0] 41) := ⟨_, rfl⟩
  rw [← hW0]
  have B0 : Hid (Below w.heap.size w W0) := by
    show Below _ _ _
    rw [hW0]; exact ((Below.refl _ _).alloc (Nat.le_refl _) _).alloc (by simp) _
  have z0 : W0.heap.size = w.heap.size + 2 := by rw [hW0]; simp
  have R2 : Hid (W0.rangeAt w.heap.size 0 LS) := by
    show World.rangeAt _ _ _ _
    intro j v hv
    rw [hW0, Nat.zero_add, World.cell?_alloc_lt _ _ _ (by simp), World.cell?_alloc_new]
    simpa using hv
  have F4 : Hid (Free W0 (w.heap.size + 1) 8) := by
    show Free _ _ _
    rw [hW0]
    have := Free.new (w.alloc (.cells LS.toArray 41)) #[.int .u32 0, .int .u32 0, .int .u32 0, .int .u32 0, .int .u32 0, .int .u32 0, .int .u32 0, .int .u32 0] 41
    simpa using this
  refine (hsp.out W0 (hB.out.below B0.out (fun b off _ h2 => hL.out b off h2)) (fun b off h2 => by have := hL.out b off h2; omega)).mono ?_
  rintro e w1 ⟨rfl, b1⟩
  have R2' : Hid (w1.rangeAt w.heap.size 0 LS) := fun j v hv => by rw [b1.cell (p := ⟨w.heap.size, 0 + j, none⟩) (by show w.heap.size < _; omega)]; exact R2.out j v hv
  have F4' : Hid (Free w1 (w.heap.size + 1) 8) := F4.out.below b1 (by omega)
  have B1 : Hid (Below w.heap.size w w1) := B0.out.trans (b1.mono (by omega))
  have z1 : w.heap.size + 2 ≤ w1.heap.size := by have := b1.size; omega
  clear R2 F4 B0 b1 hB hL z0 hW0 hsp
  have R3 : Hid (∀ (o : Obj) (V : List Value), ((w1.alloc o).setCells w1.heap.size 0 V).rangeAt w.heap.size 0 LS) := fun o V j v hv => by
    rw [World.cell?_setCells_out _ _ _ _ _ (fun h => by have : w.heap.size = w1.heap.size := h; omega), World.cell?_alloc_lt _ _ _ (by show w.heap.size < _; omega)]
    exact R2'.out j v hv
  go_wp2_with (first
    | (refine wpList_store_mid rfl 51 _ _ rfl _ 0 LW.toArray rfl rfl (there_new _ _ _ _ sLW.out.symm) (by rw [sLW.out]; exact Tryd.size64) oLW.out ?_)
    | (refine wpList_load_mid rfl 41 _ rfl w.heap.size 0 rfl LS _ (R3.out _ _) Tryd.underlying41 rfl (by rw [sLS.out]; exact Tryd.size8) ?_)
    | (refine wpList_store_mid rfl 41 _ _ rfl _ 0 LS.toArray rfl rfl (there_new _ _ _ _ sLS8.out.symm) (by rw [sLS8.out]; exact Tryd.size8) oLS.out ?_))
  obtain ⟨W2, hW2⟩ : ∃ W2, W2 = (w1.alloc (.cells #[.int .u32 0, .int .u32 0, .int .u32 0, .int .u32 0, .int .u32 0, .int .u32 0, .int .u32 0, .int .u32 0, .int .u32 0, .int .u32 0, .int .u32 0, .int .u32 0, .int .u32 0, .int .u32 0, .int .u32 0, .int .u32 0, .int .u32 0, .int .u32 0, .int .u32 0, .int .u32 0, .int .u32 0, .int .u32 0, .int .u32 0, .int .u32 0, .int .u32 0, .int .u32 0, .int .u32 0, .int .u32 0, .int .u32 0, .int .u32 0, .int .u32 0, .int .u32 0, .int .u32 0, .int .u32 0, .int .u32 0, .int .u32 0, .int .u32 0, .int .u32 0, .int .u32 0, .int .u32 0, .int .u32 0, .int .u32 0, .int .u32 0, .int .u32 0, .int .u32 0, .int .u32 0, .int .u32 0, .int .u32 0, .int .u32 0, .int .u32 0, .int .u32 0, .int .u32 0, .int .u32 0, .int .u32 0, .int .u32 0, .int .u32 0, .int .u32 0, .int .u32 0, .int .u32 0, .int .u32 0, .int .u32 0, .int .u32 0, .int .u32 0, .int .u32 0] 51)).setCells w1.heap.size 0 LW := ⟨_, rfl⟩
  rw [← hW2]
  have M0 : MB f s0 w ((W2.alloc (.cells #[.int .u32 0, .int .u32 0, .int .u32 0, .int .u32 0, .int .u32 0, .int .u32 0, .int .u32 0, .int .u32 0] 41)).setCells W2.heap.size 0 LS) w1.heap.size s0 ∧ W2.heap.size = w1.heap.size + 1 := by
    exact mb_start B1.out F4'.out R2'.out z1 #[.int .u32 0, .int .u32 0, .int .u32 0, .int .u32 0, .int .u32 0, .int .u32 0, .int .u32 0, .int .u32 0, .int .u32 0, .int .u32 0, .int .u32 0, .int .u32 0, .int .u32 0, .int .u32 0, .int .u32 0, .int .u32 0, .int .u32 0, .int .u32 0, .int .u32 0, .int .u32 0, .int .u32 0, .int .u32 0, .int .u32 0, .int .u32 0, .int .u32 0, .int .u32 0, .int .u32 0, .int .u32 0, .int .u32 0, .int .u32 0, .int .u32 0, .int .u32 0, .int .u32 0, .int .u32 0, .int .u32 0, .int .u32 0, .int .u32 0, .int .u32 0, .int .u32 0, .int .u32 0, .int .u32 0, .int .u32 0, .int .u32 0, .int .u32 0, .int .u32 0, .int .u32 0, .int .u32 0, .int .u32 0, .int .u32 0, .int .u32 0, .int .u32 0, .int .u32 0, .int .u32 0, .int .u32 0, .int .u32 0, .int .u32 0, .int .u32 0, .int .u32 0, .int .u32 0, .int .u32 0, .int .u32 0, .int .u32 0, .int .u32 0, .int .u32 0] rfl _ #[.int .u32 0, .int .u32 0, .int .u32 0, .int .u32 0, .int .u32 0, .int .u32 0, .int .u32 0, .int .u32 0] rfl _ HLW.out HLS.out hW2
  obtain ⟨M0, z2⟩ := M0
  have X : Hid (MB f s0 w ((W2.alloc (.cells #[.int .u32 0, .int .u32 0, .int .u32 0, .int .u32 0, .int .u32 0, .int .u32 0, .int .u32 0, .int .u32 0] 41)).setCells W2.heap.size 0 LS) w1.heap.size s0) := M0
  obtain ⟨W3, hW3⟩ : ∃ W3, W3 = (W2.alloc (.cells #[.int .u32 0, .int .u32 0, .int .u32 0, .int .u32 0, .int .u32 0, .int .u32 0, .int .u32 0, .int .u32 0] 41)).setCells W2.heap.size 0 LS := ⟨_, rfl⟩
  rw [← hW3] at X
  rw [← hW3, z2]
  clear hW3 hW2 M0 R3 R2' F4' B1 z2
  obtain ⟨q, hq⟩ : ∃ q, q = w1.heap.size := ⟨_, rfl⟩
  rw [← hq] at X
  rw [← hq]
  clear hq z1 sLW sLS sLS8 oLW oLS HLS HLW
  go_loopw [14] (fun i wr => ∃ k : Nat, k ≤ 64 ∧ i = .int .i64 k ∧ Hid (MB f s0 w wr q (stR f s0 k))) (fun i _ => 64 - (intOf i).toNat)
  case atStart => exact ⟨0, Nat.zero_le _, rfl, X⟩
  case round =>
    clear X
    obtain ⟨k, hk, rfl, X⟩ := hrel
    by_cases hlt : k < 64
    · have HK : Hid (KTab wr) := (HT.out.below X.out.c6.bel)
      have cK := HK.out k hlt
      have cW := X.out.c5 k hlt
      have k0 : (0 : Int) ≤ (k : Int) := by omega
      have k1 : (k : Int) < 64 := by omega
      have HR : Hid (stR f s0 (k + 1) = rnd (KK k) (sch f k) (stR f s0 k)) := rfl
      obtain ⟨cur, hcur⟩ : ∃ c, c = stR f s0 k := ⟨_, rfl⟩
      obtain ⟨kc, hkc⟩ : ∃ z, z = KK k := ⟨_, rfl⟩
      obtain ⟨wc, hwc⟩ : ∃ z, z = sch f k := ⟨_, rfl⟩
      rw [← hcur, ← hkc, ← hwc] at HR
      rw [← hkc] at cK
      rw [← hwc] at cW
      rw [← hcur] at X
      clear hcur hkc hwc
      have c0 := X.out.c6.at_ 0 (by omega)
      have c1 := X.out.c6.at_ 1 (by omega)
      have c2 := X.out.c6.at_ 2 (by omega)
      have c3 := X.out.c6.at_ 3 (by omega)
      have c4 := X.out.c6.at_ 4 (by omega)
      have c5 := X.out.c6.at_ 5 (by omega)
      have c6 := X.out.c6.at_ 6 (by omega)
      have c7 := X.out.c6.at_ 7 (by omega)
      go_wp2
      go_quiet ((go_at_call 35; exact Calls.quiet_of_same (turnSum_any _ _ _ _ _ (by omega) (by omega) (by omega) (by omega) (by omega) (by omega))))
      have X1 : Hid (MB f s0 w (wr.drewN nq) q cur) := X.out.drewN nq
      obtain ⟨wx, hwx⟩ : ∃ wx, wx = wr.drewN nq := ⟨_, rfl⟩
      rw [← hwx] at X1
      rw [← hwx]
      clear hwx X cK cW c0 c1 c2 c3 c4 c5 c6 c7 HK
      have c0 := X1.out.c6.at_ 0 (by omega)
      have c1 := X1.out.c6.at_ 1 (by omega)
      have c2 := X1.out.c6.at_ 2 (by omega)
      have c3 := X1.out.c6.at_ 3 (by omega)
      have c4 := X1.out.c6.at_ 4 (by omega)
      have c5 := X1.out.c6.at_ 5 (by omega)
      have c6 := X1.out.c6.at_ 6 (by omega)
      have c7 := X1.out.c6.at_ 7 (by omega)
      go_wp2
      go_quiet ((go_at_call 35; exact Calls.quiet_of_same (turnSum_any _ _ _ _ _ (by omega) (by omega) (by omega) (by omega) (by omega) (by omega))))
      have X2 : Hid (MB f s0 w (wx.drewN nq) q cur) := X1.out.drewN nq
      obtain ⟨wy, hwy⟩ : ∃ wx', wx' = wx.drewN nq := ⟨_, rfl⟩
      rw [← hwy] at X2
      rw [← hwy]
      clear hwy X1 c0 c1 c2 c3 c4 c5 c6 c7
      have c0 := X2.out.c6.at_ 0 (by omega)
      have c1 := X2.out.c6.at_ 1 (by omega)
      have c2 := X2.out.c6.at_ 2 (by omega)
      have c3 := X2.out.c6.at_ 3 (by omega)
      have c4 := X2.out.c6.at_ 4 (by omega)
      have c5 := X2.out.c6.at_ 5 (by omega)
      have c6 := X2.out.c6.at_ 6 (by omega)
      have c7 := X2.out.c6.at_ 7 (by omega)
      have ht : Hid (wy.there (q + 1) 0 8) := (show Free wy (q + 1) 8 from ⟨X2.out.c6.lt, X2.out.c6.thr⟩).there
      go_wp2_with (refine wpList_store_mid rfl 41 _ _ rfl (q + 1) 0 _ rfl rfl ?sa ?sb ?sc ?sd; (case sa => exact ht.out); (case sb => exact Tryd.size8); (case sc => exact all8 _ _ _ _ _ _ _ _))
      go_roundw
      case rel =>
        refine ⟨k + 1, by omega, by go_num, X2.out.sets _ (words8 ?_ ?_ ?_ ?_ ?_ ?_ ?_ ?_)⟩
        · rw [HR.out]
          show _ = (dnm (cur 4) (cur 5) (cur 6) (cur 7) kc wc + upm (cur 0) (cur 1) (cur 2)) % 4294967296
          unfold dnm upm chm mjm
          omega
        · rw [HR.out]; rfl
        · rw [HR.out]; rfl
        · rw [HR.out]; rfl
        · rw [HR.out]
          show _ = (cur 3 + dnm (cur 4) (cur 5) (cur 6) (cur 7) kc wc) % 4294967296
          unfold dnm chm
          omega
        · rw [HR.out]; rfl
        · rw [HR.out]; rfl
        · rw [HR.out]; rfl
      case measure => (simp [intOf]; try omega)
    · have X64 : Hid (MB f s0 w wr q (fin8 (stR f s0 64) s0 0)) := by
        rw [show k = 64 by omega] at X
        exact X
      have e64 : (k : Int) = 64 := by omega
      rw [e64]
      clear X e64 hlt hk HT
      obtain ⟨c, hc⟩ : ∃ c, c = stR f s0 64 := ⟨_, rfl⟩
      have HC : Hid (c = stR f s0 64) := hc
      rw [← hc] at X64
      clear hc
      go_wp2
      go_loopw [86] (fun i wr => ∃ k : Nat, k ≤ 8 ∧ i = .int .i64 k ∧ Hid (MB f s0 w wr q (fin8 c s0 k))) (fun i _ => 8 - (intOf i).toNat)
      case atStart => exact ⟨0, Nat.zero_le _, rfl, X64⟩
      case round =>
        clear X64
        obtain ⟨k, hk, rfl, X⟩ := hrel
        by_cases hlt : k < 8
        · have d6 := X.out.c6.at_ k hlt
          have d6' : fin8 c s0 k k = c k := by unfold fin8; rw [if_neg (by omega)]
          rw [d6'] at d6
          have d2 := X.out.c2 k hlt
          have dz := (X.out.c6.thr k hlt).2
          have k0 : (0 : Int) ≤ (k : Int) := by omega
          have k1 : (k : Int) < 8 := by omega
          have hq := X.out.hq
          have nq : q + 1 ≠ w.heap.size := by omega
          clear d6'
          obtain ⟨ck, hck⟩ : ∃ z, z = c k := ⟨_, rfl⟩
          obtain ⟨sk, hsk⟩ : ∃ z, z = s0 k := ⟨_, rfl⟩
          have HS : Hid (ck = c k ∧ sk = s0 k) := ⟨hck, hsk⟩
          rw [← hck] at d6
          rw [← hsk] at d2
          clear hck hsk
          go_wp2
          go_region
          have X2 : Hid (MB f s0 w (wr.setCell ⟨q + 1, k, none⟩ (.int .u32 ((ck + sk) % 4294967296))).drew q (fin8 c s0 (k + 1))) := (X.out.set hlt _ (by rw [HS.out.1, HS.out.2])).drew
          clear X d6 d2 dz HS
          go_wp2
          go_roundw
          case rel => exact ⟨k + 1, by omega, by go_num, X2⟩
          case measure => (simp [intOf]; try omega)
        · have X8 : Hid (MB f s0 w wr q (fin8 c s0 8)) := by
            rw [← show k = 8 by omega]; exact X
          have e8 : (k : Int) = 8 := by omega
          rw [e8]
          clear X e8 hlt hk
          have hq := X8.out.hq
          obtain ⟨LB, hLB⟩ : ∃ L, L = words (fin8 c s0 8) 8 := ⟨_, rfl⟩
          have HLB : Hid (LB = words (blk f s0) 8) := by
            show LB = _
            rw [hLB]
            exact words_congr fun i hi => by rw [fin8, if_pos hi, HC.out]; rfl
          have hr : Hid (wr.rangeAt (q + 1) 0 LB) := by rw [hLB]; exact X8.out.c6.range
          have sLB : Hid (LB.length = 8) := by rw [hLB]; exact words_len _ _
          have sLB8 : Hid (LB.toArray.size = 8) := by rw [hLB]; exact words_size _ _
          have oLB : Hid (LB.toArray.all (·.oneCell') = true) := by rw [hLB]; exact words_oneCell _ _
          have ht : Hid (wr.there (w.heap.size + 1) 0 LB.toArray.size) := by
            show wr.there _ _ _
            rw [sLB8.out]; exact X8.out.free4.there
          have HB : Hid (Below w.heap.size w (wr.setCells (w.heap.size + 1) 0 LB)) := below_setCells (by omega) _ _ _ X8.out.c6.bel
          have HL : Hid ((loadVar 41 ⟨w.heap.size + 1, 0, none⟩).run Tryd.prog (wr.setCells (w.heap.size + 1) 0 LB) = .ok (.agg LB.toArray) (wr.setCells (w.heap.size + 1) 0 LB)) :=
            run_loadVar_mid _ _ _ _ LB _ (World.rangeAt_setCells_same wr _ _ _ (by rw [sLB.out]; exact X8.out.free4.there)) Tryd.underlying41 rfl (by rw [sLB.out]; exact Tryd.size8)
          clear X8 hLB
          go_wp2_with (first
            | (refine wpList_load_mid rfl 41 _ rfl (q + 1) 0 rfl LB _ hr.out Tryd.underlying41 rfl (by rw [sLB.out]; exact Tryd.size8) ?_)
            | (refine wpList_store_mid rfl 41 _ _ rfl (w.heap.size + 1) 0 LB.toArray rfl rfl ht.out (by rw [sLB8.out]; exact Tryd.size8) oLB.out ?_))
          (try simp only [Exit.inBlock, Exit.then])
          exact bodyPost_ret (v := .agg LB.toArray) (results_one rfl rfl HL.out) rfl ⟨by rw [HLB.out], HB.out⟩
end Go.Proofs.YtimhkeebgogfoabDoor
