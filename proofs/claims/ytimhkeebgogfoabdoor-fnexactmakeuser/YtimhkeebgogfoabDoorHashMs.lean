/- The program's mixBlocks: from a state on, block by block. -/
import Derived.Test.YtimhkeebgogfoabDoorHashMb
namespace Go.Proofs.YtimhkeebgogfoabDoor
open Go.RowKit Go.PlainAid
set_option linter.unusedVariables false
set_option maxRecDepth 20000

/-- The state at hand, and the answer's row. -/
structure MS (w wr : World) (cur : Nat → Int) : Prop where
  c2 : Arr w.heap.size w wr w.heap.size 8 8 cur
  free4 : Free wr (w.heap.size + 1) 8
theorem MS.drew {w wr : World} {cur : Nat → Int} (h : MS w wr cur) : MS w wr.drew cur :=
  ⟨⟨⟨h.c2.bel.os, h.c2.bel.tape, h.c2.bel.output, h.c2.bel.size, h.c2.bel.block⟩, h.c2.lt, h.c2.at_, h.c2.thr⟩, h.free4⟩
theorem MS.below {w wr w' : World} {cur : Nat → Int} (h : MS w wr cur) (b : Below wr.heap.size wr w') : MS w w' cur := by
  have l2 := h.c2.lt
  have l4 := h.free4.1
  refine ⟨⟨h.c2.bel.trans (b.mono (by omega)), Nat.lt_of_lt_of_le l2 b.size, fun i hi => ?_, fun i hi => ?_⟩, h.free4.below b l4⟩
  · rw [b.cell (p := ⟨w.heap.size, i, none⟩) l2]; exact h.c2.at_ i hi
  · rw [b.cell (p := ⟨w.heap.size, i, none⟩) l2, b.frozen (p := ⟨w.heap.size, i, none⟩) l2]; exact h.c2.thr i hi
theorem MS.sets {w wr : World} {cur g : Nat → Int} (h : MS w wr cur) (L : List Value) (hL : L = words g 8) : MS w (wr.setCells w.heap.size 0 L) g := by
  subst hL
  exact ⟨Arr.sets h.c2.bel ⟨h.c2.lt, h.c2.thr⟩ (Nat.le_refl _), h.free4.sets _ (by omega)⟩

set_option maxHeartbeats 2000000 in
theorem mixBlocks_any (s0 : Nat → Int) (a : Option Addr) (n cap : Nat) (f : Nat → Int) (w : World) (hn : n ≤ 2000) (hc : 64 * n ≤ cap) (hx : cap ≤ 9223372036854775807) (hT : KTab w) (h : Bytes w a (64 * n) f) (hlt : ∀ b off, 0 < n → a = some ⟨b, off, none⟩ → b < w.heap.size) :
    Calls Tryd.prog 23 #[.agg (words s0 8).toArray, .slice a ((64 * n : Nat)) cap] w fun e w' => e = .returned (.agg (words (stB f s0 n) 8).toArray) ∧ Below w.heap.size w w' := by
  have hB : Hid (Bytes w a (64 * n) f) := h
  have hL : Hid (∀ b off, 0 < n → a = some ⟨b, off, none⟩ → b < w.heap.size) := hlt
  have HT : Hid (KTab w) := hT
  clear h hlt hT
  obtain ⟨len, hlen⟩ : ∃ l, l = 64 * n := ⟨_, rfl⟩
  rw [← hlen] at hc
  rw [← hlen]
  have HN : Hid (len = 64 * n) := hlen
  have hl : len ≤ 128000 := by omega
  clear hlen
  have M0 : Hid (MS w ((w.alloc (.cells (words s0 8).toArray 41)).alloc (.cells #[.int .u32 0, .int .u32 0, .int .u32 0, .int .u32 0, .int .u32 0, .int .u32 0, .int .u32 0, .int .u32 0] 41)) (stB f s0 0)) := by
    have F2 := Free.new w (words s0 8).toArray 41
    rw [words_size] at F2
    have F4 := Free.new (w.alloc (.cells (words s0 8).toArray 41)) #[.int .u32 0, .int .u32 0, .int .u32 0, .int .u32 0, .int .u32 0, .int .u32 0, .int .u32 0, .int .u32 0] 41
    have z1 : (w.alloc (.cells (words s0 8).toArray 41)).heap.size = w.heap.size + 1 := by simp
    rw [z1] at F4
    have F2' := F2.alloc (.cells #[.int .u32 0, .int .u32 0, .int .u32 0, .int .u32 0, .int .u32 0, .int .u32 0, .int .u32 0, .int .u32 0] 41)
    refine ⟨⟨((Below.refl _ _).alloc (Nat.le_refl _) _).alloc (by simp) _, F2'.1, fun i hi => ?_, F2'.2⟩, F4⟩
    rw [World.cell?_alloc_lt _ _ _ (by simp), World.cell?_alloc_new]
    have := words_at s0 8 i hi
    show _ = some (Value.int .u32 (s0 i))
    simpa using this
  obtain ⟨LS, hLS⟩ : ∃ L, L = words s0 8 := ⟨_, rfl⟩
  rw [← hLS]
  rw [← hLS] at M0
  clear hLS
  go_enter Tryd.func23, Tryd.ntmps23
  go_wp2
  go_loopw [5] (fun i wr => ∃ k : Nat, k ≤ n ∧ i = .int .i64 (64 * (k : Int)) ∧ Hid (MS w wr (stB f s0 k))) (fun i _ => len - (intOf i).toNat)
  case atStart => exact ⟨0, Nat.zero_le _, rfl, M0⟩
  case round =>
    clear M0
    obtain ⟨k, hk, rfl, X⟩ := hrel
    by_cases hlt : k < n
    · have l1 : (64 * (k : Int)) < (len : Int) := by have := HN.out; omega
      obtain ⟨b, off, ha, -⟩ := hB.out.2 (by have := HN.out; omega)
      have HP : Hid (∀ wx, Calls Tryd.prog 31 #[.slice (some ⟨b, off, none⟩) len cap, .int .i64 (64 * (k : Int)), .int .i64 64] wx fun e w' => e = .returned (.slice (some ⟨b, off + 64 * k, none⟩) 64 64) ∧ w' = wx) := fun wx => by
        have := part_any b off len cap (64 * k) 64 wx (by have := HN.out; omega) hx
        rw [show (((64 * k : Nat)) : Int) = 64 * (k : Int) by omega] at this
        exact this.mono fun e w' ⟨a', he, h1, h2⟩ => ⟨by rw [he, h1 (by omega)], h2⟩
      obtain ⟨cur, hcur⟩ : ∃ c, c = stB f s0 k := ⟨_, rfl⟩
      have HR : Hid (stB f s0 (k + 1) = blk (fun j => f (64 * k + j)) cur) := by show _ = _; rw [hcur]; rfl
      rw [← hcur] at X
      clear hcur
      have HM : Hid (∀ wx, MS w wx cur → Calls Tryd.prog 30 #[.agg #[.int .u32 (cur 0), .int .u32 (cur 1), .int .u32 (cur 2), .int .u32 (cur 3), .int .u32 (cur 4), .int .u32 (cur 5), .int .u32 (cur 6), .int .u32 (cur 7)], .slice (some ⟨b, off + 64 * k, none⟩) 64 64] wx fun e w' => e = .returned (.agg #[.int .u32 (stB f s0 (k + 1) 0), .int .u32 (stB f s0 (k + 1) 1), .int .u32 (stB f s0 (k + 1) 2), .int .u32 (stB f s0 (k + 1) 3), .int .u32 (stB f s0 (k + 1) 4), .int .u32 (stB f s0 (k + 1) 5), .int .u32 (stB f s0 (k + 1) 6), .int .u32 (stB f s0 (k + 1) 7)]) ∧ Below wx.heap.size wx w') := fun wx hm => by
        rw [HR.out]
        have hby : Bytes wx (some ⟨b, off, none⟩) (64 * n) f := by rw [← ha]; exact hB.out.below hm.c2.bel (fun b' off' _ h2 => hL.out b' off' (by omega) h2)
        have bl := hL.out b off (by omega) ha
        exact mixBlock_any cur (some ⟨b, off + 64 * k, none⟩) (fun j => f (64 * k + j)) wx (HT.out.below hm.c2.bel) (hby.part (64 * k) 64 (by omega) _ (fun _ => rfl)) (fun b' off' h2 => by cases h2; have := hm.c2.lt; omega)
      obtain ⟨nx, hnx⟩ : ∃ c, c = stB f s0 (k + 1) := ⟨_, rfl⟩
      have HNX : Hid (nx = stB f s0 (k + 1)) := hnx
      rw [← hnx] at HM
      clear hnx
      have c0 := X.out.c2.at_ 0 (by omega)
      have c1 := X.out.c2.at_ 1 (by omega)
      have c2 := X.out.c2.at_ 2 (by omega)
      have c3 := X.out.c2.at_ 3 (by omega)
      have c4 := X.out.c2.at_ 4 (by omega)
      have c5 := X.out.c2.at_ 5 (by omega)
      have c6 := X.out.c2.at_ 6 (by omega)
      have c7 := X.out.c2.at_ 7 (by omega)
      subst ha
      go_wp2
      go_region_with (first
        | (go_at_call 31; (with_reducible refine (HP.out _).mono ?_); rintro e w' ⟨rfl, rfl⟩)
        | (go_at_call 30; (with_reducible refine (HM.out _ X.out.drew).mono ?_); rintro e w2 ⟨rfl, b2⟩; have X2 : Hid (MS w w2 cur) := X.out.drew.below b2; clear b2; have d0 := X2.out.c2.at_ 0 (by omega); have y0 := (X2.out.c2.thr 0 (by omega)).2; have d1 := X2.out.c2.at_ 1 (by omega); have y1 := (X2.out.c2.thr 1 (by omega)).2; have d2 := X2.out.c2.at_ 2 (by omega); have y2 := (X2.out.c2.thr 2 (by omega)).2; have d3 := X2.out.c2.at_ 3 (by omega); have y3 := (X2.out.c2.thr 3 (by omega)).2; have d4 := X2.out.c2.at_ 4 (by omega); have y4 := (X2.out.c2.thr 4 (by omega)).2; have d5 := X2.out.c2.at_ 5 (by omega); have y5 := (X2.out.c2.thr 5 (by omega)).2; have d6 := X2.out.c2.at_ 6 (by omega); have y6 := (X2.out.c2.thr 6 (by omega)).2; have d7 := X2.out.c2.at_ 7 (by omega); have y7 := (X2.out.c2.thr 7 (by omega)).2;  clear X c0 c1 c2 c3 c4 c5 c6 c7))
      all_goals
        have X3 : Hid (MS w ((((((((w2.setCell ⟨w.heap.size, 0, none⟩ (.int .u32 (nx 0))).setCell ⟨w.heap.size, 1, none⟩ (.int .u32 (nx 1))).setCell ⟨w.heap.size, 2, none⟩ (.int .u32 (nx 2))).setCell ⟨w.heap.size, 3, none⟩ (.int .u32 (nx 3))).setCell ⟨w.heap.size, 4, none⟩ (.int .u32 (nx 4))).setCell ⟨w.heap.size, 5, none⟩ (.int .u32 (nx 5))).setCell ⟨w.heap.size, 6, none⟩ (.int .u32 (nx 6))).setCell ⟨w.heap.size, 7, none⟩ (.int .u32 (nx 7))) nx) := X2.out.sets (g := nx) [.int .u32 (nx 0), .int .u32 (nx 1), .int .u32 (nx 2), .int .u32 (nx 3), .int .u32 (nx 4), .int .u32 (nx 5), .int .u32 (nx 6), .int .u32 (nx 7)] (words8 rfl rfl rfl rfl rfl rfl rfl rfl)
        clear X2 d0 d1 d2 d3 d4 d5 d6 d7 y0 y1 y2 y3 y4 y5 y6 y7
        go_wp2
        go_roundw
        case rel => exact ⟨k + 1, by omega, by go_num, by rw [← HNX.out]; exact X3⟩
        case measure => (simp [intOf]; try omega)
    · have ek : k = n := by omega
      have l2 : ¬ (64 * (k : Int)) < (len : Int) := by have := HN.out; omega
      have XN : Hid (MS w wr (stB f s0 n)) := by rw [← ek]; exact X
      clear X ek hk hlt HT hB hL
      obtain ⟨LB, hLB⟩ : ∃ L, L = words (stB f s0 n) 8 := ⟨_, rfl⟩
      have hr : Hid (wr.rangeAt w.heap.size 0 LB) := by rw [hLB]; exact XN.out.c2.range
      have sLB : Hid (LB.length = 8) := by rw [hLB]; exact words_len _ _
      have sLB8 : Hid (LB.toArray.size = 8) := by rw [hLB]; exact words_size _ _
      have oLB : Hid (LB.toArray.all (·.oneCell') = true) := by rw [hLB]; exact words_oneCell _ _
      have ht : Hid (wr.there (w.heap.size + 1) 0 LB.toArray.size) := by
        show wr.there _ _ _
        rw [sLB8.out]; exact XN.out.free4.there
      have HB : Hid (Below w.heap.size w (wr.setCells (w.heap.size + 1) 0 LB)) := below_setCells (by omega) _ _ _ XN.out.c2.bel
      have HL : Hid ((loadVar 41 ⟨w.heap.size + 1, 0, none⟩).run Tryd.prog (wr.setCells (w.heap.size + 1) 0 LB) = .ok (.agg LB.toArray) (wr.setCells (w.heap.size + 1) 0 LB)) :=
        run_loadVar_mid _ _ _ _ LB _ (World.rangeAt_setCells_same wr _ _ _ (by rw [sLB.out]; exact XN.out.free4.there)) Tryd.underlying41 rfl (by rw [sLB.out]; exact Tryd.size8)
      have HLB : Hid (LB = words (stB f s0 n) 8) := hLB
      clear XN hLB
      go_wp2_with (first
        | (refine wpList_load_mid rfl 41 _ rfl w.heap.size 0 rfl LB _ hr.out Tryd.underlying41 rfl (by rw [sLB.out]; exact Tryd.size8) ?_)
        | (refine wpList_store_mid rfl 41 _ _ rfl (w.heap.size + 1) 0 LB.toArray rfl rfl ht.out (by rw [sLB8.out]; exact Tryd.size8) oLB.out ?_))
      (try simp only [Exit.inBlock, Exit.then])
      exact bodyPost_ret (v := .agg LB.toArray) (results_one rfl rfl HL.out) rfl ⟨by rw [HLB.out], HB.out⟩
end Go.Proofs.YtimhkeebgogfoabDoor
