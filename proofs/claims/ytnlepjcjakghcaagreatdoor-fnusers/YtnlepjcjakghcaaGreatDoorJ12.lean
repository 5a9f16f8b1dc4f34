/- The model's l04Block: a block taken into a state. -/
import Derived.Test.YtnlepjcjakghcaaGreatDoorJ10
namespace Go.Proofs.YtnlepjcjakghcaaGreatDoor
open Go.RowKit Go.PlainAid
set_option linter.unusedVariables false
set_option maxRecDepth 20000

theorem make64 : ∃ Z : Array Value, Z.size = 64 ∧ ∀ w : World, (Instr.makeSlice 122 (.int .i64 64) (.int .i64 64)).run Tryz.prog w = .ok (.slice (some ⟨w.heap.size, 0, none⟩) 64 64) (w.alloc (.cells Z 75)) :=
  ⟨#[.int .u32 0, .int .u32 0, .int .u32 0, .int .u32 0, .int .u32 0, .int .u32 0, .int .u32 0, .int .u32 0, .int .u32 0, .int .u32 0, .int .u32 0, .int .u32 0, .int .u32 0, .int .u32 0, .int .u32 0, .int .u32 0, .int .u32 0, .int .u32 0, .int .u32 0, .int .u32 0, .int .u32 0, .int .u32 0, .int .u32 0, .int .u32 0, .int .u32 0, .int .u32 0, .int .u32 0, .int .u32 0, .int .u32 0, .int .u32 0, .int .u32 0, .int .u32 0, .int .u32 0, .int .u32 0, .int .u32 0, .int .u32 0, .int .u32 0, .int .u32 0, .int .u32 0, .int .u32 0, .int .u32 0, .int .u32 0, .int .u32 0, .int .u32 0, .int .u32 0, .int .u32 0, .int .u32 0, .int .u32 0, .int .u32 0, .int .u32 0, .int .u32 0, .int .u32 0, .int .u32 0, .int .u32 0, .int .u32 0, .int .u32 0, .int .u32 0, .int .u32 0, .int .u32 0, .int .u32 0, .int .u32 0, .int .u32 0, .int .u32 0, .int .u32 0], rfl, fun _ => by kernel_rfl⟩
theorem Tryz.infoW : (Tryz.prog.info? 75).map (fun i => (i.zero, i.size, i.bytes)) = some (some (.int .u32 0), 1, 4) := by kernel_rfl
theorem words_one (g : Nat → Int) (n : Nat) : ∀ u ∈ words g n, u.oneCell' = true := by
  intro u hu
  unfold words at hu
  obtain ⟨i, _, rfl⟩ := List.mem_map.1 hu
  rfl
theorem Arr.start (w : World) (Z : Array Value) (n : Nat) (hZ : Z.size = n) (t : TypeId) (g : Nat → Int) : Arr w.heap.size w (w.alloc (.cells Z t)) w.heap.size n 0 g := by
  have F := Free.new w Z t
  rw [hZ] at F
  exact ⟨(Below.refl _ _).alloc (Nat.le_refl _) _, F.1, fun i hi => absurd hi (by omega), F.2⟩
theorem Arr.drew {base : Nat} {w wr : World} {q n k : Nat} {g : Nat → Int} (h : Arr base w wr q n k g) : Arr base w wr.drew q n k g :=
  ⟨⟨h.bel.os, h.bel.tape, h.bel.output, h.bel.size, h.bel.block⟩, h.lt, h.at_, h.thr⟩
/-- While the rounds go: the spread block, and the state at hand in block gv. -/
structure L3 (f : Nat → Int) (w wr : World) (gv : Nat) (cur : Nat → Int) : Prop where
  bel : Below w.heap.size w wr
  row : ∀ i, i < 64 → wr.cell? ⟨w.heap.size, i, none⟩ = some (.int .u32 (sch f i))
  cur : ∀ i, i < 8 → wr.cell? ⟨gv, i, none⟩ = some (.int .u32 (cur i))
  lo : w.heap.size < gv
  lt : gv < wr.heap.size
theorem l3_start {f s0 : Nat → Int} {w wr w1 : World} {o : Obj} {v1 : Value} (X : Arr w.heap.size w wr w.heap.size 64 64 (sch f)) (O : w1.ownsRow (w.heap.size + 1) 75 1 v1 (0 + 8) ([] ++ words s0 8)) (G : (wr.alloc o).grownBy w1 (some wr.heap.size)) :
    ∃ gv cap, v1 = .slice (some ⟨gv, 0, none⟩) 8 cap ∧ L3 f w w1 gv s0 := by
  have hl := X.lt
  have hz : (wr.alloc o).heap.size = wr.heap.size + 1 := by simp
  rcases O.2 with ⟨_, h0⟩ | ⟨g, cap, cr, hv, hb, hh, _⟩
  · omega
  · refine ⟨g, cap, hv, (X.bel.alloc (by omega) _).grown G (by omega) (fun k hk => by cases hk; omega), fun i hi => ?_, fun i hi => ?_, by omega, (World.ownsRow.lt O g (by rw [hv]; rfl)).2⟩
    · refine G.cell (a := ⟨w.heap.size, i, none⟩) ?_ (fun e => by injection e with e; have : w.heap.size = wr.heap.size := e; omega)
      rw [World.cell?_alloc_lt _ _ _ (by exact hl)]
      exact X.at_ i hi
    · have := World.ownsRow.cells O (g := g) (by rw [hv]; rfl) i (.int .u32 (s0 i)) (by rw [List.nil_append]; exact words_at s0 8 i hi)
      rwa [Addr.add_mid, Nat.zero_add] at this
theorem L3.drewN {f : Nat → Int} {w wr : World} {gv : Nat} {cur : Nat → Int} (h : L3 f w wr gv cur) (n : Nat) : L3 f w (wr.drewN n) gv cur :=
  ⟨⟨h.bel.os, h.bel.tape, h.bel.output, h.bel.size, h.bel.block⟩, h.row, h.cur, h.lo, h.lt⟩
theorem l3_next {f : Nat → Int} {w wr : World} {gv : Nat} {cur nx : Nat → Int} {t : TypeId} {e0 e1 e2 e3 e4 e5 e6 e7 : Int} (h : L3 f w wr gv cur) (h0 : e0 = nx 0) (h1 : e1 = nx 1) (h2 : e2 = nx 2) (h3 : e3 = nx 3) (h4 : e4 = nx 4) (h5 : e5 = nx 5) (h6 : e6 = nx 6) (h7 : e7 = nx 7) :
    L3 f w (wr.alloc (.cells #[.int .u32 e0, .int .u32 e1, .int .u32 e2, .int .u32 e3, .int .u32 e4, .int .u32 e5, .int .u32 e6, .int .u32 e7] t)).drew wr.heap.size nx := by
  have hl := h.lt
  have hlo := h.lo
  refine ⟨(h.bel.alloc h.bel.size _).drew, fun i hi => ?_, fun i hi => ?_, by omega, by simp⟩
  · show (wr.alloc _).cell? _ = _
    rw [World.cell?_alloc_lt _ _ _ (by show w.heap.size < _; omega)]; exact h.row i hi
  · show (wr.alloc _).cell? _ = _
    rw [World.cell?_alloc_new]
    have := words_at nx 8 i hi
    rw [← words8 h0 h1 h2 h3 h4 h5 h6 h7] at this
    simpa using this
/-- While the state is added: the state in block gh up to k. -/
structure L4 (w wr : World) (gh gv : Nat) (s0 c : Nat → Int) (k : Nat) : Prop where
  gr : w.grownBy wr (some gh)
  h : ∀ i, i < 8 → wr.cell? ⟨gh, i, none⟩ = some (.int .u32 (if i < k then (c i + s0 i) % 4294967296 else s0 i)) ∧ wr.frozen? ⟨gh, i, none⟩ = false
  v : ∀ i, i < 8 → wr.cell? ⟨gv, i, none⟩ = some (.int .u32 (c i))
  ne : gv ≠ gh
theorem L4.drew {w wr : World} {gh gv : Nat} {s0 c : Nat → Int} {k : Nat} (h : L4 w wr gh gv s0 c k) : L4 w wr.drew gh gv s0 c k :=
  ⟨⟨h.gr.os, h.gr.tape, h.gr.output, h.gr.size, h.gr.block⟩, h.h, h.v, h.ne⟩
theorem L4.set {w wr : World} {gh gv : Nat} {s0 c : Nat → Int} {k : Nat} (h : L4 w wr gh gv s0 c k) (hk : k < 8) (x : Int) (hx : x = (c k + s0 k) % 4294967296) : L4 w (wr.setCell ⟨gh, k, none⟩ (.int .u32 x)) gh gv s0 c (k + 1) := by
  subst hx
  refine ⟨⟨h.gr.os, h.gr.tape, h.gr.output, by simpa using h.gr.size, fun b hl hr => ?_⟩, fun i hi => ?_, fun i hi => ?_, h.ne⟩
  · rw [Below.heap_setCell _ _ _ _ (fun e => hr (congrArg some e))]; exact h.gr.block b hl hr
  · refine ⟨?_, by rw [World.frozen?_setCell]; exact (h.h i hi).2⟩
    by_cases e : i = k
    · subst e
      rw [World.cell?_setCell_same _ _ _ (h.h i hi).1, if_pos (by omega)]
    · rw [World.cell?_setCell_other _ _ _ _ (fun he => e (congrArg Addr.off he).symm), (h.h i hi).1]
      by_cases hik : i < k
      · rw [if_pos hik, if_pos (by omega)]
      · rw [if_neg hik, if_neg (by omega)]
  · rw [World.cell?_setCell_other _ _ _ _ (fun he => h.ne (congrArg Addr.block he).symm)]; exact h.v i hi
theorem bel_gr {w wr : World} (h : Below w.heap.size w wr) (g : Option Nat) : w.grownBy wr g := ⟨h.os, h.tape, h.output, h.size, fun k hk _ => h.block k hk⟩

set_option maxHeartbeats 2000000 in
theorem l04Block_any (gh gb off cb gk : Nat) (s0 f : Nat → Int) (w : World) (hs : ∀ i, i < 8 → w.cell? ⟨gh, i, none⟩ = some (.int .u32 (s0 i)) ∧ w.frozen? ⟨gh, i, none⟩ = false)
    (hb : Bytes w (some ⟨gb, off, none⟩) 64 f) (hcb : 64 ≤ cb) (hk : ∀ i, i < 64 → w.cell? ⟨gk, i, none⟩ = some (.int .u32 (KK i))) (n1 : gb ≠ gh) (n2 : gk ≠ gh) :
    Calls Tryz.prog 84 #[.slice (some ⟨gh, 0, none⟩) 8 8, .slice (some ⟨gb, off, none⟩) 64 cb, .slice (some ⟨gk, 0, none⟩) 64 64] w fun e w' => e = .returned (.tuple #[]) ∧ w.grownBy w' (some gh) ∧ ∀ i, i < 8 → w'.cell? ⟨gh, i, none⟩ = some (.int .u32 (blk f s0 i)) ∧ w'.frozen? ⟨gh, i, none⟩ = false := by
  have HS : Hid (∀ i, i < 8 → w.cell? ⟨gh, i, none⟩ = some (.int .u32 (s0 i)) ∧ w.frozen? ⟨gh, i, none⟩ = false) := hs
  have HBt : Hid (Bytes w (some ⟨gb, off, none⟩) 64 f) := hb
  have HK : Hid (∀ i, i < 64 → w.cell? ⟨gk, i, none⟩ = some (.int .u32 (KK i))) := hk
  have lb : gb < w.heap.size := by
    obtain ⟨b', o', e, hc⟩ := hb.2 (by omega)
    cases e
    exact World.block_lt_of_cell? w _ (hc 0 (by omega))
  have lk : gk < w.heap.size := World.block_lt_of_cell? w _ (hk 0 (by omega))
  have lh : gh < w.heap.size := World.block_lt_of_cell? w _ (hs 0 (by omega)).1
  clear hs hb hk
  obtain ⟨Z, hZ, hmk⟩ := make64
  have X0 : Hid (Arr w.heap.size w (w.alloc (.cells Z 75)) w.heap.size 64 0 (sch f)) := Arr.start w Z 64 hZ _ _
  go_enter Tryz.func84, Tryz.ntmps84
  go_wp2
  go_loopw [7] (fun i wr => ∃ k : Nat, k ≤ 16 ∧ i = .int .i64 k ∧ Hid (Arr w.heap.size w wr w.heap.size 64 k (sch f))) (fun i _ => 16 - (intOf i).toNat)
  case atStart => exact ⟨0, Nat.zero_le _, rfl, X0⟩
  case round =>
    clear X0 hmk
    obtain ⟨k, hk, rfl, X⟩ := hrel
    by_cases hlt : k < 16
    · have HX : Hid (Bytes wr (some ⟨gb, off, none⟩) 64 f) := HBt.out.below X.out.bel (fun b' o' _ h2 => by cases h2; exact lb)
      obtain ⟨b0, hb0⟩ : ∃ z, z = f (4 * k + 0) := ⟨_, rfl⟩
      have E0 : Hid (b0 = f (4 * k + 0)) := hb0
      have cb0 : wr.cell? ⟨gb, off + 4 * k, none⟩ = some (.int .u8 b0) := by
        obtain ⟨b', o', e, hc⟩ := HX.out.2 (by omega)
        cases e
        rw [hb0]; exact hc (4 * k + 0) (by omega)
      have w0 : IntKind.u32.wrap b0 = b0 := by have := HX.out.1 (4 * k + 0); rw [IntKind.wrap_u32, hb0]; omega
      have t0 : (4 * (k : Int)).toNat = 4 * k := by omega
      have v0 : IntKind.i64.wrap (4 * (k : Int)) = 4 * (k : Int) := by rw [IntKind.wrap_i64]; omega
      have p0 : (0 : Int) ≤ 4 * (k : Int) := by omega
      have q0 : 4 * (k : Int) < 64 := by omega
      clear hb0
      obtain ⟨b1, hb1⟩ : ∃ z, z = f (4 * k + 1) := ⟨_, rfl⟩
      have E1 : Hid (b1 = f (4 * k + 1)) := hb1
      have cb1 : wr.cell? ⟨gb, off + (4 * k + 1), none⟩ = some (.int .u8 b1) := by
        obtain ⟨b', o', e, hc⟩ := HX.out.2 (by omega)
        cases e
        rw [hb1]; exact hc (4 * k + 1) (by omega)
      have w1 : IntKind.u32.wrap b1 = b1 := by have := HX.out.1 (4 * k + 1); rw [IntKind.wrap_u32, hb1]; omega
      have t1 : (4 * (k : Int) + 1).toNat = 4 * k + 1 := by omega
      have v1 : IntKind.i64.wrap (4 * (k : Int) + 1) = 4 * (k : Int) + 1 := by rw [IntKind.wrap_i64]; omega
      have p1 : (0 : Int) ≤ 4 * (k : Int) + 1 := by omega
      have q1 : 4 * (k : Int) + 1 < 64 := by omega
      clear hb1
      obtain ⟨b2, hb2⟩ : ∃ z, z = f (4 * k + 2) := ⟨_, rfl⟩
      have E2 : Hid (b2 = f (4 * k + 2)) := hb2
      have cb2 : wr.cell? ⟨gb, off + (4 * k + 2), none⟩ = some (.int .u8 b2) := by
        obtain ⟨b', o', e, hc⟩ := HX.out.2 (by omega)
        cases e
        rw [hb2]; exact hc (4 * k + 2) (by omega)
      have w2 : IntKind.u32.wrap b2 = b2 := by have := HX.out.1 (4 * k + 2); rw [IntKind.wrap_u32, hb2]; omega
      have t2 : (4 * (k : Int) + 2).toNat = 4 * k + 2 := by omega
      have v2 : IntKind.i64.wrap (4 * (k : Int) + 2) = 4 * (k : Int) + 2 := by rw [IntKind.wrap_i64]; omega
      have p2 : (0 : Int) ≤ 4 * (k : Int) + 2 := by omega
      have q2 : 4 * (k : Int) + 2 < 64 := by omega
      clear hb2
      obtain ⟨b3, hb3⟩ : ∃ z, z = f (4 * k + 3) := ⟨_, rfl⟩
      have E3 : Hid (b3 = f (4 * k + 3)) := hb3
      have cb3 : wr.cell? ⟨gb, off + (4 * k + 3), none⟩ = some (.int .u8 b3) := by
        obtain ⟨b', o', e, hc⟩ := HX.out.2 (by omega)
        cases e
        rw [hb3]; exact hc (4 * k + 3) (by omega)
      have w3 : IntKind.u32.wrap b3 = b3 := by have := HX.out.1 (4 * k + 3); rw [IntKind.wrap_u32, hb3]; omega
      have t3 : (4 * (k : Int) + 3).toNat = 4 * k + 3 := by omega
      have v3 : IntKind.i64.wrap (4 * (k : Int) + 3) = 4 * (k : Int) + 3 := by rw [IntKind.wrap_i64]; omega
      have p3 : (0 : Int) ≤ 4 * (k : Int) + 3 := by omega
      have q3 : 4 * (k : Int) + 3 < 64 := by omega
      clear hb3
      have HW : Hid (sch f k = bits .or .u32 (bits .or .u32 (bits .or .u32 (IntKind.u32.wrap (b0 * 16777216)) (IntKind.u32.wrap (b1 * 65536))) (IntKind.u32.wrap (b2 * 256))) b3) := by
        show _ = _
        rw [sch_low f k hlt, E0.out, E1.out, E2.out, E3.out]
        exact word_or f HX.out.1 k
      clear E0 E1 E2 E3
      obtain ⟨u, hu⟩ := Option.isSome_iff_exists.1 (X.out.thr k (by omega)).1
      have hz := (X.out.thr k (by omega)).2
      have k0 : (0 : Int) ≤ (k : Int) := by omega
      have k1 : (k : Int) < 64 := by omega
      have nb : w.heap.size ≠ gb := by omega
      have M : Hid (∀ v, ((wr.setCell ⟨w.heap.size, k, none⟩ v).drew.cell? ⟨gb, off + 4 * k, none⟩ = some (.int .u8 b0)) ∧ ((wr.setCell ⟨w.heap.size, k, none⟩ v).drew.cell? ⟨gb, off + (4 * k + 1), none⟩ = some (.int .u8 b1)) ∧ ((wr.setCell ⟨w.heap.size, k, none⟩ v).drew.cell? ⟨gb, off + (4 * k + 2), none⟩ = some (.int .u8 b2)) ∧ ((wr.setCell ⟨w.heap.size, k, none⟩ v).drew.cell? ⟨gb, off + (4 * k + 3), none⟩ = some (.int .u8 b3))) := fun v =>
        ⟨(World.cell?_setCell_other wr _ _ v (fun he => nb (congrArg Addr.block he))).trans cb0, (World.cell?_setCell_other wr _ _ v (fun he => nb (congrArg Addr.block he))).trans cb1, (World.cell?_setCell_other wr _ _ v (fun he => nb (congrArg Addr.block he))).trans cb2, (World.cell?_setCell_other wr _ _ v (fun he => nb (congrArg Addr.block he))).trans cb3⟩
      go_wp2
      go_region_held3 (fun w' => w'.cell? ⟨gb, off + 4 * k, none⟩ = some (.int .u8 b0) ∧ w'.cell? ⟨gb, off + (4 * k + 1), none⟩ = some (.int .u8 b1) ∧ w'.cell? ⟨gb, off + (4 * k + 2), none⟩ = some (.int .u8 b2) ∧ w'.cell? ⟨gb, off + (4 * k + 3), none⟩ = some (.int .u8 b3)) (first | exact ⟨cb0, cb1, cb2, cb3⟩ | exact M.out _) (fail)
      all_goals
        have X2 : Hid (Arr w.heap.size w (wr.setCell ⟨w.heap.size, k, none⟩ (.int .u32 (bits BinOp.or IntKind.u32 (bits BinOp.or IntKind.u32 (bits BinOp.or IntKind.u32 (IntKind.u32.wrap (b0 * 16777216)) (IntKind.u32.wrap (b1 * 65536))) (IntKind.u32.wrap (b2 * 256))) b3))).drew w.heap.size 64 (k + 1) (sch f)) := (X.out.set (by omega) (Nat.le_refl _) _ HW.out.symm).drew
        clear X M cb0 cb1 cb2 cb3 hu hz
        go_wp2
        go_roundw
        case rel => exact ⟨k + 1, by omega, by go_num, X2⟩
        case measure => (simp [intOf]; try omega)
    · have X16 : Hid (Arr w.heap.size w wr w.heap.size 64 16 (sch f)) := by
        rw [← show k = 16 by omega]; exact X
      have e16 : (k : Int) = 16 := by omega
      rw [e16]
      clear X e16 hlt hk
      go_wp2
      go_loopw [8] (fun i wr => ∃ k : Nat, 16 ≤ k ∧ k ≤ 64 ∧ i = .int .i64 k ∧ Hid (Arr w.heap.size w wr w.heap.size 64 k (sch f))) (fun i _ => 64 - (intOf i).toNat)
      case atStart => exact ⟨16, by omega, by omega, rfl, X16⟩
      case round =>
        clear X16
        obtain ⟨k, hk16, hk, rfl, X⟩ := hrel
        by_cases hlt : k < 64
        · have c2 := X.out.at_ (k - 2) (by omega)
          have c15 := X.out.at_ (k - 15) (by omega)
          have c16 := X.out.at_ (k - 16) (by omega)
          have c7 := X.out.at_ (k - 7) (by omega)
          obtain ⟨s2, hs2⟩ : ∃ s, s = sch f (k - 2) := ⟨_, rfl⟩
          obtain ⟨s15, hs15⟩ : ∃ s, s = sch f (k - 15) := ⟨_, rfl⟩
          obtain ⟨s16, hs16⟩ : ∃ s, s = sch f (k - 16) := ⟨_, rfl⟩
          obtain ⟨s7, hs7⟩ : ∃ s, s = sch f (k - 7) := ⟨_, rfl⟩
          have HSc : Hid (IntKind.u32.wrap (IntKind.u32.wrap (IntKind.u32.wrap (s16 + sg0 s15) + s7) + sg1 s2) = sch f k) := by
            show _ = _
            rw [hs2, hs15, hs16, hs7, wrap_swap]; exact (sch_high f k hk16).symm
          rw [← hs2] at c2
          rw [← hs15] at c15
          rw [← hs16] at c16
          rw [← hs7] at c7
          clear hs2 hs15 hs16 hs7
          have x2 : ((k : Int) - 2).toNat = k - 2 := by omega
          have p2 : (0 : Int) ≤ (k : Int) - 2 := by omega
          have q2 : (k : Int) - 2 < 64 := by omega
          have w2 : IntKind.i64.wrap ((k : Int) - 2) = (k : Int) - 2 := by rw [IntKind.wrap_i64]; omega
          have m2 : (2 : Int) ≤ k := by omega
          have mm2 : 2 ≤ k := by omega
          have r2 : (k : Int) < 66 := by omega
          have rr2 : k < 66 := by omega
          have x15 : ((k : Int) - 15).toNat = k - 15 := by omega
          have p15 : (0 : Int) ≤ (k : Int) - 15 := by omega
          have q15 : (k : Int) - 15 < 64 := by omega
          have w15 : IntKind.i64.wrap ((k : Int) - 15) = (k : Int) - 15 := by rw [IntKind.wrap_i64]; omega
          have m15 : (15 : Int) ≤ k := by omega
          have mm15 : 15 ≤ k := by omega
          have r15 : (k : Int) < 79 := by omega
          have rr15 : k < 79 := by omega
          have x16 : ((k : Int) - 16).toNat = k - 16 := by omega
          have p16 : (0 : Int) ≤ (k : Int) - 16 := by omega
          have q16 : (k : Int) - 16 < 64 := by omega
          have w16 : IntKind.i64.wrap ((k : Int) - 16) = (k : Int) - 16 := by rw [IntKind.wrap_i64]; omega
          have m16 : (16 : Int) ≤ k := by omega
          have mm16 : 16 ≤ k := by omega
          have r16 : (k : Int) < 80 := by omega
          have rr16 : k < 80 := by omega
          have x7 : ((k : Int) - 7).toNat = k - 7 := by omega
          have p7 : (0 : Int) ≤ (k : Int) - 7 := by omega
          have q7 : (k : Int) - 7 < 64 := by omega
          have w7 : IntKind.i64.wrap ((k : Int) - 7) = (k : Int) - 7 := by rw [IntKind.wrap_i64]; omega
          have m7 : (7 : Int) ≤ k := by omega
          have mm7 : 7 ≤ k := by omega
          have r7 : (k : Int) < 71 := by omega
          have rr7 : k < 71 := by omega
          obtain ⟨u, hu⟩ := Option.isSome_iff_exists.1 (X.out.thr k (by omega)).1
          have hz := (X.out.thr k (by omega)).2
          have k16 : k ≠ k - 16 := by omega
          have k7 : k ≠ k - 7 := by omega
          have kk0 : (0 : Int) ≤ (k : Int) := by omega
          have kk1 : (k : Int) < 64 := by omega
          have M : Hid (∀ v, ((wr.setCell ⟨w.heap.size, k, none⟩ v).drew.cell? ⟨w.heap.size, k - 16, none⟩ = some (.int .u32 s16)) ∧ ((wr.setCell ⟨w.heap.size, k, none⟩ v).drew.cell? ⟨w.heap.size, k - 7, none⟩ = some (.int .u32 s7))) := fun v =>
            ⟨(World.cell?_setCell_other wr _ _ v (fun he => k16 (congrArg Addr.off he))).trans c16, (World.cell?_setCell_other wr _ _ v (fun he => k7 (congrArg Addr.off he))).trans c7⟩
          go_wp2
          go_region_held3 (fun w' => w'.cell? ⟨w.heap.size, k - 16, none⟩ = some (.int .u32 s16) ∧ w'.cell? ⟨w.heap.size, k - 7, none⟩ = some (.int .u32 s7)) (first | exact ⟨c16, c7⟩ | exact M.out _) ((go_at_call 96; (with_reducible refine (l04Turn_any _ _ _ (by omega) (by omega)).mono ?_); rintro e w1 ⟨rfl, rfl⟩))
          all_goals
            have X2 : Hid (Arr w.heap.size w (wr.setCell ⟨w.heap.size, k, none⟩ (.int .u32 (IntKind.u32.wrap (IntKind.u32.wrap (IntKind.u32.wrap (s16 + bits BinOp.xor IntKind.u32 (bits BinOp.xor IntKind.u32 (rot s15 7) (rot s15 18)) (s15 / 8)) + s7) + bits BinOp.xor IntKind.u32 (bits BinOp.xor IntKind.u32 (rot s2 17) (rot s2 19)) (s2 / 1024))))).drew w.heap.size 64 (k + 1) (sch f)) := (X.out.set (by omega) (Nat.le_refl _) _ HSc.out).drew
            clear X M c16 c7 c2 c15 hu hz
            go_wp2
            go_roundw
            case rel => exact ⟨k + 1, by omega, by omega, by go_num, X2⟩
            case measure => (simp [intOf]; try omega)
        · have X64 : Hid (Arr w.heap.size w wr w.heap.size 64 64 (sch f)) := by
            have e := X
            rw [show k = 64 by omega] at e
            exact e
          have e64 : (k : Int) = 64 := by omega
          rw [e64]
          clear X e64 hlt hk hk16
          obtain ⟨i0, hi, hz0, hz1, hz2⟩ := info_parts Tryz.infoW
          have hn : Hid (∀ o, ∀ j u, (words s0 8)[j]? = some u → (wr.alloc o).cell? ((⟨gh, 0, none⟩ : Addr).add j) = some u) := fun o j u hu => by
            obtain ⟨hj, rfl⟩ := words_get hu
            have hl := X64.out.bel.size
            rw [Addr.add_mid, Nat.zero_add, World.cell?_alloc_lt _ _ _ (by show gh < _; omega), X64.out.bel.cell (p := ⟨gh, j, none⟩) lh]
            exact (HS.out j hj).1
          have hl := X64.out.bel.size
          go_wp2_with (at_builtin; refine wpList_append_own _ rfl _ _ 122 rfl (w.heap.size + 1) 75 i0 (.int .u32 0) 1 4 Tryz.underlying122 hi hz0 hz1 hz2 rfl (by decide) _ 0 [] rfl (World.ownsRow_made wr #[] 0 (by have := X64.out.lt; omega) (Nat.zero_le _) rfl) ⟨gh, 0, none⟩ 8 8 (words s0 8) rfl (by rw [words_len]) (hn.out _) (words_one _ _) (by unfold maxLen; omega) (by omega) (by have := X64.out.lt; simp; omega) ?_)
          intro v1 w1 O1 G1 _
          obtain ⟨gv, cap, hv, L0⟩ := l3_start X64.out O1 G1
          have Y0 : Hid (L3 f w w1 gv s0) := L0
          subst hv
          clear L0 O1 G1 hn X64 hl hi hz0 hz1 hz2
          go_wp2
          go_loopw [11, 12] (fun v i wr => ∃ k gv cap : Nat, k ≤ 64 ∧ i = .int .i64 k ∧ v = .slice (some ⟨gv, 0, none⟩) 8 cap ∧ Hid (L3 f w wr gv (stR f s0 k))) (fun _ i _ => 64 - (intOf i).toNat)
          case atStart => exact ⟨0, gv, cap, Nat.zero_le _, rfl, rfl, Y0⟩
          case round =>
            clear Y0
            obtain ⟨k, gv, cap, hk, rfl, rfl, X⟩ := hrel
            by_cases hlt : k < 64
            · have cK : wr.cell? ⟨gk, k, none⟩ = some (.int .u32 (KK k)) := by rw [X.out.bel.cell (p := ⟨gk, k, none⟩) lk]; exact HK.out k hlt
              have cW := X.out.row k hlt
              have k0 : (0 : Int) ≤ (k : Int) := by omega
              have k1 : (k : Int) < 64 := by omega
              have HR : Hid (stR f s0 (k + 1) = rnd (KK k) (sch f k) (stR f s0 k)) := rfl
              obtain ⟨cur, hcur⟩ : ∃ c, c = stR f s0 k := ⟨_, rfl⟩
              obtain ⟨kc, hkc⟩ : ∃ z, z = KK k := ⟨_, rfl⟩
              obtain ⟨wc, hwc⟩ : ∃ z, z = sch f k := ⟨_, rfl⟩
              rw [← hcur, ← hkc, ← hwc] at HR
              rw [← hkc] at cK
              rw [← hwc] at cW
              rw [← hcur] at X
              clear hcur hkc hwc
              have c0 := X.out.cur 0 (by omega)
              have c1 := X.out.cur 1 (by omega)
              have c2 := X.out.cur 2 (by omega)
              have c3 := X.out.cur 3 (by omega)
              have c4 := X.out.cur 4 (by omega)
              have c5 := X.out.cur 5 (by omega)
              have c6 := X.out.cur 6 (by omega)
              have c7 := X.out.cur 7 (by omega)
              go_wp2
              go_quiet ((go_at_call 96; exact Calls.quiet_of_same (l04Turn_any _ _ _ (by omega) (by omega))))
              have X1 : Hid (L3 f w (wr.drewN nq) gv cur) := X.out.drewN nq
              obtain ⟨wx, hwx⟩ : ∃ wx, wx = wr.drewN nq := ⟨_, rfl⟩
              rw [← hwx] at X1
              rw [← hwx]
              clear hwx X cK cW c0 c1 c2 c3 c4 c5 c6 c7
              have c0 := X1.out.cur 0 (by omega)
              have c1 := X1.out.cur 1 (by omega)
              have c2 := X1.out.cur 2 (by omega)
              have c3 := X1.out.cur 3 (by omega)
              have c4 := X1.out.cur 4 (by omega)
              have c5 := X1.out.cur 5 (by omega)
              have c6 := X1.out.cur 6 (by omega)
              have c7 := X1.out.cur 7 (by omega)
              go_wp2
              go_quiet ((go_at_call 96; exact Calls.quiet_of_same (l04Turn_any _ _ _ (by omega) (by omega))))
              have X2 : Hid (L3 f w (wx.drewN nq) gv cur) := X1.out.drewN nq
              obtain ⟨wy, hwy⟩ : ∃ wx', wx' = wx.drewN nq := ⟨_, rfl⟩
              rw [← hwy] at X2
              rw [← hwy]
              clear hwy X1 c0 c1 c2 c3 c4 c5 c6 c7
              have c0 := X2.out.cur 0 (by omega)
              have c1 := X2.out.cur 1 (by omega)
              have c2 := X2.out.cur 2 (by omega)
              have c3 := X2.out.cur 3 (by omega)
              have c4 := X2.out.cur 4 (by omega)
              have c5 := X2.out.cur 5 (by omega)
              have c6 := X2.out.cur 6 (by omega)
              have c7 := X2.out.cur 7 (by omega)
              have lg := X2.out.lt
              have M : Hid (∀ o, ((wy.alloc o).drew.cell? ⟨gv, 0, none⟩ = some (.int .u32 (cur 0))) ∧ ((wy.alloc o).drew.cell? ⟨gv, 1, none⟩ = some (.int .u32 (cur 1))) ∧ ((wy.alloc o).drew.cell? ⟨gv, 2, none⟩ = some (.int .u32 (cur 2))) ∧ ((wy.alloc o).drew.cell? ⟨gv, 3, none⟩ = some (.int .u32 (cur 3))) ∧ ((wy.alloc o).drew.cell? ⟨gv, 4, none⟩ = some (.int .u32 (cur 4))) ∧ ((wy.alloc o).drew.cell? ⟨gv, 5, none⟩ = some (.int .u32 (cur 5))) ∧ ((wy.alloc o).drew.cell? ⟨gv, 6, none⟩ = some (.int .u32 (cur 6)))) := fun o => ⟨(World.cell?_alloc_lt _ _ _ (by exact lg)).trans c0, (World.cell?_alloc_lt _ _ _ (by exact lg)).trans c1, (World.cell?_alloc_lt _ _ _ (by exact lg)).trans c2, (World.cell?_alloc_lt _ _ _ (by exact lg)).trans c3, (World.cell?_alloc_lt _ _ _ (by exact lg)).trans c4, (World.cell?_alloc_lt _ _ _ (by exact lg)).trans c5, (World.cell?_alloc_lt _ _ _ (by exact lg)).trans c6⟩
              go_wp2
              go_region_held3 (fun w' => w'.cell? ⟨gv, 0, none⟩ = some (.int .u32 (cur 0)) ∧ w'.cell? ⟨gv, 1, none⟩ = some (.int .u32 (cur 1)) ∧ w'.cell? ⟨gv, 2, none⟩ = some (.int .u32 (cur 2)) ∧ w'.cell? ⟨gv, 3, none⟩ = some (.int .u32 (cur 3)) ∧ w'.cell? ⟨gv, 4, none⟩ = some (.int .u32 (cur 4)) ∧ w'.cell? ⟨gv, 5, none⟩ = some (.int .u32 (cur 5)) ∧ w'.cell? ⟨gv, 6, none⟩ = some (.int .u32 (cur 6))) (first | exact ⟨c0, c1, c2, c3, c4, c5, c6⟩ | exact M.out _) (fail)
              all_goals
                clear M c0 c1 c2 c3 c4 c5 c6 c7
                go_wp2
                go_roundw
                case rel =>
                  refine ⟨k + 1, wy.heap.size, 8, by omega, by go_num, rfl, l3_next X2.out ?_ ?_ ?_ ?_ ?_ ?_ ?_ ?_⟩
                  · rw [HR.out]
                    show _ = (dnm (cur 4) (cur 5) (cur 6) (cur 7) kc wc + upm (cur 0) (cur 1) (cur 2)) % 4294967296
                    unfold dnm upm chm mjm rot3
                    omega
                  · rw [HR.out]; rfl
                  · rw [HR.out]; rfl
                  · rw [HR.out]; rfl
                  · rw [HR.out]
                    show _ = (cur 3 + dnm (cur 4) (cur 5) (cur 6) (cur 7) kc wc) % 4294967296
                    unfold dnm chm rot3
                    omega
                  · rw [HR.out]; rfl
                  · rw [HR.out]; rfl
                  · rw [HR.out]; rfl
                case measure => (simp [intOf]; try omega)
            · have Y64 : Hid (L3 f w wr gv (stR f s0 64)) := by
                have e := X
                rw [show k = 64 by omega] at e
                exact e
              have e64 : (k : Int) = 64 := by omega
              rw [e64]
              obtain ⟨c, hc⟩ : ∃ c, c = stR f s0 64 := ⟨_, rfl⟩
              have HC : Hid (c = stR f s0 64) := hc
              rw [← hc] at Y64
              have Z0 : Hid (L4 w wr gh gv s0 c 0) := ⟨bel_gr Y64.out.bel _, fun i hi => ⟨by rw [if_neg (by omega), Y64.out.bel.cell (p := ⟨gh, i, none⟩) lh]; exact (HS.out i hi).1, by rw [Y64.out.bel.frozen (p := ⟨gh, i, none⟩) lh]; exact (HS.out i hi).2⟩, Y64.out.cur, by have := Y64.out.lo; omega⟩
              clear X e64 hlt hk hc Y64
              go_wp2
              go_loopw [17] (fun i wr => ∃ k : Nat, k ≤ 8 ∧ i = .int .i64 k ∧ Hid (L4 w wr gh gv s0 c k)) (fun i _ => 8 - (intOf i).toNat)
              case atStart => exact ⟨0, Nat.zero_le _, rfl, Z0⟩
              case round =>
                clear Z0
                obtain ⟨k, hk, rfl, X⟩ := hrel
                by_cases hlt : k < 8
                · have d6 := (X.out.h k hlt).1
                  rw [if_neg (by omega)] at d6
                  have dz := (X.out.h k hlt).2
                  have d2 := X.out.v k hlt
                  have k0 : (0 : Int) ≤ (k : Int) := by omega
                  have k1 : (k : Int) < 8 := by omega
                  have ne := X.out.ne
                  obtain ⟨ck, hck⟩ : ∃ z, z = c k := ⟨_, rfl⟩
                  obtain ⟨sk, hsk⟩ : ∃ z, z = s0 k := ⟨_, rfl⟩
                  have HSk : Hid ((sk + ck) % 4294967296 = (c k + s0 k) % 4294967296) := by show _ = _; rw [hck, hsk, Int.add_comm]
                  rw [← hck] at d2
                  rw [← hsk] at d6
                  clear hck hsk
                  go_wp2
                  go_region
                  all_goals
                    have X2 : Hid (L4 w (wr.setCell ⟨gh, k, none⟩ (.int .u32 ((sk + ck) % 4294967296))).drew gh gv s0 c (k + 1)) := (X.out.set hlt _ HSk.out).drew
                    clear X d6 d2 dz
                    go_wp2
                    go_roundw
                    case rel => exact ⟨k + 1, by omega, by go_num, X2⟩
                    case measure => (simp [intOf]; try omega)
                · have X8 : Hid (L4 w wr gh gv s0 c 8) := by
                    have e := X
                    rw [show k = 8 by omega] at e
                    exact e
                  have e8 : ¬ (k : Int) < 8 := by omega
                  clear X
                  go_wp2
                  go_end0
                  refine ⟨rfl, X8.out.gr, fun i hi => ?_⟩
                  have := X8.out.h i hi
                  rw [if_pos hi, HC.out] at this
                  exact this
end Go.Proofs.YtnlepjcjakghcaaGreatDoor
