/- The model's l04Block: a block taken into a state. The model's l04Hash and Hash. The contracts of impl.Check16, spec.l01Sum16 and spec.Check16: each answers the folded sum of the bytes, 0 above 65536 of them, and turns nothing. The walk of laws.FnExactCheck16: it answers true at every row of bytes, and turns nothing that was there. The walk of laws.FnExactHash: it answers true at every row of bytes where the two tables lie in their variables, and turns nothing that was there. PassHash, the program's and the model's; the walk of its law. Nets, plain numbers: what stands behind a net's bits, and what is kept ahead of it. Nothing of the program is imported. The small tests of both sides, each answering whether a condition holds. Worlds that have come of another by draws and new blocks alone. Nothing of the program is imported. Nets, the walks: netAround, NetOK, NetHas; the model's NetOK, l05Has, NetHas. Rows of structs, K cells an element: opened, stored into, kept. Nothing of the program is imported. Rules, places, roles, as values; what comes in as an argument, opened. What is kept by all that leaves old blocks as they were. Nothing of the program is imported. Rules: placeOf, placeOK, protoWord, RuleOK; the model's l07Range, RuleOK. The contracts of NameOK, the program's and the model's, and of what they call: whether a byte is a letter, a digit; whether a text is a name. Roles: RoleOK, the program's and the model's. Small tests of the program's chapter of guests: between, causes, bytes, credit, times; short names of the model. Users, sessions, fails, records, guests, as values. Users, sessions, fails, records, guests: what comes in as an argument, opened. -/
import Derived.Test.YtbeehlhcckndcaaDoorJ0
import Derived.Deep.RegionHeld3
import Derived.BigQuiet
import Derived.Deep.QuietTactic
import Derived.Deep.AppendLies
import Derived.Test.YtbeehlhcckndcaaDoorProg
import Derived.WalkKit
import Derived.PlainAid
import Derived.Below
import Derived.Shelf.SlSortCmp.QuietGrown
import Derived.Laws.StructEq
import Derived.OpenShut
import Derived.Deep.Slices
import Derived.Laws.AppendOwn
import Derived.Laws.OwnMore
import Derived.Laws.MakeOwn
namespace Go.Proofs.YtbeehlhcckndcaaDoor
open Go.RowKit Go.PlainAid
set_option linter.unusedVariables false
set_option maxRecDepth 20000

theorem make64 : ∃ Z : Array Value, Z.size = 64 ∧ ∀ w : World, (Instr.makeSlice 120 (.int .i64 64) (.int .i64 64)).run Tryd.prog w = .ok (.slice (some ⟨w.heap.size, 0, none⟩) 64 64) (w.alloc (.cells Z 112)) :=
  ⟨#[.int .u32 0, .int .u32 0, .int .u32 0, .int .u32 0, .int .u32 0, .int .u32 0, .int .u32 0, .int .u32 0, .int .u32 0, .int .u32 0, .int .u32 0, .int .u32 0, .int .u32 0, .int .u32 0, .int .u32 0, .int .u32 0, .int .u32 0, .int .u32 0, .int .u32 0, .int .u32 0, .int .u32 0, .int .u32 0, .int .u32 0, .int .u32 0, .int .u32 0, .int .u32 0, .int .u32 0, .int .u32 0, .int .u32 0, .int .u32 0, .int .u32 0, .int .u32 0, .int .u32 0, .int .u32 0, .int .u32 0, .int .u32 0, .int .u32 0, .int .u32 0, .int .u32 0, .int .u32 0, .int .u32 0, .int .u32 0, .int .u32 0, .int .u32 0, .int .u32 0, .int .u32 0, .int .u32 0, .int .u32 0, .int .u32 0, .int .u32 0, .int .u32 0, .int .u32 0, .int .u32 0, .int .u32 0, .int .u32 0, .int .u32 0, .int .u32 0, .int .u32 0, .int .u32 0, .int .u32 0, .int .u32 0, .int .u32 0, .int .u32 0, .int .u32 0], rfl, fun _ => by kernel_rfl⟩
theorem Tryd.infoW : (Tryd.prog.info? 112).map (fun i => (i.zero, i.size, i.bytes)) = some (some (.int .u32 0), 1, 4) := by kernel_rfl
theorem words_one (g : Nat → Int) (n : Nat) : ∀ u ∈ words g n, u.oneCell' = true := by
  intro u hu
  unfold words at hu
  obtain ⟨i, _, rfl⟩ := List.mem_map.1 hu
  rfl
theorem Arr.start (w : World) (Z : Array Value) (n : Nat) (hZ : Z.size = n) (t : TypeId) (g : Nat → Int) : Arr w.heap.size w (w.alloc (.cells Z t)) w.heap.size n 0 g := by
  have F := Free.new w Z t
  rw [hZ] at F
  exact ⟨(Below.refl _ _).alloc (Nat.le_refl _) _, F.1, fun i hi => absurd hi (by omega), F.2⟩
theorem Arr.drew {base : Nat} {w wr : World} {q n k : Nat} {g : Nat → Int} (h : Arr base w wr q n k g) : Arr base w wr.drew q n k g :=
  ⟨⟨h.bel.os, h.bel.tape, h.bel.output, h.bel.size, h.bel.block⟩, h.lt, h.at_, h.thr⟩
theorem Arr.drewN {base : Nat} {w wr : World} {q n k : Nat} {g : Nat → Int} (h : Arr base w wr q n k g) (m : Nat) : Arr base w (wr.drewN m) q n k g :=
  ⟨⟨h.bel.os, h.bel.tape, h.bel.output, h.bel.size, h.bel.block⟩, h.lt, h.at_, h.thr⟩

/-- While the rounds go: the spread block, and the state at hand in block gv. -/
structure L3 (f : Nat → Int) (w wr : World) (gv : Nat) (cur : Nat → Int) : Prop where
  bel : Below w.heap.size w wr
  row : ∀ i, i < 64 → wr.cell? ⟨w.heap.size, i, none⟩ = some (.int .u32 (sch f i))
  cur : ∀ i, i < 8 → wr.cell? ⟨gv, i, none⟩ = some (.int .u32 (cur i))
  lo : w.heap.size < gv
  lt : gv < wr.heap.size
theorem l3_start {f s0 : Nat → Int} {w wr w1 : World} {o : Obj} {v1 : Value} (X : Arr w.heap.size w wr w.heap.size 64 64 (sch f)) (O : w1.ownsRow (w.heap.size + 1) 112 1 v1 (0 + 8) ([] ++ words s0 8)) (G : (wr.alloc o).grownBy w1 (some wr.heap.size)) :
    ∃ gv cap, v1 = .slice (some ⟨gv, 0, none⟩) 8 cap ∧ L3 f w w1 gv s0 := by
  have hl := X.lt
  have hz : (wr.alloc o).heap.size = wr.heap.size + 1 := by simp
  rcases O.2 with ⟨_, h0⟩ | ⟨g, cap, cr, hv, hb, hh, _⟩
  · omega
  · refine ⟨g, cap, hv, (X.bel.alloc (by omega) _).grown G (by omega) (fun k hk => by cases hk; omega), fun i hi => ?_, fun i hi => ?_, by omega, (World.ownsRow.lt O g (by rw [hv]; rfl)).2⟩
    · refine G.cell (a := ⟨w.heap.size, i, none⟩) ?_ (fun e => by injection e with e; have : w.heap.size = wr.heap.size := e; omega)
      rw [World.cell?_alloc_lt _ _ _ (by exact hl)]
      exact X.at_ i hi
    · have := World.ownsRow.cells O (g := g) (by rw [hv]; rfl) i (.int .u32 (s0 i)) (by rw [List.nil_append]; exact words_at s0 8 i hi)
      rwa [Addr.add_mid, Nat.zero_add] at this
theorem L3.drewN {f : Nat → Int} {w wr : World} {gv : Nat} {cur : Nat → Int} (h : L3 f w wr gv cur) (n : Nat) : L3 f w (wr.drewN n) gv cur :=
  ⟨⟨h.bel.os, h.bel.tape, h.bel.output, h.bel.size, h.bel.block⟩, h.row, h.cur, h.lo, h.lt⟩
theorem l3_next {f : Nat → Int} {w wr : World} {gv : Nat} {cur nx : Nat → Int} {t : TypeId} {e0 e1 e2 e3 e4 e5 e6 e7 : Int} (h : L3 f w wr gv cur) (h0 : e0 = nx 0) (h1 : e1 = nx 1) (h2 : e2 = nx 2) (h3 : e3 = nx 3) (h4 : e4 = nx 4) (h5 : e5 = nx 5) (h6 : e6 = nx 6) (h7 : e7 = nx 7) :
    L3 f w (wr.alloc (.cells #[.int .u32 e0, .int .u32 e1, .int .u32 e2, .int .u32 e3, .int .u32 e4, .int .u32 e5, .int .u32 e6, .int .u32 e7] t)).drew wr.heap.size nx := by
  have hl := h.lt
  have hlo := h.lo
  refine ⟨(h.bel.alloc h.bel.size _).drew, fun i hi => ?_, fun i hi => ?_, by omega, by simp⟩
  · show (wr.alloc _).cell? _ = _
    rw [World.cell?_alloc_lt _ _ _ (by show w.heap.size < _; omega)]; exact h.row i hi
  · show (wr.alloc _).cell? _ = _
    rw [World.cell?_alloc_new]
    have := words_at nx 8 i hi
    rw [← words8 h0 h1 h2 h3 h4 h5 h6 h7] at this
    simpa using this
/-- While the state is added: the state in block gh up to k. -/
structure L4 (w wr : World) (gh gv : Nat) (s0 c : Nat → Int) (k : Nat) : Prop where
  gr : w.grownBy wr (some gh)
  h : ∀ i, i < 8 → wr.cell? ⟨gh, i, none⟩ = some (.int .u32 (if i < k then (c i + s0 i) % 4294967296 else s0 i)) ∧ wr.frozen? ⟨gh, i, none⟩ = false
  v : ∀ i, i < 8 → wr.cell? ⟨gv, i, none⟩ = some (.int .u32 (c i))
  ne : gv ≠ gh
theorem L4.drew {w wr : World} {gh gv : Nat} {s0 c : Nat → Int} {k : Nat} (h : L4 w wr gh gv s0 c k) : L4 w wr.drew gh gv s0 c k :=
  ⟨⟨h.gr.os, h.gr.tape, h.gr.output, h.gr.size, h.gr.block⟩, h.h, h.v, h.ne⟩
theorem L4.set {w wr : World} {gh gv : Nat} {s0 c : Nat → Int} {k : Nat} (h : L4 w wr gh gv s0 c k) (hk : k < 8) (x : Int) (hx : x = (c k + s0 k) % 4294967296) : L4 w (wr.setCell ⟨gh, k, none⟩ (.int .u32 x)) gh gv s0 c (k + 1) := by
  subst hx
  refine ⟨⟨h.gr.os, h.gr.tape, h.gr.output, by simpa using h.gr.size, fun b hl hr => ?_⟩, fun i hi => ?_, fun i hi => ?_, h.ne⟩
  · rw [Below.heap_setCell _ _ _ _ (fun e => hr (congrArg some e))]; exact h.gr.block b hl hr
  · refine ⟨?_, by rw [World.frozen?_setCell]; exact (h.h i hi).2⟩
    by_cases e : i = k
    · subst e
      rw [World.cell?_setCell_same _ _ _ (h.h i hi).1, if_pos (by omega)]
    · rw [World.cell?_setCell_other _ _ _ _ (fun he => e (congrArg Addr.off he).symm), (h.h i hi).1]
      by_cases hik : i < k
      · rw [if_pos hik, if_pos (by omega)]
      · rw [if_neg hik, if_neg (by omega)]
  · rw [World.cell?_setCell_other _ _ _ _ (fun he => h.ne (congrArg Addr.block he).symm)]; exact h.v i hi
theorem bel_gr {w wr : World} (h : Below w.heap.size w wr) (g : Option Nat) : w.grownBy wr g := ⟨h.os, h.tape, h.output, h.size, fun k hk _ => h.block k hk⟩

set_option maxHeartbeats 2000000 in
theorem l04Block_any (gh gb off cb gk : Nat) (s0 f : Nat → Int) (w : World) (hs : ∀ i, i < 8 → w.cell? ⟨gh, i, none⟩ = some (.int .u32 (s0 i)) ∧ w.frozen? ⟨gh, i, none⟩ = false)
    (hb : Bytes w (some ⟨gb, off, none⟩) 64 f) (hcb : 64 ≤ cb) (hk : ∀ i, i < 64 → w.cell? ⟨gk, i, none⟩ = some (.int .u32 (KK i))) (n1 : gb ≠ gh) (n2 : gk ≠ gh) :
    Calls Tryd.prog 76 #[.slice (some ⟨gh, 0, none⟩) 8 8, .slice (some ⟨gb, off, none⟩) 64 cb, .slice (some ⟨gk, 0, none⟩) 64 64] w fun e w' => e = .returned (.tuple #[]) ∧ w.grownBy w' (some gh) ∧ ∀ i, i < 8 → w'.cell? ⟨gh, i, none⟩ = some (.int .u32 (blk f s0 i)) ∧ w'.frozen? ⟨gh, i, none⟩ = false := by
  have HS : Hid (∀ i, i < 8 → w.cell? ⟨gh, i, none⟩ = some (.int .u32 (s0 i)) ∧ w.frozen? ⟨gh, i, none⟩ = false) := hs
  have HBt : Hid (Bytes w (some ⟨gb, off, none⟩) 64 f) := hb
  have HK : Hid (∀ i, i < 64 → w.cell? ⟨gk, i, none⟩ = some (.int .u32 (KK i))) := hk
  have lb : gb < w.heap.size := by
    obtain ⟨b', o', e, hc⟩ := hb.2 (by omega)
    cases e
    exact World.block_lt_of_cell? w _ (hc 0 (by omega))
  have lk : gk < w.heap.size := World.block_lt_of_cell? w _ (hk 0 (by omega))
  have lh : gh < w.heap.size := World.block_lt_of_cell? w _ (hs 0 (by omega)).1
  clear hs hb hk
  obtain ⟨Z, hZ, hmk⟩ := make64
  have X0 : Hid (Arr w.heap.size w (w.alloc (.cells Z 112)) w.heap.size 64 0 (sch f)) := Arr.start w Z 64 hZ _ _
  go_enter Tryd.func76, Tryd.ntmps76
  go_wp2
  go_loopw [7] (fun i wr => ∃ k : Nat, k ≤ 16 ∧ i = .int .i64 k ∧ Hid (Arr w.heap.size w wr w.heap.size 64 k (sch f))) (fun i _ => 16 - (intOf i).toNat)
  case atStart => exact ⟨0, Nat.zero_le _, rfl, X0⟩
  case round =>
    clear X0 hmk
    obtain ⟨k, hk, rfl, X⟩ := hrel
    by_cases hlt : k < 16
    · have HX : Hid (Bytes wr (some ⟨gb, off, none⟩) 64 f) := HBt.out.below X.out.bel (fun b' o' _ h2 => by cases h2; exact lb)
      obtain ⟨b0, hb0⟩ : ∃ z, z = f (4 * k + 0) := ⟨_, rfl⟩
      have E0 : Hid (b0 = f (4 * k + 0)) := hb0
      have cb0 : wr.cell? ⟨gb, off + 4 * k, none⟩ = some (.int .u8 b0) := by
        obtain ⟨b', o', e, hc⟩ := HX.out.2 (by omega)
        cases e
        rw [hb0]; exact hc (4 * k + 0) (by omega)
      have w0 : IntKind.u32.wrap b0 = b0 := by have := HX.out.1 (4 * k + 0); rw [IntKind.wrap_u32, hb0]; omega
      have t0 : (4 * (k : Int)).toNat = 4 * k := by omega
      have v0 : IntKind.i64.wrap (4 * (k : Int)) = 4 * (k : Int) := by rw [IntKind.wrap_i64]; omega
      have p0 : (0 : Int) ≤ 4 * (k : Int) := by omega
      have q0 : 4 * (k : Int) < 64 := by omega
      clear hb0
      obtain ⟨b1, hb1⟩ : ∃ z, z = f (4 * k + 1) := ⟨_, rfl⟩
      have E1 : Hid (b1 = f (4 * k + 1)) := hb1
      have cb1 : wr.cell? ⟨gb, off + (4 * k + 1), none⟩ = some (.int .u8 b1) := by
        obtain ⟨b', o', e, hc⟩ := HX.out.2 (by omega)
        cases e
        rw [hb1]; exact hc (4 * k + 1) (by omega)
      have w1 : IntKind.u32.wrap b1 = b1 := by have := HX.out.1 (4 * k + 1); rw [IntKind.wrap_u32, hb1]; omega
      have t1 : (4 * (k : Int) + 1).toNat = 4 * k + 1 := by omega
      have v1 : IntKind.i64.wrap (4 * (k : Int) + 1) = 4 * (k : Int) + 1 := by rw [IntKind.wrap_i64]; omega
      have p1 : (0 : Int) ≤ 4 * (k : Int) + 1 := by omega
      have q1 : 4 * (k : Int) + 1 < 64 := by omega
      clear hb1
      obtain ⟨b2, hb2⟩ : ∃ z, z = f (4 * k + 2) := ⟨_, rfl⟩
      have E2 : Hid (b2 = f (4 * k + 2)) := hb2
      have cb2 : wr.cell? ⟨gb, off + (4 * k + 2), none⟩ = some (.int .u8 b2) := by
        obtain ⟨b', o', e, hc⟩ := HX.out.2 (by omega)
        cases e
        rw [hb2]; exact hc (4 * k + 2) (by omega)
      have w2 : IntKind.u32.wrap b2 = b2 := by have := HX.out.1 (4 * k + 2); rw [IntKind.wrap_u32, hb2]; omega
      have t2 : (4 * (k : Int) + 2).toNat = 4 * k + 2 := by omega
      have v2 : IntKind.i64.wrap (4 * (k : Int) + 2) = 4 * (k : Int) + 2 := by rw [IntKind.wrap_i64]; omega
      have p2 : (0 : Int) ≤ 4 * (k : Int) + 2 := by omega
      have q2 : 4 * (k : Int) + 2 < 64 := by omega
      clear hb2
      obtain ⟨b3, hb3⟩ : ∃ z, z = f (4 * k + 3) := ⟨_, rfl⟩
      have E3 : Hid (b3 = f (4 * k + 3)) := hb3
      have cb3 : wr.cell? ⟨gb, off + (4 * k + 3), none⟩ = some (.int .u8 b3) := by
        obtain ⟨b', o', e, hc⟩ := HX.out.2 (by omega)
        cases e
        rw [hb3]; exact hc (4 * k + 3) (by omega)
      have w3 : IntKind.u32.wrap b3 = b3 := by have := HX.out.1 (4 * k + 3); rw [IntKind.wrap_u32, hb3]; omega
      have t3 : (4 * (k : Int) + 3).toNat = 4 * k + 3 := by omega
      have v3 : IntKind.i64.wrap (4 * (k : Int) + 3) = 4 * (k : Int) + 3 := by rw [IntKind.wrap_i64]; omega
      have p3 : (0 : Int) ≤ 4 * (k : Int) + 3 := by omega
      have q3 : 4 * (k : Int) + 3 < 64 := by omega
      clear hb3
      have HW : Hid (sch f k = bits .or .u32 (bits .or .u32 (bits .or .u32 (IntKind.u32.wrap (b0 * 16777216)) (IntKind.u32.wrap (b1 * 65536))) (IntKind.u32.wrap (b2 * 256))) b3) := by
        show _ = _
        rw [sch_low f k hlt, E0.out, E1.out, E2.out, E3.out]
        exact word_or f HX.out.1 k
      clear E0 E1 E2 E3
      obtain ⟨u, hu⟩ := Option.isSome_iff_exists.1 (X.out.thr k (by omega)).1
      have hz := (X.out.thr k (by omega)).2
      have k0 : (0 : Int) ≤ (k : Int) := by omega
      have k1 : (k : Int) < 64 := by omega
      have nb : w.heap.size ≠ gb := by omega
      have M : Hid (∀ v, ((wr.setCell ⟨w.heap.size, k, none⟩ v).drew.cell? ⟨gb, off + 4 * k, none⟩ = some (.int .u8 b0)) ∧ ((wr.setCell ⟨w.heap.size, k, none⟩ v).drew.cell? ⟨gb, off + (4 * k + 1), none⟩ = some (.int .u8 b1)) ∧ ((wr.setCell ⟨w.heap.size, k, none⟩ v).drew.cell? ⟨gb, off + (4 * k + 2), none⟩ = some (.int .u8 b2)) ∧ ((wr.setCell ⟨w.heap.size, k, none⟩ v).drew.cell? ⟨gb, off + (4 * k + 3), none⟩ = some (.int .u8 b3))) := fun v =>
        ⟨(World.cell?_setCell_other wr _ _ v (fun he => nb (congrArg Addr.block he))).trans cb0, (World.cell?_setCell_other wr _ _ v (fun he => nb (congrArg Addr.block he))).trans cb1, (World.cell?_setCell_other wr _ _ v (fun he => nb (congrArg Addr.block he))).trans cb2, (World.cell?_setCell_other wr _ _ v (fun he => nb (congrArg Addr.block he))).trans cb3⟩
      go_wp2
      go_region_held3 (fun w' => w'.cell? ⟨gb, off + 4 * k, none⟩ = some (.int .u8 b0) ∧ w'.cell? ⟨gb, off + (4 * k + 1), none⟩ = some (.int .u8 b1) ∧ w'.cell? ⟨gb, off + (4 * k + 2), none⟩ = some (.int .u8 b2) ∧ w'.cell? ⟨gb, off + (4 * k + 3), none⟩ = some (.int .u8 b3)) (first | exact ⟨cb0, cb1, cb2, cb3⟩ | exact M.out _) (fail)
      all_goals
        have X2 : Hid (Arr w.heap.size w (wr.setCell ⟨w.heap.size, k, none⟩ (.int .u32 (bits BinOp.or IntKind.u32 (bits BinOp.or IntKind.u32 (bits BinOp.or IntKind.u32 (IntKind.u32.wrap (b0 * 16777216)) (IntKind.u32.wrap (b1 * 65536))) (IntKind.u32.wrap (b2 * 256))) b3))).drew w.heap.size 64 (k + 1) (sch f)) := (X.out.set (by omega) (Nat.le_refl _) _ HW.out.symm).drew
        clear X M cb0 cb1 cb2 cb3 hu hz
        go_wp2
        go_roundw
        case rel => exact ⟨k + 1, by omega, by go_num, X2⟩
        case measure => (simp [intOf]; try omega)
    · have X16 : Hid (Arr w.heap.size w wr w.heap.size 64 16 (sch f)) := by
        rw [← show k = 16 by omega]; exact X
      have e16 : (k : Int) = 16 := by omega
      rw [e16]
      clear X e16 hlt hk
      go_wp2
      go_loopw [8] (fun i wr => ∃ k : Nat, 16 ≤ k ∧ k ≤ 64 ∧ i = .int .i64 k ∧ Hid (Arr w.heap.size w wr w.heap.size 64 k (sch f))) (fun i _ => 64 - (intOf i).toNat)
      case atStart => exact ⟨16, by omega, by omega, rfl, X16⟩
      case round =>
        clear X16
        obtain ⟨k, hk16, hk, rfl, X⟩ := hrel
        by_cases hlt : k < 64
        · have c2 := X.out.at_ (k - 2) (by omega)
          have c15 := X.out.at_ (k - 15) (by omega)
          have c16 := X.out.at_ (k - 16) (by omega)
          have c7 := X.out.at_ (k - 7) (by omega)
          obtain ⟨s2, hs2⟩ : ∃ s, s = sch f (k - 2) := ⟨_, rfl⟩
          obtain ⟨s15, hs15⟩ : ∃ s, s = sch f (k - 15) := ⟨_, rfl⟩
          obtain ⟨s16, hs16⟩ : ∃ s, s = sch f (k - 16) := ⟨_, rfl⟩
          obtain ⟨s7, hs7⟩ : ∃ s, s = sch f (k - 7) := ⟨_, rfl⟩
          have HSc : Hid (IntKind.u32.wrap (IntKind.u32.wrap (IntKind.u32.wrap (s16 + sg0 s15) + s7) + sg1 s2) = sch f k) := by
            show _ = _
            rw [hs2, hs15, hs16, hs7, wrap_swap]; exact (sch_high f k hk16).symm
          rw [← hs2] at c2
          rw [← hs15] at c15
          rw [← hs16] at c16
          rw [← hs7] at c7
          clear hs2 hs15 hs16 hs7
          have x2 : ((k : Int) - 2).toNat = k - 2 := by omega
          have p2 : (0 : Int) ≤ (k : Int) - 2 := by omega
          have q2 : (k : Int) - 2 < 64 := by omega
          have w2 : IntKind.i64.wrap ((k : Int) - 2) = (k : Int) - 2 := by rw [IntKind.wrap_i64]; omega
          have m2 : (2 : Int) ≤ k := by omega
          have mm2 : 2 ≤ k := by omega
          have r2 : (k : Int) < 66 := by omega
          have rr2 : k < 66 := by omega
          have x15 : ((k : Int) - 15).toNat = k - 15 := by omega
          have p15 : (0 : Int) ≤ (k : Int) - 15 := by omega
          have q15 : (k : Int) - 15 < 64 := by omega
          have w15 : IntKind.i64.wrap ((k : Int) - 15) = (k : Int) - 15 := by rw [IntKind.wrap_i64]; omega
          have m15 : (15 : Int) ≤ k := by omega
          have mm15 : 15 ≤ k := by omega
          have r15 : (k : Int) < 79 := by omega
          have rr15 : k < 79 := by omega
          have x16 : ((k : Int) - 16).toNat = k - 16 := by omega
          have p16 : (0 : Int) ≤ (k : Int) - 16 := by omega
          have q16 : (k : Int) - 16 < 64 := by omega
          have w16 : IntKind.i64.wrap ((k : Int) - 16) = (k : Int) - 16 := by rw [IntKind.wrap_i64]; omega
          have m16 : (16 : Int) ≤ k := by omega
          have mm16 : 16 ≤ k := by omega
          have r16 : (k : Int) < 80 := by omega
          have rr16 : k < 80 := by omega
          have x7 : ((k : Int) - 7).toNat = k - 7 := by omega
          have p7 : (0 : Int) ≤ (k : Int) - 7 := by omega
          have q7 : (k : Int) - 7 < 64 := by omega
          have w7 : IntKind.i64.wrap ((k : Int) - 7) = (k : Int) - 7 := by rw [IntKind.wrap_i64]; omega
          have m7 : (7 : Int) ≤ k := by omega
          have mm7 : 7 ≤ k := by omega
          have r7 : (k : Int) < 71 := by omega
          have rr7 : k < 71 := by omega
          obtain ⟨u, hu⟩ := Option.isSome_iff_exists.1 (X.out.thr k (by omega)).1
          have hz := (X.out.thr k (by omega)).2
          have k16 : k ≠ k - 16 := by omega
          have k7 : k ≠ k - 7 := by omega
          have kk0 : (0 : Int) ≤ (k : Int) := by omega
          have kk1 : (k : Int) < 64 := by omega
          have M : Hid (∀ v, ((wr.setCell ⟨w.heap.size, k, none⟩ v).drew.cell? ⟨w.heap.size, k - 16, none⟩ = some (.int .u32 s16)) ∧ ((wr.setCell ⟨w.heap.size, k, none⟩ v).drew.cell? ⟨w.heap.size, k - 7, none⟩ = some (.int .u32 s7))) := fun v =>
            ⟨(World.cell?_setCell_other wr _ _ v (fun he => k16 (congrArg Addr.off he))).trans c16, (World.cell?_setCell_other wr _ _ v (fun he => k7 (congrArg Addr.off he))).trans c7⟩
          go_wp2
          go_region_held3 (fun w' => w'.cell? ⟨w.heap.size, k - 16, none⟩ = some (.int .u32 s16) ∧ w'.cell? ⟨w.heap.size, k - 7, none⟩ = some (.int .u32 s7)) (first | exact ⟨c16, c7⟩ | exact M.out _) ((go_at_call 81; (with_reducible refine (l04Turn_any _ _ _ (by omega) (by omega)).mono ?_); rintro e w1 ⟨rfl, rfl⟩))
          all_goals
            have X2 : Hid (Arr w.heap.size w (wr.setCell ⟨w.heap.size, k, none⟩ (.int .u32 (IntKind.u32.wrap (IntKind.u32.wrap (IntKind.u32.wrap (s16 + bits BinOp.xor IntKind.u32 (bits BinOp.xor IntKind.u32 (rot s15 7) (rot s15 18)) (s15 / 8)) + s7) + bits BinOp.xor IntKind.u32 (bits BinOp.xor IntKind.u32 (rot s2 17) (rot s2 19)) (s2 / 1024))))).drew w.heap.size 64 (k + 1) (sch f)) := (X.out.set (by omega) (Nat.le_refl _) _ HSc.out).drew
            clear X M c16 c7 c2 c15 hu hz
            go_wp2
            go_roundw
            case rel => exact ⟨k + 1, by omega, by omega, by go_num, X2⟩
            case measure => (simp [intOf]; try omega)
        · have X64 : Hid (Arr w.heap.size w wr w.heap.size 64 64 (sch f)) := by
            have e := X
            rw [show k = 64 by omega] at e
            exact e
          have e64 : (k : Int) = 64 := by omega
          rw [e64]
          clear X e64 hlt hk hk16
          obtain ⟨i0, hi, hz0, hz1, hz2⟩ := info_parts Tryd.infoW
          have hn : Hid (∀ o, ∀ j u, (words s0 8)[j]? = some u → (wr.alloc o).cell? ((⟨gh, 0, none⟩ : Addr).add j) = some u) := fun o j u hu => by
            obtain ⟨hj, rfl⟩ := words_get hu
            have hl := X64.out.bel.size
            rw [Addr.add_mid, Nat.zero_add, World.cell?_alloc_lt _ _ _ (by show gh < _; omega), X64.out.bel.cell (p := ⟨gh, j, none⟩) lh]
            exact (HS.out j hj).1
          have hl := X64.out.bel.size
          go_wp2_with (at_builtin; refine wpList_append_own _ rfl _ _ 120 rfl (w.heap.size + 1) 112 i0 (.int .u32 0) 1 4 Tryd.underlying120 hi hz0 hz1 hz2 rfl (by decide) _ 0 [] rfl (World.ownsRow_made wr #[] 0 (by have := X64.out.lt; omega) (Nat.zero_le _) rfl) ⟨gh, 0, none⟩ 8 8 (words s0 8) rfl (by rw [words_len]) (hn.out _) (words_one _ _) (by unfold maxLen; omega) (by omega) (by have := X64.out.lt; simp; omega) ?_)
          intro v1 w1 O1 G1 _
          obtain ⟨gv, cap, hv, L0⟩ := l3_start X64.out O1 G1
          have Y0 : Hid (L3 f w w1 gv s0) := L0
          subst hv
          clear L0 O1 G1 hn X64 hl hi hz0 hz1 hz2
          go_wp2
          go_loopw [11, 12] (fun v i wr => ∃ k gv cap : Nat, k ≤ 64 ∧ i = .int .i64 k ∧ v = .slice (some ⟨gv, 0, none⟩) 8 cap ∧ Hid (L3 f w wr gv (stR f s0 k))) (fun _ i _ => 64 - (intOf i).toNat)
          case atStart => exact ⟨0, gv, cap, Nat.zero_le _, rfl, rfl, Y0⟩
          case round =>
            clear Y0
            obtain ⟨k, gv, cap, hk, rfl, rfl, X⟩ := hrel
            by_cases hlt : k < 64
            · have cK : wr.cell? ⟨gk, k, none⟩ = some (.int .u32 (KK k)) := by rw [X.out.bel.cell (p := ⟨gk, k, none⟩) lk]; exact HK.out k hlt
              have cW := X.out.row k hlt
              have k0 : (0 : Int) ≤ (k : Int) := by omega
              have k1 : (k : Int) < 64 := by omega
              have HR : Hid (stR f s0 (k + 1) = rnd (KK k) (sch f k) (stR f s0 k)) := rfl
              obtain ⟨cur, hcur⟩ : ∃ c, c = stR f s0 k := ⟨_, rfl⟩
              obtain ⟨kc, hkc⟩ : ∃ z, z = KK k := ⟨_, rfl⟩
              obtain ⟨wc, hwc⟩ : ∃ z, z = sch f k := ⟨_, rfl⟩
              rw [← hcur, ← hkc, ← hwc] at HR
              rw [← hkc] at cK
              rw [← hwc] at cW
              rw [← hcur] at X
              clear hcur hkc hwc
              have c0 := X.out.cur 0 (by omega)
              have c1 := X.out.cur 1 (by omega)
              have c2 := X.out.cur 2 (by omega)
              have c3 := X.out.cur 3 (by omega)
              have c4 := X.out.cur 4 (by omega)
              have c5 := X.out.cur 5 (by omega)
              have c6 := X.out.cur 6 (by omega)
              have c7 := X.out.cur 7 (by omega)
              go_wp2
              go_quiet ((go_at_call 81; exact Calls.quiet_of_same (l04Turn_any _ _ _ (by omega) (by omega))))
              have X1 : Hid (L3 f w (wr.drewN nq) gv cur) := X.out.drewN nq
              obtain ⟨wx, hwx⟩ : ∃ wx, wx = wr.drewN nq := ⟨_, rfl⟩
              rw [← hwx] at X1
              rw [← hwx]
              clear hwx X cK cW c0 c1 c2 c3 c4 c5 c6 c7
              have c0 := X1.out.cur 0 (by omega)
              have c1 := X1.out.cur 1 (by omega)
              have c2 := X1.out.cur 2 (by omega)
              have c3 := X1.out.cur 3 (by omega)
              have c4 := X1.out.cur 4 (by omega)
              have c5 := X1.out.cur 5 (by omega)
              have c6 := X1.out.cur 6 (by omega)
              have c7 := X1.out.cur 7 (by omega)
              go_wp2
              go_quiet ((go_at_call 81; exact Calls.quiet_of_same (l04Turn_any _ _ _ (by omega) (by omega))))
              have X2 : Hid (L3 f w (wx.drewN nq) gv cur) := X1.out.drewN nq
              obtain ⟨wy, hwy⟩ : ∃ wx', wx' = wx.drewN nq := ⟨_, rfl⟩
              rw [← hwy] at X2
              rw [← hwy]
              clear hwy X1 c0 c1 c2 c3 c4 c5 c6 c7
              have c0 := X2.out.cur 0 (by omega)
              have c1 := X2.out.cur 1 (by omega)
              have c2 := X2.out.cur 2 (by omega)
              have c3 := X2.out.cur 3 (by omega)
              have c4 := X2.out.cur 4 (by omega)
              have c5 := X2.out.cur 5 (by omega)
              have c6 := X2.out.cur 6 (by omega)
              have c7 := X2.out.cur 7 (by omega)
              have lg := X2.out.lt
              have M : Hid (∀ o, ((wy.alloc o).drew.cell? ⟨gv, 0, none⟩ = some (.int .u32 (cur 0))) ∧ ((wy.alloc o).drew.cell? ⟨gv, 1, none⟩ = some (.int .u32 (cur 1))) ∧ ((wy.alloc o).drew.cell? ⟨gv, 2, none⟩ = some (.int .u32 (cur 2))) ∧ ((wy.alloc o).drew.cell? ⟨gv, 3, none⟩ = some (.int .u32 (cur 3))) ∧ ((wy.alloc o).drew.cell? ⟨gv, 4, none⟩ = some (.int .u32 (cur 4))) ∧ ((wy.alloc o).drew.cell? ⟨gv, 5, none⟩ = some (.int .u32 (cur 5))) ∧ ((wy.alloc o).drew.cell? ⟨gv, 6, none⟩ = some (.int .u32 (cur 6)))) := fun o => ⟨(World.cell?_alloc_lt _ _ _ (by exact lg)).trans c0, (World.cell?_alloc_lt _ _ _ (by exact lg)).trans c1, (World.cell?_alloc_lt _ _ _ (by exact lg)).trans c2, (World.cell?_alloc_lt _ _ _ (by exact lg)).trans c3, (World.cell?_alloc_lt _ _ _ (by exact lg)).trans c4, (World.cell?_alloc_lt _ _ _ (by exact lg)).trans c5, (World.cell?_alloc_lt _ _ _ (by exact lg)).trans c6⟩
              go_wp2
              go_region_held3 (fun w' => w'.cell? ⟨gv, 0, none⟩ = some (.int .u32 (cur 0)) ∧ w'.cell? ⟨gv, 1, none⟩ = some (.int .u32 (cur 1)) ∧ w'.cell? ⟨gv, 2, none⟩ = some (.int .u32 (cur 2)) ∧ w'.cell? ⟨gv, 3, none⟩ = some (.int .u32 (cur 3)) ∧ w'.cell? ⟨gv, 4, none⟩ = some (.int .u32 (cur 4)) ∧ w'.cell? ⟨gv, 5, none⟩ = some (.int .u32 (cur 5)) ∧ w'.cell? ⟨gv, 6, none⟩ = some (.int .u32 (cur 6))) (first | exact ⟨c0, c1, c2, c3, c4, c5, c6⟩ | exact M.out _) (fail)
              all_goals
                clear M c0 c1 c2 c3 c4 c5 c6 c7
                go_wp2
                go_roundw
                case rel =>
                  refine ⟨k + 1, wy.heap.size, 8, by omega, by go_num, rfl, l3_next X2.out ?_ ?_ ?_ ?_ ?_ ?_ ?_ ?_⟩
                  · rw [HR.out]
                    show _ = (dnm (cur 4) (cur 5) (cur 6) (cur 7) kc wc + upm (cur 0) (cur 1) (cur 2)) % 4294967296
                    unfold dnm upm chm mjm rot3
                    omega
                  · rw [HR.out]; rfl
                  · rw [HR.out]; rfl
                  · rw [HR.out]; rfl
                  · rw [HR.out]
                    show _ = (cur 3 + dnm (cur 4) (cur 5) (cur 6) (cur 7) kc wc) % 4294967296
                    unfold dnm chm rot3
                    omega
                  · rw [HR.out]; rfl
                  · rw [HR.out]; rfl
                  · rw [HR.out]; rfl
                case measure => (simp [intOf]; try omega)
            · have Y64 : Hid (L3 f w wr gv (stR f s0 64)) := by
                have e := X
                rw [show k = 64 by omega] at e
                exact e
              have e64 : (k : Int) = 64 := by omega
              rw [e64]
              obtain ⟨c, hc⟩ : ∃ c, c = stR f s0 64 := ⟨_, rfl⟩
              have HC : Hid (c = stR f s0 64) := hc
              rw [← hc] at Y64
              have Z0 : Hid (L4 w wr gh gv s0 c 0) := ⟨bel_gr Y64.out.bel _, fun i hi => ⟨by rw [if_neg (by omega), Y64.out.bel.cell (p := ⟨gh, i, none⟩) lh]; exact (HS.out i hi).1, by rw [Y64.out.bel.frozen (p := ⟨gh, i, none⟩) lh]; exact (HS.out i hi).2⟩, Y64.out.cur, by have := Y64.out.lo; omega⟩
              clear X e64 hlt hk hc Y64
              go_wp2
              go_loopw [17] (fun i wr => ∃ k : Nat, k ≤ 8 ∧ i = .int .i64 k ∧ Hid (L4 w wr gh gv s0 c k)) (fun i _ => 8 - (intOf i).toNat)
              case atStart => exact ⟨0, Nat.zero_le _, rfl, Z0⟩
              case round =>
                clear Z0
                obtain ⟨k, hk, rfl, X⟩ := hrel
                by_cases hlt : k < 8
                · have d6 := (X.out.h k hlt).1
                  rw [if_neg (by omega)] at d6
                  have dz := (X.out.h k hlt).2
                  have d2 := X.out.v k hlt
                  have k0 : (0 : Int) ≤ (k : Int) := by omega
                  have k1 : (k : Int) < 8 := by omega
                  have ne := X.out.ne
                  obtain ⟨ck, hck⟩ : ∃ z, z = c k := ⟨_, rfl⟩
                  obtain ⟨sk, hsk⟩ : ∃ z, z = s0 k := ⟨_, rfl⟩
                  have HSk : Hid ((sk + ck) % 4294967296 = (c k + s0 k) % 4294967296) := by show _ = _; rw [hck, hsk, Int.add_comm]
                  rw [← hck] at d2
                  rw [← hsk] at d6
                  clear hck hsk
                  go_wp2
                  go_region
                  all_goals
                    have X2 : Hid (L4 w (wr.setCell ⟨gh, k, none⟩ (.int .u32 ((sk + ck) % 4294967296))).drew gh gv s0 c (k + 1)) := (X.out.set hlt _ HSk.out).drew
                    clear X d6 d2 dz
                    go_wp2
                    go_roundw
                    case rel => exact ⟨k + 1, by omega, by go_num, X2⟩
                    case measure => (simp [intOf]; try omega)
                · have X8 : Hid (L4 w wr gh gv s0 c 8) := by
                    have e := X
                    rw [show k = 8 by omega] at e
                    exact e
                  have e8 : ¬ (k : Int) < 8 := by omega
                  clear X
                  go_wp2
                  go_end0
                  refine ⟨rfl, X8.out.gr, fun i hi => ?_⟩
                  have := X8.out.h i hi
                  rw [if_pos hi, HC.out] at this
                  exact this
end Go.Proofs.YtbeehlhcckndcaaDoor

namespace Go.Proofs.YtbeehlhcckndcaaDoor
open Go.RowKit Go.PlainAid
set_option linter.unusedVariables false
set_option maxRecDepth 20000

theorem kk_list : words KK 64 = [.int .u32 1116352408, .int .u32 1899447441, .int .u32 3049323471, .int .u32 3921009573, .int .u32 961987163, .int .u32 1508970993, .int .u32 2453635748, .int .u32 2870763221, .int .u32 3624381080, .int .u32 310598401, .int .u32 607225278, .int .u32 1426881987, .int .u32 1925078388, .int .u32 2162078206, .int .u32 2614888103, .int .u32 3248222580, .int .u32 3835390401, .int .u32 4022224774, .int .u32 264347078, .int .u32 604807628, .int .u32 770255983, .int .u32 1249150122, .int .u32 1555081692, .int .u32 1996064986, .int .u32 2554220882, .int .u32 2821834349, .int .u32 2952996808, .int .u32 3210313671, .int .u32 3336571891, .int .u32 3584528711, .int .u32 113926993, .int .u32 338241895, .int .u32 666307205, .int .u32 773529912, .int .u32 1294757372, .int .u32 1396182291, .int .u32 1695183700, .int .u32 1986661051, .int .u32 2177026350, .int .u32 2456956037, .int .u32 2730485921, .int .u32 2820302411, .int .u32 3259730800, .int .u32 3345764771, .int .u32 3516065817, .int .u32 3600352804, .int .u32 4094571909, .int .u32 275423344, .int .u32 430227734, .int .u32 506948616, .int .u32 659060556, .int .u32 883997877, .int .u32 958139571, .int .u32 1322822218, .int .u32 1537002063, .int .u32 1747873779, .int .u32 1955562222, .int .u32 2024104815, .int .u32 2227730452, .int .u32 2361852424, .int .u32 2428436474, .int .u32 2756734187, .int .u32 3204031479, .int .u32 3329325298] := by kernel_rfl
theorem l04Consts_any (w : World) : Calls Tryd.prog 75 #[] w fun e w' => e = .returned (.slice (some ⟨w.heap.size, 0, none⟩) 64 64) ∧ Below w.heap.size w w' ∧ w.heap.size < w'.heap.size ∧ ∀ i, i < 64 → w'.cell? ⟨w.heap.size, i, none⟩ = some (.int .u32 (KK i)) := by
  go_enter Tryd.func75, Tryd.ntmps75
  go_wp2
  go_ret
  refine ⟨rfl, (Below.refl _ _).alloc (Nat.le_refl _) _, by simp, fun i hi => ?_⟩
  rw [World.cell?_alloc_new]
  have := words_at KK 64 i hi
  rw [kk_list] at this
  simpa using this

/-- A row of one's own as a row of bytes. -/
theorem rowS_of {w : World} {B : Nat} {v : Value} {L : List Int} (O : OwnL 5 w B v L) (hL : ∀ x ∈ L, 0 ≤ x ∧ x ≤ 255) (h0 : 0 < L.length) : ∃ g cp, v = .slice (some ⟨g, 0, none⟩) L.length cp ∧ Bytes w (some ⟨g, 0, none⟩) L.length (fun j => L.getD j 0) ∧ g < w.heap.size ∧ L.length ≤ cp ∧ cp ≤ 9223372036854775807 := by
  obtain ⟨g, cp, hv, h1, h2, h3, h4, h5, h6⟩ := Laid.writ (w' := w) O hL h0
  refine ⟨g, cp, hv, ⟨fun k => getD_bd hL k, fun _ => ⟨g, 0, rfl, fun i hi => by rw [Nat.zero_add]; exact h6 i hi⟩⟩, h4, h1, by unfold maxLen at h2; omega⟩
def lenS : Value → Nat
  | .slice _ n _ => n
  | _ => 0
/-- What the model holds while it takes the blocks in. -/
structure HLd (w wr : World) (ga gk len : Nat) (F cur : Nat → Int) : Prop where
  bel : Below w.heap.size w wr
  h : ∀ i, i < 8 → wr.cell? ⟨w.heap.size, i, none⟩ = some (.int .u32 (cur i)) ∧ wr.frozen? ⟨w.heap.size, i, none⟩ = false
  row : Bytes wr (some ⟨ga, 0, none⟩) len F
  kk : ∀ i, i < 64 → wr.cell? ⟨gk, i, none⟩ = some (.int .u32 (KK i))
  na : ga ≠ w.heap.size
  nk : gk ≠ w.heap.size
theorem HLd.next {w wr w' : World} {ga gk len : Nat} {F cur nx : Nat → Int} (h : HLd w wr ga gk len F cur) (g : wr.grownBy w' (some w.heap.size)) (hn : ∀ i, i < 8 → w'.cell? ⟨w.heap.size, i, none⟩ = some (.int .u32 (nx i)) ∧ w'.frozen? ⟨w.heap.size, i, none⟩ = false) : HLd w w' ga gk len F nx := by
  refine ⟨h.bel.grown g h.bel.size (fun k hk => by cases hk; exact Nat.le_refl _), hn, ⟨h.row.1, fun h0 => ?_⟩, fun i hi => g.cell (h.kk i hi) (fun e => h.nk (by injection e)), h.na, h.nk⟩
  obtain ⟨b, off, e, hc⟩ := h.row.2 h0
  cases e
  exact ⟨ga, 0, rfl, fun i hi => g.cell (hc i hi) (fun e => h.na (by injection e))⟩
theorem slice_lh (g len cap k : Nat) (h : 64 * k + 64 ≤ len) (hc : len ≤ cap) (w : World) : (Instr.slice 97 (.slice (some ⟨g, 0, none⟩) len cap) (some (.int .i64 (64 * (k : Int)))) (some (.int .i64 (64 * (k : Int) + 64))) none).run Tryd.prog w = .ok (.slice (some ⟨g, 64 * k, none⟩) 64 (cap - 64 * k)) w := by
  have tn : (64 * (k : Int)).toNat = 64 * k := by omega
  have tm : (64 * (k : Int) + 64).toNat = 64 * k + 64 := by omega
  obtain ⟨i0, hi, hz0, hz1, hz2⟩ := info_parts Tryd.infoB
  have ht : Tryd.prog.underlying 97 = some (.slice (Tryd.prog.elem 97)) := by kernel_rfl
  have he : Tryd.prog.elem 97 = 5 := by kernel_rfl
  have hcap : ¬ cap = 64 * k := by omega
  rw [run_slice_lh w 97 _ len cap ht .i64 .i64 _ _ (by omega) (by omega) (by omega)]
  simp [sliced, sizeOf, typeInfo, he, hi, hz1, tn, tm, hcap]
  rw [Addr.add_mid, Nat.zero_add]

set_option maxHeartbeats 2000000 in
theorem l04Hash_any (a : Option Addr) (n cap : Nat) (f : Nat → Int) (w : World) (h : Bytes w a n f) (hz : n ≤ 65536) (hn : a = none → n = 0 ∧ cap = 0) (hp : ∀ b off, 0 < n → a = some ⟨b, off, none⟩ → b < w.heap.size) :
    Calls Tryd.prog 67 #[.slice a n cap] w fun e w' => e = .returned (.string (hashF f n)) ∧ Below w.heap.size w w' := by
  have H : Hid (Bytes w a n f) := h
  have HN : Hid (a = none → n = 0 ∧ cap = 0) := hn
  have HP : Hid (∀ b off, 0 < n → a = some ⟨b, off, none⟩ → b < w.heap.size) := hp
  clear h hn hp
  obtain ⟨W1, hW1⟩ : ∃ W1, W1 = w.alloc (.cells #[.int .u32 1779033703, .int .u32 3144134277, .int .u32 1013904242, .int .u32 2773480762, .int .u32 1359893119, .int .u32 2600822924, .int .u32 528734635, .int .u32 1541459225] 112) := ⟨_, rfl⟩
  have Z1 : W1.heap.size = w.heap.size + 1 := by rw [hW1]; simp
  have B1 : Hid (Below w.heap.size w W1) := by rw [hW1]; exact (Below.refl _ _).alloc (Nat.le_refl _) _
  have HC : Hid (∀ i, i < 8 → W1.cell? ⟨w.heap.size, i, none⟩ = some (.int .u32 (HB i)) ∧ W1.frozen? ⟨w.heap.size, i, none⟩ = false) := fun i hi => by
    rw [hW1]
    refine ⟨?_, by simp⟩
    rw [World.cell?_alloc_new]
    have := words_at HB 8 i hi
    rw [show words HB 8 = [.int .u32 1779033703, .int .u32 3144134277, .int .u32 1013904242, .int .u32 2773480762, .int .u32 1359893119, .int .u32 2600822924, .int .u32 528734635, .int .u32 1541459225] by kernel_rfl] at this
    simpa using this
  have HBy : Hid (∀ o, Bytes (W1.alloc o) a n f) := fun o => H.out.below (B1.out.alloc (by omega) o) HP.out
  have HO : Hid (OwnL 5 (W1.alloc (.cells #[] 5)) (w.heap.size + 1) (.slice (some ⟨w.heap.size + 1, 0, none⟩) 0 0) []) := by
    have := World.ownsRow_made (base := w.heap.size + 1) (e := 5) (size := 1) W1 #[] 0 (by omega) (Nat.zero_le _) rfl
    rw [Z1] at this
    exact this
  have HB2 : Hid (Below w.heap.size w (W1.alloc (.cells #[] 5))) := B1.out.alloc (by omega) _
  have HB3 : Hid (Below (w.heap.size + 1) W1 (W1.alloc (.cells #[] 5))) := (Below.refl _ _).alloc (by omega) _
  go_enter Tryd.func67, Tryd.ntmps67
  rw [hW1] at HBy HO
  go_wp2_with (at_builtin; refine wpl_byt _ rfl _ _ rfl (w.heap.size + 1) _ [] rfl HO.out a n cap f rfl (HBy.out _) HN.out (by simp; omega) (by simp) ?_)
  rw [← hW1]
  intro v1 w1 Y1
  have Y1' : Hid (OwnL 5 w1 (w.heap.size + 1) v1 ((List.range n).map f)) := Y1.out.own
  have F1 : Hid (Below (w.heap.size + 1) W1 w1) := HB3.out.trans Y1.out.below
  have z1 : w.heap.size + 1 ≤ w1.heap.size := by have := F1.out.size; omega
  clear Y1 HBy HO HB2 HB3 HN HP hW1
  go_wp2_with (at_builtin; refine wpl_app _ rfl _ _ rfl (w.heap.size + 1) _ _ rfl (World.ownsRow.alloc Y1'.out _) ⟨w1.heap.size, 0, none⟩ 1 1 [128] rfl rfl (news_row (Boxed.new w1 [.int .u8 128] _)) (by simp; omega) (by simp; omega) ?_)
  intro v2 w2 Y2
  have Y2' : Hid (OwnL 5 w2 (w.heap.size + 1) v2 ((List.range n).map f ++ [128])) := Y2.out.own
  have F2 : Hid (Below (w.heap.size + 1) W1 w2) := (F1.out.alloc z1 _).trans Y2.out.below
  clear Y2 Y1' F1 z1
  obtain ⟨L0, hL0⟩ : ∃ L, L = (List.range n).map f ++ [128] := ⟨_, rfl⟩
  have sL0 : L0.length = n + 1 := by rw [hL0]; simp
  have bL0 : Hid (L0 = (List.range n).map f ++ [128]) := hL0
  rw [← hL0] at Y2'
  clear hL0
  go_wp2
  go_loopw [4] (fun v wr => ∃ k : Nat, k ≤ padN (n + 1) ∧ Hid (OwnL 5 wr (w.heap.size + 1) v (L0 ++ List.replicate k 0)) ∧ Hid (Below (w.heap.size + 1) W1 wr)) (fun v _ => padN (n + 1) + n + 1 - (lenS v))
  case atStart => exact ⟨0, Nat.zero_le _, by simpa using Y2', F2⟩
  case round =>
    clear Y2' F2
    obtain ⟨k, hk, Y, B⟩ := hrel
    have pl := padN_lt (n + 1)
    have sL : (L0 ++ List.replicate k (0 : Int)).length = n + 1 + k := by simp [sL0]
    obtain ⟨g, cp, cur, hv, hg, -, -⟩ := OwnL.form Y.out (by omega)
    rw [sL] at hv
    subst hv
    have zz : w.heap.size + 1 ≤ wr.heap.size := by have := B.out.size; omega
    by_cases hlt : k < padN (n + 1)
    · have e1 : ((((n + 1 + k : Nat) : Int) % 64) != 56) = true := by have := padN_min (n + 1) k hlt; simp; omega
      have e2 : Int.tmod ((n + 1 + k : Nat) : Int) 64 = ((n + 1 + k : Nat) : Int) % 64 := Int.tmod_eq_emod_of_nonneg (by omega)
      obtain ⟨len, hlen⟩ : ∃ l, l = n + 1 + k := ⟨_, rfl⟩
      rw [← hlen] at e1 e2 Y
      rw [← hlen]
      have HLen : Hid (len = n + 1 + k) := hlen
      clear hlen
      go_wp2_with (at_builtin; refine wpl_app _ rfl _ _ rfl (w.heap.size + 1) _ _ rfl (World.ownsRow.alloc Y.out _) ⟨wr.heap.size, 0, none⟩ 1 1 [0] rfl rfl (news_row (Boxed.new wr [.int .u8 0] _)) (by simp; omega) (by simp; omega) ?_)
      intro v3 w3 Y3
      have Y3' : Hid (OwnL 5 w3 (w.heap.size + 1) v3 (L0 ++ List.replicate (k + 1) 0)) := by
        show OwnL _ _ _ _ _
        rw [List.replicate_succ']
        have := Y3.out.own
        simpa only [List.append_assoc] using this
      have B3 : Hid (Below (w.heap.size + 1) W1 w3) := (B.out.alloc zz _).trans Y3.out.below
      have sL3 : (L0 ++ List.replicate (k + 1) (0 : Int)).length = n + 1 + (k + 1) := by simp [sL0]
      obtain ⟨g3, cp3, cur3, hv3, -, -, -⟩ := OwnL.form Y3'.out (by omega)
      rw [sL3] at hv3
      have HV3 : Hid (lenS v3 = n + 1 + (k + 1)) := by rw [hv3]; rfl
      clear Y3 Y B hv3
      go_wp2
      go_roundw
      case rel => exact ⟨k + 1, by omega, Y3', B3⟩
      case measure =>
        rw [HV3.out]
        show _ < padN (n + 1) + n + 1 - len
        have := HLen.out
        omega
    · have ek : k = padN (n + 1) := by omega
      subst ek
      have e1 : ((((n + 1 + padN (n + 1) : Nat) : Int) % 64) != 56) = false := by have := padN_is (n + 1); simp; omega
      have e2 : Int.tmod ((n + 1 + padN (n + 1) : Nat) : Int) 64 = ((n + 1 + padN (n + 1) : Nat) : Int) % 64 := Int.tmod_eq_emod_of_nonneg (by omega)
      obtain ⟨len, hlen⟩ : ∃ l, l = n + 1 + padN (n + 1) := ⟨_, rfl⟩
      rw [← hlen] at e1 e2 Y
      rw [← hlen]
      clear hlt hk
      obtain ⟨L1, hL1⟩ : ∃ L, L = L0 ++ List.replicate (padN (n + 1)) (0 : Int) := ⟨_, rfl⟩
      have HL1 : Hid (L1 = L0 ++ List.replicate (padN (n + 1)) (0 : Int)) := hL1
      have sL1 : L1.length ≤ 65601 := by rw [hL1, sL]; omega
      rw [← hL1] at Y
      clear hL1 sL hlen
      go_wp2
      go_loopw [4, 5] (fun v i wr => ∃ m : Nat, m ≤ 8 ∧ i = .int .i64 (7 - (m : Int)) ∧ Hid (OwnL 5 wr (w.heap.size + 1) v (L1 ++ (List.range m).map (nb (8 * (n : Int)) 8))) ∧ Hid (Below (w.heap.size + 1) W1 wr)) (fun _ i _ => (intOf i + 1).toNat)
      case atStart => exact ⟨0, Nat.zero_le _, rfl, by simpa using Y, B⟩
      case round =>
        clear Y B zz
        obtain ⟨m, hm, rfl, Y, B⟩ := hrel
        have zz : w.heap.size + 1 ≤ wr.heap.size := by have := B.out.size; omega
        by_cases hlt : m < 8
        · obtain ⟨j, hj, hj7⟩ : ∃ j : Nat, m = 7 - j ∧ j ≤ 7 := ⟨7 - m, by omega, by omega⟩
          have ej : (7 - (m : Int)) = (j : Int) := by omega
          have HT : Hid (m + 1 ≤ 8 ∧ ((7 - ((m + 1 : Nat) : Int)) = (j : Int) - 1)) := ⟨by omega, by omega⟩
          have ev : IntKind.u8.wrap (8 * (n : Int) / 2 ^ (8 * j)) = nb (8 * (n : Int)) 8 m := by
            rw [IntKind.wrap_u8]
            unfold nb
            rw [show 8 - 1 - m = j by omega]
          obtain ⟨x, hx⟩ : ∃ x, x = nb (8 * (n : Int)) 8 m := ⟨_, rfl⟩
          have HX : Hid (x = nb (8 * (n : Int)) 8 m) := hx
          rw [← hx] at ev
          rw [ej]
          have sl : Hid ((L1 ++ (List.range m).map (nb (8 * (n : Int)) 8)).length ≤ 65700) := by show _ ≤ _; simp; omega
          clear hj ej hx
          have f1 : IntKind.i64.wrap (8 * (n : Int)) = 8 * (n : Int) := by rw [IntKind.wrap_i64]; omega
          have f2 : IntKind.i64.wrap (8 * (j : Int)) = 8 * (j : Int) := by rw [IntKind.wrap_i64]; omega
          have f3 : IntKind.u64.wrap (8 * (j : Int)) = 8 * (j : Int) := by rw [IntKind.wrap_u64]; omega
          have f4 : (8 * (j : Int)).toNat = 8 * j := by omega
          have f5 : min (8 * j) 64 = 8 * j := by omega
          have f6 : (0 : Int) ≤ 8 * (j : Int) := by omega
          have f7 : 8 * (j : Int) ≤ 64 := by omega
          go_wp2_with (at_builtin; refine wpl_app _ rfl _ _ rfl (w.heap.size + 1) _ _ rfl (World.ownsRow.alloc Y.out _) ⟨wr.heap.size, 0, none⟩ 1 1 [x] rfl rfl (news_row (Boxed.new wr [.int .u8 x] _)) (by have := sl.out; omega) (by simp; omega) ?_)
          intro v3 w3 Y3
          have Y3' : Hid (OwnL 5 w3 (w.heap.size + 1) v3 (L1 ++ (List.range (m + 1)).map (nb (8 * (n : Int)) 8))) := by
            show OwnL _ _ _ _ _
            rw [List.range_succ, List.map_append]
            have := Y3.out.own
            rw [HX.out] at this
            simpa only [List.append_assoc, List.map_cons, List.map_nil] using this
          have B3 : Hid (Below (w.heap.size + 1) W1 w3) := (B.out.alloc zz _).trans Y3.out.below
          clear Y3 Y B
          go_wp2
          go_roundw
          case rel => exact ⟨m + 1, HT.out.1, by rw [HT.out.2], Y3', B3⟩
          case measure => (simp [intOf]; try omega)
        · have em : m = 8 := by omega
          have YA : Hid (OwnL 5 wr (w.heap.size + 1) u4 (allL f n)) := by
            have e := Y.out
            rw [em, HL1.out, bL0.out] at e
            have e8 := nbl8 n hz
            unfold nbl at e8
            rw [e8] at e
            show OwnL _ _ _ _ _
            unfold allL tailL nbl
            simpa only [List.append_assoc] using e
          have e7 : (7 - (m : Int)) = -1 := by omega
          rw [e7]
          obtain ⟨ga, ca, hva, hra⟩ := rowS_of YA.out (allL_bd f n H.out.1) (by rw [allL_len]; omega)
          have hga : w.heap.size + 1 ≤ ga := by
            obtain ⟨g', c', cu', hv', hb', -⟩ := OwnL.form YA.out (by rw [allL_len]; omega)
            rw [hva] at hv'
            cases hv'
            exact hb'
          obtain ⟨nn, hnn⟩ : ∃ q, q = n / 64 + lastN n := ⟨_, rfl⟩
          have hln : (allL f n).length = 64 * nn := by rw [hnn]; exact allL_blocks f n
          rw [hln] at hva hra
          have hnb : nn ≤ 1100 := by have := lastN_le n; omega
          have HNN : Hid (nn = n / 64 + lastN n) := hnn
          have R : Hid (Bytes wr (some ⟨ga, 0, none⟩) (64 * nn) (allF f n)) := hra.1
          have ca1 := hra.2.2.1
          have ca2 := hra.2.2.2
          have lga : ga < wr.heap.size := hra.2.1
          subst hva
          clear YA Y hln hnn hra em e7 hlt hm
          go_wp2_with fail
          refine (l04Consts_any wr).mono ?_
          rintro e w4 ⟨rfl, b4, z4, k4⟩
          have X0 : Hid (HLd w w4 ga wr.heap.size (64 * nn) (allF f n) (stB (allF f n) HB 0)) := by
            refine ⟨B1.out.trans ((B.out.mono (by omega)).trans (b4.mono (by omega))), fun i hi => ?_, R.out.below b4 (fun b' o' _ h2 => by cases h2; exact lga), k4, by omega, by omega⟩
            have b5 : Below (w.heap.size + 1) W1 w4 := B.out.trans (b4.mono zz)
            rw [b5.cell (p := ⟨w.heap.size, i, none⟩) (by show w.heap.size < _; omega), b5.frozen (p := ⟨w.heap.size, i, none⟩) (by show w.heap.size < _; omega)]
            exact HC.out i hi
          clear B1 HC B R b4 k4 z4
          obtain ⟨gk, hgk⟩ : ∃ g, g = wr.heap.size := ⟨_, rfl⟩
          rw [← hgk] at X0
          rw [← hgk]
          clear hgk lga zz
          obtain ⟨len, hlen⟩ : ∃ l, l = 64 * nn := ⟨_, rfl⟩
          rw [← hlen]
          have HLen : Hid (len = 64 * nn) := hlen
          clear hlen
          go_wp2
          go_loopw [7] (fun i wr => ∃ k : Nat, k ≤ nn ∧ i = .int .i64 (64 * (k : Int)) ∧ Hid (HLd w wr ga gk (64 * nn) (allF f n) (stB (allF f n) HB k))) (fun i _ => len - (intOf i).toNat)
          case atStart => exact ⟨0, Nat.zero_le _, rfl, X0⟩
          case round =>
            clear X0
            obtain ⟨k, hk, rfl, X⟩ := hrel
            by_cases hlt : k < nn
            · have l1 : (64 * (k : Int)) < (len : Int) := by have := HLen.out; omega
              have hsl := slice_lh ga len ca k (by have := HLen.out; omega) (by have := HLen.out; omega)
              have wx1 : IntKind.i64.wrap (64 * (k : Int) + 64) = 64 * (k : Int) + 64 := by rw [IntKind.wrap_i64]; omega
              have HK : Hid (Calls Tryd.prog 76 #[.slice (some ⟨w.heap.size, 0, none⟩) 8 8, .slice (some ⟨ga, 64 * k, none⟩) 64 (ca - 64 * k), .slice (some ⟨gk, 0, none⟩) 64 64] wr fun e w' => e = .returned (.tuple #[]) ∧ Hid (HLd w w' ga gk (64 * nn) (allF f n) (stB (allF f n) HB (k + 1)))) := by
                have hby := X.out.row.part (64 * k) 64 (by omega) (some ⟨ga, 64 * k, none⟩) (fun _ => by rw [Nat.zero_add])
                exact (l04Block_any w.heap.size ga (64 * k) (ca - 64 * k) gk (stB (allF f n) HB k) (fun j => allF f n (64 * k + j)) wr X.out.h hby (by omega) X.out.kk X.out.na X.out.nk).mono fun e w' ⟨h1, h2, h3⟩ => ⟨h1, X.out.next h2 h3⟩
              clear X
              go_wp2_with (go_at_call 76; (with_reducible refine HK.out.mono ?_); rintro e w5 ⟨rfl, X5⟩)
              go_roundw
              case rel => exact ⟨k + 1, by omega, by go_num, X5⟩
              case measure => (simp [intOf]; try omega)
            · have ek : k = nn := by omega
              have l2 : ¬ (64 * (k : Int)) < (len : Int) := by have := HLen.out; omega
              have XN : Hid (HLd w wr ga gk (64 * nn) (allF f n) (hst f n)) := by
                have e := X.out
                rw [ek] at e
                unfold hst
                rw [← HNN.out]
                exact e
              obtain ⟨t, ht⟩ : ∃ t, t = hst f n := ⟨_, rfl⟩
              have HTt : Hid (t = hst f n) := ht
              rw [← ht] at XN
              have Tb : Hid (∀ i, 0 ≤ t i ∧ t i ≤ 4294967295) := by rw [ht]; exact hst_bd f n
              have C0 : Hid (∀ i, i < 8 → wr.cell? ⟨w.heap.size, i, none⟩ = some (.int .u32 (t i))) := fun i hi => (XN.out.h i hi).1
              have B0 : Hid (Below w.heap.size w wr) := XN.out.bel
              have lw : w.heap.size < wr.heap.size := World.block_lt_of_cell? wr _ (C0.out 0 (by omega))
              clear X XN ht ek hlt hk
              obtain ⟨wb, hwb⟩ : ∃ x, x = wr := ⟨_, rfl⟩
              rw [← hwb] at C0 B0 lw
              rw [← hwb]
              clear hwb
              obtain ⟨i0, hi, hz0, hz1, hz2⟩ := info_parts Tryd.infoB
              have O0 : Hid (OwnL 5 (wb.alloc (.cells #[] 5)) wb.heap.size (.slice (some ⟨wb.heap.size, 0, none⟩) 0 0) (txt t 0)) := World.ownsRow_made wb #[] 0 (Nat.le_refl _) (Nat.zero_le _) rfl
              have D0 : Hid (Below wb.heap.size wb (wb.alloc (.cells #[] 5))) := (Below.refl _ _).alloc (Nat.le_refl _) _
              go_wp2
              go_loopw [8, 9] (fun v i wq => ∃ k : Nat, k ≤ 8 ∧ i = .int .i64 k ∧ Hid (OwnL 5 wq wb.heap.size v (txt t k)) ∧ Hid (Below wb.heap.size wb wq)) (fun _ i _ => 8 - (intOf i).toNat)
              case atStart => exact ⟨0, Nat.zero_le _, rfl, O0, D0⟩
              case round =>
                clear O0 D0
                obtain ⟨k, hk, rfl, Y, D⟩ := hrel
                have zz := D.out.size
                by_cases hlt : k < 8
                · have cx : wr.cell? ⟨w.heap.size, k, none⟩ = some (.int .u32 (t k)) := by rw [D.out.cell (p := ⟨w.heap.size, k, none⟩) lw]; exact C0.out k hlt
                  have tb := Tb.out k
                  obtain ⟨x, hx⟩ : ∃ x, x = t k := ⟨_, rfl⟩
                  have HX : Hid (txt t (k + 1) = txt t k ++ [nb x 4 0, nb x 4 1, nb x 4 2, nb x 4 3]) := by show _ = _; rw [hx]; rfl
                  rw [← hx] at cx tb
                  have HL : Hid ((txt t k).length = 4 * k) := txt_len t k
                  clear hx
                  have y0 : IntKind.u8.wrap (x / 16777216) = nb x 4 0 := by rw [IntKind.wrap_u8]; rfl
                  have y1 : IntKind.u8.wrap (x / 65536) = nb x 4 1 := by rw [IntKind.wrap_u8]; rfl
                  have y2 : IntKind.u8.wrap (x / 256) = nb x 4 2 := by rw [IntKind.wrap_u8]; rfl
                  have y3 : IntKind.u8.wrap x = nb x 4 3 := by rw [IntKind.wrap_u8]; unfold nb; simp
                  obtain ⟨n0, hn0⟩ : ∃ z, z = nb x 4 0 := ⟨_, rfl⟩
                  obtain ⟨n1, hn1⟩ : ∃ z, z = nb x 4 1 := ⟨_, rfl⟩
                  obtain ⟨n2, hn2⟩ : ∃ z, z = nb x 4 2 := ⟨_, rfl⟩
                  obtain ⟨n3, hn3⟩ : ∃ z, z = nb x 4 3 := ⟨_, rfl⟩
                  rw [← hn0] at y0
                  rw [← hn1] at y1
                  rw [← hn2] at y2
                  rw [← hn3] at y3
                  rw [← hn0, ← hn1, ← hn2, ← hn3] at HX
                  clear hn0 hn1 hn2 hn3
                  have k0 : (0 : Int) ≤ (k : Int) := by omega
                  have k1 : (k : Int) < 8 := by omega
                  have lr : w.heap.size < wr.heap.size := by omega
                  have M : Hid (∀ o, (wr.alloc o).drew.cell? ⟨w.heap.size, k, none⟩ = some (.int .u32 x)) := fun o => (World.cell?_alloc_lt _ _ _ (by exact lr)).trans cx
                  go_wp2
                  go_region_held3 (fun w' => w'.cell? ⟨w.heap.size, k, none⟩ = some (.int .u32 x)) (first | exact cx | exact M.out _ | exact cx2) ((refine step_append_lies _ (by rfl) _ _ _ (by rfl) wb.heap.size 5 i0 _ 1 1 Tryd.underlying97 hi hz0 hz1 hz2 rfl (by omega) u8 (txt t k).length ((txt t k).map (.int .u8)) (by rfl) ((World.ownsRow.alloc Y.out _).drew) ⟨wr.heap.size, 0, none⟩ 4 4 [.int .u8 n0, .int .u8 n1, .int .u8 n2, .int .u8 n3] (by rfl) (by rfl) (World.news_of_block (cs := #[.int .u8 n0, .int .u8 n1, .int .u8 n2, .int .u8 n3]) (t := 5) (fr := (0, 0)) (heap_alloc_new wr _)) (by simp [Value.oneCell']) (by omega) (by rw [HL.out]; unfold maxLen; omega) (by rw [HL.out]; omega) (by simp; omega) (wr.heap.size + 1) (by simp) ?_; intro g1 cap1 w2 hown1 hgrow hat hltt; have D2 : Hid (Below wb.heap.size wb w2) := ((D.out.alloc zz _).drew).grown hgrow (by simp; omega) (fun q hq => (World.ownsRow.lt Y.out q hq).1); have cx2 : w2.cell? ⟨w.heap.size, k, none⟩ = some (.int .u32 x) := by rw [D2.out.cell (p := ⟨w.heap.size, k, none⟩) lw, ← D.out.cell (p := ⟨w.heap.size, k, none⟩) lw]; exact cx))
                  all_goals
                    have HO : Hid (OwnL 5 w2 wb.heap.size (.slice (some ⟨g1, 0, none⟩) ((txt t k).length + 4) cap1) (txt t (k + 1))) := by
                      show OwnL _ _ _ _ _
                      rw [HX.out]
                      unfold OwnL
                      simpa using hown1
                    clear hown1 hgrow hat hltt M cx cx2 Y D
                    go_wp2
                    go_roundw
                    case rel => exact ⟨k + 1, by omega, by go_num, HO, D2⟩
                    case measure => (simp [intOf]; try omega)
                · have ek : k = 8 := by omega
                  subst ek
                  obtain ⟨a, cap, hv, hby, -⟩ := OwnL.slice Y.out (txt_bd t 8)
                  have hc := conv_own (P := Tryd.prog) wr 97 9 5 Tryd.underlying97 Tryd.underlying5 Tryd.underlying9 a cap _ hby
                  subst hv
                  clear hby
                  go_wp2
                  go_ret
                  exact ⟨by unfold hashF; rw [← HTt.out]; rfl, B0.out.trans (D.out.mono (by omega))⟩

end Go.Proofs.YtbeehlhcckndcaaDoor

namespace Go.Proofs.YtbeehlhcckndcaaDoor
open Go.RowKit Go.PlainAid Go.Proofs.YtbeehlhcckndcaaDoor.Pl
set_option linter.unusedVariables false
set_option maxRecDepth 20000

end Go.Proofs.YtbeehlhcckndcaaDoor

namespace Go.Proofs.YtbeehlhcckndcaaDoor
open Go.RowKit Go.PlainAid Go.Proofs.YtbeehlhcckndcaaDoor.Pl
set_option linter.unusedVariables false

theorem Fill.old {w wr : World} {len k : Nat} {f : Nat → Int} (h : Fill w wr len k f) {a : Option Addr} {n : Nat} {g : Nat → Int} (hb : Bytes w a n g) (hlt : ∀ b off, 0 < n → a = some ⟨b, off, none⟩ → b < w.heap.size) : Bytes wr a n g :=
  hb.below h.1 hlt

end Go.Proofs.YtbeehlhcckndcaaDoor

namespace Go.Proofs.YtbeehlhcckndcaaDoor
open Go.RowKit Go.PlainAid
set_option linter.unusedVariables false

end Go.Proofs.YtbeehlhcckndcaaDoor

namespace Go.Proofs.YtbeehlhcckndcaaDoor
open Go.RowKit Go.PlainAid
set_option linter.unusedVariables false
set_option maxRecDepth 20000

/-- A text's hash. -/
def hashS (s : ByteArray) : ByteArray := hashF (bt s) s.size
theorem hashS_size (s : ByteArray) : (hashS s).size = 32 := hashF_size _ _
/-- The hash of a word by a salt, hashed again k times. -/
def passS (salt word : ByteArray) : Nat → ByteArray
  | 0 => hashS (salt ++ ⟨#[0]⟩ ++ word)
  | k + 1 => hashS (salt ++ passS salt word k)
theorem passS_size (salt word : ByteArray) : ∀ k, (passS salt word k).size = 32
  | 0 => hashS_size _
  | k + 1 => hashS_size _
theorem conv_b (w : World) (s : ByteArray) (hs : s.size ≤ 1000000) : ∃ cap w', (convert 9 97 (.string s)).run Tryd.prog w = .ok (.slice (some ⟨w.heap.size, 0, none⟩) s.size cap) w' ∧ Below w.heap.size w w' ∧ w'.heap.size = w.heap.size + 1 ∧ Bytes w' (some ⟨w.heap.size, 0, none⟩) s.size (bt s) ∧ s.size ≤ cap ∧ cap ≤ 9223372036854775807 := by
  have r := Go.Lib.run_convert_string_bytes (P := Tryd.prog) w 9 97 5 s Tryd.underlying9 Tryd.underlying97 Tryd.underlying5
  obtain ⟨cap, w', h1, h2, h3, -, h5⟩ := conv_bytes (P := Tryd.prog) w 9 97 5 s Tryd.underlying9 Tryd.underlying97 Tryd.underlying5
  have e := h1.symm.trans r
  injection e with e1 e2
  injection e1 with _ _ e3
  have g1 := grownCap_ge w s.size 0 5
  have g2 := grownCap_le_maxLen w s.size 0 5 (by unfold maxLen; omega)
  unfold maxLen at g2
  exact ⟨cap, w', h1, h2, h3, ⟨fun k => ⟨bt_nonneg s k, bt_le s k⟩, fun _ => ⟨w.heap.size, 0, rfl, fun i hi => by rw [Nat.zero_add]; exact h5 i hi⟩⟩, by omega, by omega⟩
set_option maxHeartbeats 1000000 in
theorem l04Pass_any (salt word : ByteArray) (n : Nat) (w : World) (hs : salt.size ≤ 40) (hw : word.size ≤ 40) (hn : n ≤ 20) :
    Calls Tryd.prog 54 #[.string salt, .string word, .int .i64 n] w fun e w' => e = .returned (.string (passS salt word n)) ∧ Below w.heap.size w w' := by
  have HC : Hid (∀ (s : ByteArray) (cap b : Nat) (wx : World), s.size ≤ 200 → Bytes wx (some ⟨b, 0, none⟩) s.size (bt s) → b < wx.heap.size → s.size ≤ cap → cap ≤ 9223372036854775807 → Below w.heap.size w wx → Calls Tryd.prog 67 #[.slice (some ⟨b, 0, none⟩) s.size cap] wx fun e w' => e = .returned (.string (hashS s)) ∧ Below wx.heap.size wx w') := fun s cap b wx h1 h2 h3 h4 h5 h6 => l04Hash_any (some ⟨b, 0, none⟩) s.size cap (bt s) wx h2 (by omega) (fun h => by cases h) (fun b' o' _ hy => by cases hy; exact h3)
  obtain ⟨U, hU⟩ : ∃ U, U = salt ++ ⟨#[0]⟩ ++ word := ⟨_, rfl⟩
  have su : U.size ≤ 81 := by rw [hU, ByteArray.size_append, ByteArray.size_append]; show salt.size + 1 + word.size ≤ 81; omega
  obtain ⟨cap0, w0, hc0, b0, z0, y0, p0, q0⟩ := conv_b w U (by omega)
  have B0 : Hid (Below w.heap.size w w0) := b0
  have Y0 : Hid (Bytes w0 (some ⟨w.heap.size, 0, none⟩) U.size (bt U)) := y0
  have HU : Hid (hashS U = passS salt word 0) := by show _ = _; rw [hU]; rfl
  clear b0 y0
  have lz : w.heap.size < w0.heap.size := by omega
  have HX : Hid (Calls Tryd.prog 67 #[.slice (some ⟨w.heap.size, 0, none⟩) U.size cap0] w0 fun e w' => e = .returned (.string (passS salt word 0)) ∧ Below w0.heap.size w0 w') := by rw [← HU.out]; exact HC.out U cap0 w.heap.size w0 (by omega) Y0.out lz p0 q0 B0.out
  obtain ⟨m0, hm0⟩ : ∃ m, m = U.size := ⟨_, rfl⟩
  rw [← hm0] at hc0 HX
  rw [hU] at hc0
  clear hm0 p0
  clear hU Y0
  go_enter Tryd.func54, Tryd.ntmps54
  go_wp2_with (go_at_call 67; (refine HX.out.mono ?_); rintro e w1 ⟨rfl, b1⟩; have B1 : Hid (Below w.heap.size w w1) := B0.out.trans (b1.mono B0.out.size); clear b1 B0 HX hc0)
  obtain ⟨S1, hS1⟩ : ∃ S, S = salt ++ ⟨#[0]⟩ := ⟨_, rfl⟩
  rw [← hS1]
  obtain ⟨S2, hS2⟩ : ∃ S, S = S1 ++ word := ⟨_, rfl⟩
  rw [← hS2]
  clear hS1 hS2
  go_loopw [7, 8] (fun h i wr => ∃ k : Nat, k ≤ n ∧ i = .int .i64 k ∧ h = .string (passS salt word k) ∧ Hid (Below w.heap.size w wr)) (fun _ i _ => n - (intOf i).toNat)
  case atStart => exact ⟨0, Nat.zero_le _, rfl, rfl, B1⟩
  case round =>
    clear B1
    obtain ⟨k, hk, rfl, rfl, B⟩ := hrel
    by_cases hlt : k < n
    · obtain ⟨P, hP⟩ : ∃ P, P = passS salt word k := ⟨_, rfl⟩
      have sp : P.size ≤ 32 := by rw [hP]; exact Nat.le_of_eq (passS_size _ _ _)
      have HQ : Hid (hashS (salt ++ P) = passS salt word (k + 1)) := by show _ = _; rw [hP]; rfl
      rw [← hP]
      obtain ⟨U, hU⟩ : ∃ U, U = salt ++ P := ⟨_, rfl⟩
      have su : U.size ≤ 81 := by rw [hU, ByteArray.size_append]; omega
      obtain ⟨cap2, w2, hc2, b2, z2, y2, p2, q2⟩ := conv_b wr U (by omega)
      have B2 : Hid (Below w.heap.size w w2) := B.out.trans (b2.mono B.out.size)
      have HX : Hid (Calls Tryd.prog 67 #[.slice (some ⟨wr.heap.size, 0, none⟩) U.size cap2] w2 fun e w' => e = .returned (.string (passS salt word (k + 1))) ∧ Below w2.heap.size w2 w') := by rw [← HQ.out, ← hU]; exact HC.out U cap2 wr.heap.size w2 (by omega) y2 (by omega) p2 q2 B2.out
      obtain ⟨m2, hm2⟩ : ∃ m, m = U.size := ⟨_, rfl⟩
      rw [← hm2] at hc2 HX
      rw [hU] at hc2
      clear hm2 p2
      clear hU b2 y2 B su hP HQ
      go_wp2_with (go_at_call 67; (refine HX.out.mono ?_); rintro e w3 ⟨rfl, b3⟩; have B3 : Hid (Below w.heap.size w w3) := B2.out.trans (b3.mono B2.out.size); clear b3 B2 HX hc2)
      go_roundw
      case rel => exact ⟨k + 1, by omega, by go_num, rfl, B3⟩
      case measure => (simp [intOf]; try omega)
    · have ek : k = n := by omega
      subst ek
      go_wp2
      go_ret
      exact ⟨rfl, B.out⟩

set_option maxHeartbeats 1000000 in
theorem passHash_yes (salt word : ByteArray) (n : Nat) (w : World) (hK : KTab w) (hH : HTab w) (hs : salt.size ≤ 40) (hw : word.size ≤ 40) (hn : n ≤ 20) :
    Calls Tryd.prog 31 #[.string salt, .string word, .int .i64 n] w fun e w' => e = .returned (.tuple #[.string (passS salt word n), .int .i64 0]) ∧ Below w.heap.size w w' := by
  have HT : Hid (KTab w ∧ HTab w) := ⟨hK, hH⟩
  clear hK hH
  have HC : Hid (∀ (s : ByteArray) (cap b : Nat) (wx : World), s.size ≤ 200 → Bytes wx (some ⟨b, 0, none⟩) s.size (bt s) → b < wx.heap.size → s.size ≤ cap → cap ≤ 9223372036854775807 → Below w.heap.size w wx → Calls Tryd.prog 58 #[.slice (some ⟨b, 0, none⟩) s.size cap] wx fun e w' => e = .returned (.string (hashS s)) ∧ Below wx.heap.size wx w') := fun s cap b wx h1 h2 h3 h4 h5 h6 => hash_some b 0 s.size cap (bt s) wx (HT.out.1.below h6) (HT.out.2.below h6) h2 h3 (by omega) h4 h5
  obtain ⟨U, hU⟩ : ∃ U, U = salt ++ ⟨#[0]⟩ ++ word := ⟨_, rfl⟩
  have su : U.size ≤ 81 := by rw [hU, ByteArray.size_append, ByteArray.size_append]; show salt.size + 1 + word.size ≤ 81; omega
  obtain ⟨cap0, w0, hc0, b0, z0, y0, p0, q0⟩ := conv_b w U (by omega)
  have B0 : Hid (Below w.heap.size w w0) := b0
  have Y0 : Hid (Bytes w0 (some ⟨w.heap.size, 0, none⟩) U.size (bt U)) := y0
  have HU : Hid (hashS U = passS salt word 0) := by show _ = _; rw [hU]; rfl
  clear b0 y0
  have lz : w.heap.size < w0.heap.size := by omega
  have HX : Hid (Calls Tryd.prog 58 #[.slice (some ⟨w.heap.size, 0, none⟩) U.size cap0] w0 fun e w' => e = .returned (.string (passS salt word 0)) ∧ Below w0.heap.size w0 w') := by rw [← HU.out]; exact HC.out U cap0 w.heap.size w0 (by omega) Y0.out lz p0 q0 B0.out
  obtain ⟨m0, hm0⟩ : ∃ m, m = U.size := ⟨_, rfl⟩
  rw [← hm0] at hc0 HX
  rw [hU] at hc0
  clear hm0 p0
  clear hU Y0
  go_enter Tryd.func31, Tryd.ntmps31
  go_wp2_with (go_at_call 58; (refine HX.out.mono ?_); rintro e w1 ⟨rfl, b1⟩; have B1 : Hid (Below w.heap.size w w1) := B0.out.trans (b1.mono B0.out.size); clear b1 B0 HX hc0)
  obtain ⟨S1, hS1⟩ : ∃ S, S = salt ++ ⟨#[0]⟩ := ⟨_, rfl⟩
  rw [← hS1]
  obtain ⟨S2, hS2⟩ : ∃ S, S = S1 ++ word := ⟨_, rfl⟩
  rw [← hS2]
  clear hS1 hS2
  go_loopw [8, 40] (fun h i wr => ∃ k : Nat, k ≤ n ∧ i = .int .i64 k ∧ h = .string (passS salt word k) ∧ Hid (Below w.heap.size w wr)) (fun _ i _ => n - (intOf i).toNat)
  case atStart => exact ⟨0, Nat.zero_le _, rfl, rfl, B1⟩
  case round =>
    clear B1
    obtain ⟨k, hk, rfl, rfl, B⟩ := hrel
    by_cases hlt : k < n
    · obtain ⟨P, hP⟩ : ∃ P, P = passS salt word k := ⟨_, rfl⟩
      have sp : P.size ≤ 32 := by rw [hP]; exact Nat.le_of_eq (passS_size _ _ _)
      have HQ : Hid (hashS (salt ++ P) = passS salt word (k + 1)) := by show _ = _; rw [hP]; rfl
      rw [← hP]
      obtain ⟨U, hU⟩ : ∃ U, U = salt ++ P := ⟨_, rfl⟩
      have su : U.size ≤ 81 := by rw [hU, ByteArray.size_append]; omega
      obtain ⟨cap2, w2, hc2, b2, z2, y2, p2, q2⟩ := conv_b wr U (by omega)
      have B2 : Hid (Below w.heap.size w w2) := B.out.trans (b2.mono B.out.size)
      have HX : Hid (Calls Tryd.prog 58 #[.slice (some ⟨wr.heap.size, 0, none⟩) U.size cap2] w2 fun e w' => e = .returned (.string (passS salt word (k + 1))) ∧ Below w2.heap.size w2 w') := by rw [← HQ.out, ← hU]; exact HC.out U cap2 wr.heap.size w2 (by omega) y2 (by omega) p2 q2 B2.out
      obtain ⟨m2, hm2⟩ : ∃ m, m = U.size := ⟨_, rfl⟩
      rw [← hm2] at hc2 HX
      rw [hU] at hc2
      clear hm2 p2
      clear hU b2 y2 B su hP HQ
      go_wp2_with (go_at_call 58; (refine HX.out.mono ?_); rintro e w3 ⟨rfl, b3⟩; have B3 : Hid (Below w.heap.size w w3) := B2.out.trans (b3.mono B2.out.size); clear b3 B2 HX hc2)
      go_roundw
      case rel => exact ⟨k + 1, by omega, by go_num, rfl, B3⟩
      case measure => (simp [intOf]; try omega)
    · have ek : k = n := by omega
      subst ek
      go_wp2
      go_ret2
      exact ⟨rfl, B.out⟩

end Go.Proofs.YtbeehlhcckndcaaDoor

namespace Go.Proofs.YtbeehlhcckndcaaDoor.Bt
open Go.RowKit
set_option linter.unusedVariables false

theorem behind_nat : ∀ b, b < 33 → 4294967295 / 2 ^ b = 2 ^ (32 - b) - 1 := by decide
theorem behind (b : Nat) (h : b ≤ 32) : (4294967295 : Int) / 2 ^ b = ((2 ^ (32 - b) - 1 : Nat) : Int) := by
  rw [← behind_nat b (by omega)]
  simp
/-- The size of a net of b bits. -/
def netM (b : Int) : Int := 2 ^ (32 - b.toNat)
/-- 'ip & (1<<(32-bits) - 1)'. -/
theorem within (ip : Int) (b : Nat) (h0 : 0 ≤ ip) (h1 : ip ≤ 4294967295) (hb : b ≤ 32) : bits .and .i64 ip (2 ^ (32 - b) - 1) = ip % netM b := by
  have e : ((2 : Int) ^ (32 - b) - 1) = ((2 ^ (32 - b) - 1 : Nat) : Int) := by
    have := Nat.two_pow_pos (32 - b)
    have e : ((2 ^ (32 - b) : Nat) : Int) = (2 : Int) ^ (32 - b) := by simp
    omega
  rw [e, mask (32 - b) (by omega) ip h0 (by omega)]
  unfold netM
  simp
end Go.Proofs.YtbeehlhcckndcaaDoor.Bt

namespace Go.Proofs.YtbeehlhcckndcaaDoor
open Go.RowKit Go.PlainAid
set_option linter.unusedVariables false
set_option maxRecDepth 20000

/-- Whether it holds: a name that no rule looks into. -/
def dec (p : Prop) [Decidable p] : Bool := decide p
theorem dec_y {p : Prop} [Decidable p] (h : p) : dec p = true := decide_eq_true h
theorem dec_n {p : Prop} [Decidable p] (h : ¬ p) : dec p = false := decide_eq_false h

end Go.Proofs.YtbeehlhcckndcaaDoor

namespace Go.Proofs.YtbeehlhcckndcaaDoor
open Go.RowKit Go.PlainAid Go.Sort
set_option linter.unusedVariables false

/-- Draws, and new blocks alone. -/
def Grw (w w' : World) : Prop := ∃ q os, w' = grow (w.drewN q) os
theorem Grw.refl (w : World) : Grw w w := ⟨0, #[], by rw [grow_empty]; rfl⟩
theorem Grw.drew {w w' : World} (h : Grw w w') : Grw w w'.drew := by
  obtain ⟨q, os, rfl⟩ := h
  exact ⟨q + 1, os, by rw [drew_grow]; congr 1⟩
theorem Grw.alloc {w w' : World} (h : Grw w w') (o : Obj) : Grw w (w'.alloc o) := by
  obtain ⟨q, os, rfl⟩ := h
  exact ⟨q, os ++ #[o], by rw [alloc_eq_grow, grow_grow]⟩
theorem Grw.trans {w w1 w2 : World} (h : Grw w w1) (h2 : Grw w1 w2) : Grw w w2 := by
  obtain ⟨q, os, rfl⟩ := h
  obtain ⟨r, os2, rfl⟩ := h2
  refine ⟨q + r, os ++ os2, ?_⟩
  show grow (grow ((w.drewN q).drewN r) os) os2 = _
  rw [grow_grow, World.drewN_drewN]
theorem below_grow (w : World) (q : Nat) (os : Array Obj) : Below w.heap.size w (grow (w.drewN q) os) := by
  refine ⟨rfl, rfl, rfl, ?_, fun k hk => ?_⟩
  · show w.heap.size ≤ (w.heap ++ os).size
    rw [Array.size_append]; omega
  · exact heap_grow_old (w.drewN q) os hk
theorem Grw.below {w w' : World} (h : Grw w w') : Below w.heap.size w w' := by
  obtain ⟨q, os, rfl⟩ := h
  exact below_grow w q os

theorem grown_cell {w wr : World} {b off : Nat} {v : Value} (hb : b < w.heap.size) (hG : Grw w wr) (h : wr.cell? ⟨b, off, none⟩ = some v) (n : Nat) (os : Array Obj) : (grow (wr.drewN n) os).cell? ⟨b, off, none⟩ = some v :=
  cell_grown (Nat.lt_of_lt_of_le hb hG.below.size) h n os

end Go.Proofs.YtbeehlhcckndcaaDoor

namespace Go.Proofs.YtbeehlhcckndcaaDoor
open Go.RowKit Go.PlainAid Go.Proofs.YtbeehlhcckndcaaDoor.Bt Go.Sort
set_option linter.unusedVariables false
set_option maxRecDepth 20000

/-- Whether a net has an address. -/
def hB (ip b x : Int) : Bool := dec (ip / netM b = x / netM b)

end Go.Proofs.YtbeehlhcckndcaaDoor

namespace Go.Proofs.YtbeehlhcckndcaaDoor
open Go.RowKit Go.PlainAid
set_option linter.unusedVariables false

/-- The xs lie at a, K cells an element, each by R. -/
def Rw {α : Type} (R : World → α → List Value → Prop) (K : Nat) (w : World) (a : Option Addr) (xs : List α) : Prop :=
  0 < xs.length → ∃ b off, a = some ⟨b, off, none⟩ ∧ b < w.heap.size ∧ ∀ i x, xs[i]? = some x → ∃ vs, vs.length = K ∧ R w x vs ∧ ∀ j v, vs[j]? = some v → w.cell? ⟨b, off + i * K + j, none⟩ = some v
/-- What R says is kept by all that leaves old blocks as they were. -/
def Kp {α : Type} (R : World → α → List Value → Prop) : Prop := ∀ w w' x vs, R w x vs → Below w.heap.size w w' → R w' x vs

theorem Rw.keep {α : Type} {R : World → α → List Value → Prop} {K : Nat} {w w' : World} {a : Option Addr} {xs : List α} (h : Rw R K w a xs) (hk : Kp R) (hb : Below w.heap.size w w') : Rw R K w' a xs := by
  intro h0
  obtain ⟨b, off, rfl, hlt, hc⟩ := h h0
  refine ⟨b, off, rfl, Nat.lt_of_lt_of_le hlt hb.size, fun i x hx => ?_⟩
  obtain ⟨vs, h1, h2, h3⟩ := hc i x hx
  refine ⟨vs, h1, hk _ _ _ _ h2 hb, fun j v hv => ?_⟩
  rw [hb.cell (p := ⟨b, off + i * K + j, none⟩) hlt]
  exact h3 j v hv
/-- The element at k, read later. -/
theorem Rw.at {α : Type} {R : World → α → List Value → Prop} {K : Nat} {w w' : World} {a : Option Addr} {xs : List α} (h : Rw R K w a xs) (hk : Kp R) (hb : Below w.heap.size w w') {k : Nat} {x : α} (hx : xs[k]? = some x) :
    ∃ b off vs, a = some ⟨b, off, none⟩ ∧ b < w.heap.size ∧ vs.length = K ∧ R w' x vs ∧ ∀ j v, vs[j]? = some v → w'.cell? ⟨b, off + k * K + j, none⟩ = some v := by
  have h0 : 0 < xs.length := by
    have := (List.getElem?_eq_some_iff.1 hx).1
    omega
  obtain ⟨b, off, e, hlt, _⟩ := h h0
  obtain ⟨b', off', e', _, hc⟩ := (h.keep hk hb) h0
  rw [e] at e'
  cases e'
  obtain ⟨vs, h1, h2, h3⟩ := hc k x hx
  exact ⟨b, off, vs, e, hlt, h1, h2, h3⟩
theorem Rw.none {α : Type} {R : World → α → List Value → Prop} {K : Nat} {w : World} {a : Option Addr} : Rw R K w a ([] : List α) := fun h => absurd h (by simp)

theorem addn (b off i : Nat) : (⟨b, off, Option.none⟩ : Addr).add i = ⟨b, off + i, Option.none⟩ := by unfold Addr.add; split <;> simp_all
/-- Cells set behind one another. -/
def sets (F : List Value) (i : Nat) : List Value → List Value
  | [] => F
  | v :: vs => sets (F.set i v) (i + 1) vs
def wsets (w : World) (g i : Nat) : List Value → World
  | [] => w
  | v :: vs => wsets (w.setCell ⟨g, i, none⟩ v) g (i + 1) vs
theorem grown_refl (w : World) (r : Option Nat) : w.grownBy w r := ⟨rfl, rfl, rfl, Nat.le_refl _, fun _ _ _ => rfl⟩
theorem grown_tr {w w1 w2 : World} {r : Option Nat} (h : w.grownBy w1 r) (h2 : w1.grownBy w2 r) : w.grownBy w2 r :=
  ⟨h2.os.trans h.os, h2.tape.trans h.tape, h2.output.trans h.output, Nat.le_trans h.size h2.size, fun k hk hr => (h2.block k (Nat.lt_of_lt_of_le hk h.size) hr).trans (h.block k hk hr)⟩
theorem owns_sets {e : TypeId} {B K g n cap : Nat} : ∀ (vs : List Value) (w : World) (F : List Value) (i : Nat), w.ownsRow B e K (.slice (some ⟨g, 0, none⟩) n cap) n F →
    (wsets w g i vs).ownsRow B e K (.slice (some ⟨g, 0, none⟩) n cap) n (sets F i vs) ∧ w.grownBy (wsets w g i vs) (some g)
  | [], w, F, i, h => ⟨h, grown_refl _ _⟩
  | v :: vs, w, F, i, h => by
    have h1 := World.ownsRow.stored h i v
    have h2 := owns_sets vs _ _ (i + 1) h1.1
    exact ⟨h2.1, grown_tr h1.2 h2.2⟩
theorem owns_keep {e : TypeId} {w w' : World} {B K n m : Nat} {v : Value} {F : List Value} (h : w.ownsRow B e K v n F) (hb : Below m w w') (hm : ∀ k, v.ownBlock = some k → k < m) : w'.ownsRow B e K v n F := by
  refine ⟨h.1, ?_⟩
  rcases h.2 with h' | ⟨g, cap, cur, h1, hB, hg, h4⟩
  · exact .inl h'
  · exact .inr ⟨g, cap, cur, h1, hB, by rw [hb.block _ (hm g (by rw [h1]; rfl))]; exact hg, h4⟩
theorem owns_now {e : TypeId} {w w' : World} {B K n : Nat} {v : Value} {F : List Value} (h : w.ownsRow B e K v n F) (hb : Below w.heap.size w w') : w'.ownsRow B e K v n F :=
  owns_keep h hb (fun k hk => (World.ownsRow.lt h k hk).2)
theorem owns_made (w : World) (e : TypeId) (B n K : Nat) (z : Array Value) (hB : B ≤ w.heap.size) (hn : n ≤ maxLen) :
    (w.alloc (.cells (madeCells z (n * K)) e)).ownsRow B e K (.slice (some ⟨w.heap.size, 0, none⟩) n n) n (madeCells z (n * K)).toList :=
  World.ownsRow_lit (base := B) (e := e) (size := K) w (madeCells z (n * K)) n hB hn (by rw [size_madeCells])

/-- The first k of xs are copied into F. -/
def Cop {α : Type} (R : World → α → List Value → Prop) (K : Nat) (w : World) (F : List Value) (xs : List α) (k : Nat) : Prop :=
  ∀ i x, i < k → xs[i]? = some x → ∃ vs, vs.length = K ∧ R w x vs ∧ ∀ j v, vs[j]? = some v → F[i * K + j]? = some v
theorem Cop.zero {α : Type} {R : World → α → List Value → Prop} {K : Nat} {w : World} {F : List Value} {xs : List α} : Cop R K w F xs 0 := fun i x hi => absurd hi (by omega)
theorem Cop.keep {α : Type} {R : World → α → List Value → Prop} {K : Nat} {w w' : World} {F : List Value} {xs : List α} {k : Nat} (h : Cop R K w F xs k) (hk : ∀ x vs, R w x vs → R w' x vs) : Cop R K w' F xs k := by
  intro i x hi hx
  obtain ⟨vs, h1, h2, h3⟩ := h i x hi hx
  exact ⟨vs, h1, hk _ _ h2, h3⟩
theorem Cop.rw {α : Type} {R : World → α → List Value → Prop} {K : Nat} {w : World} {F : List Value} {xs : List α} {e : TypeId} {B g n cap : Nat} (h : Cop R K w F xs n) (ho : w.ownsRow B e K (.slice (some ⟨g, 0, none⟩) n cap) n F) (hn : xs.length = n) :
    Rw R K w (some ⟨g, 0, none⟩) xs := by
  intro h0
  refine ⟨g, 0, rfl, (World.ownsRow.lt ho g rfl).2, fun i x hx => ?_⟩
  have hi := (List.getElem?_eq_some_iff.1 hx).1
  obtain ⟨vs, h1, h2, h3⟩ := h i x (by omega) hx
  refine ⟨vs, h1, h2, fun j v hv => ?_⟩
  have hj := (List.getElem?_eq_some_iff.1 hv).1
  have : (i + 1) * K ≤ n * K := Nat.mul_le_mul_right _ (by omega)
  rw [Nat.add_mul] at this
  rw [Nat.zero_add, World.ownsRow.cellAt ho _ (by omega)]
  exact h3 j v hv
theorem at_of {α : Type} {xs : List α} {k n : Nat} (h : xs.length = n) (hk : k < n) : ∃ x, xs[k]? = some x := ⟨_, List.getElem?_eq_getElem (by omega)⟩
end Go.Proofs.YtbeehlhcckndcaaDoor

namespace Go.Proofs.YtbeehlhcckndcaaDoor
open Go.RowKit Go.PlainAid
set_option linter.unusedVariables false

structure RuleV where
  p : Int
  ip : Int
  b : Int
  lo : Int
  hi : Int
  al : Bool
deriving Inhabited
structure PlaceV where
  ip : Int
  b : Int
  lo : Int
  hi : Int
deriving Inhabited
structure RoleV where
  nm : ByteArray
  rs : List RuleV
  q : Int
  m : Int
  i : Int
instance : Inhabited RoleV := ⟨⟨⟨#[]⟩, [], 0, 0, 0⟩⟩
def rv (r : RuleV) : List Value := [.int .i64 r.p, .int .i64 r.ip, .int .i64 r.b, .int .i64 r.lo, .int .i64 r.hi, .bool r.al]
def pv (r : PlaceV) : List Value := [.int .i64 r.ip, .int .i64 r.b, .int .i64 r.lo, .int .i64 r.hi]
/-- The cells of a rule. -/
def RuR (w : World) (r : RuleV) (vs : List Value) : Prop := vs = rv r ∧ r.lo ≤ 9223372036854775807 ∧ r.hi ≤ 9223372036854775807
def PlR (w : World) (r : PlaceV) (vs : List Value) : Prop := vs = pv r ∧ r.lo ≤ 9223372036854775807 ∧ r.hi ≤ 9223372036854775807
theorem RuR.kp : Kp RuR := fun _ _ _ _ h _ => h
theorem PlR.kp : Kp PlR := fun _ _ _ _ h _ => h
/-- The cells of a role, its rules in a block from g on. -/
def RoR (g : Nat) (w : World) (r : RoleV) (vs : List Value) : Prop := ∃ a cap, vs = [.string r.nm, .slice a r.rs.length cap, .int .i64 r.q, .int .i64 r.m, .int .i64 r.i] ∧ r.nm.size ≤ maxLen ∧ r.rs.length ≤ cap ∧ cap ≤ maxLen ∧ Rw RuR 6 w a r.rs ∧ ∀ b off, a = some ⟨b, off, none⟩ → g ≤ b
theorem RoR.kp (g : Nat) : Kp (RoR g) := fun _ _ _ _ h hb => by
  obtain ⟨a, cap, h1, h2, h3, h4, h5, h6⟩ := h
  exact ⟨a, cap, h1, h2, h3, h4, h5.keep RuR.kp hb, h6⟩
theorem RoR.lower {g g' : Nat} {w : World} {r : RoleV} {vs : List Value} (h : RoR g w r vs) (hg : g' ≤ g) : RoR g' w r vs := by
  obtain ⟨a, cap, h1, h2, h3, h4, h5, h6⟩ := h
  exact ⟨a, cap, h1, h2, h3, h4, h5, fun b off e => Nat.le_trans hg (h6 b off e)⟩
section Opn
variable {H : Type} {enc : TypeId × Value → H} {w : World} {base : Nat} {spare : Nat → Bool} {held : Bool} {fuel : Nat} {cs : List Value} {x : DataW H × List MemPlace}

end Opn
end Go.Proofs.YtbeehlhcckndcaaDoor

namespace Go.Proofs.YtbeehlhcckndcaaDoor
open Go.RowKit Go.PlainAid
set_option linter.unusedVariables false
theorem Grw.keep {w w' : World} (h : Grw w w') {a : Addr} {v : Value} (hc : w.cell? a = some v) : w'.cell? a = some v := by
  rw [h.below.cell (World.block_lt_of_cell? w a hc)]; exact hc
theorem bkeep {w w' : World} (h : Below w.heap.size w w') {a : Addr} {v : Value} (hc : w.cell? a = some v) : w'.cell? a = some v := by
  rw [h.cell (World.block_lt_of_cell? w a hc)]; exact hc
theorem acell {w : World} {a : Addr} {v : Value} (h : w.cell? a = some v) (o : Obj) : (w.alloc o).cell? a = some v := bkeep ((Below.refl _ _).alloc (Nat.le_refl _) o) h
theorem bthaw {w w' : World} (h : Below w.heap.size w w') {a : Addr} {v : Value} (hc : w.cell? a = some v) (hf : w.frozen? a = false) : w'.frozen? a = false := by
  rw [h.frozen (World.block_lt_of_cell? w a hc)]; exact hf
end Go.Proofs.YtbeehlhcckndcaaDoor

namespace Go.Proofs.YtbeehlhcckndcaaDoor
open Go.RowKit Go.PlainAid Go.Proofs.YtbeehlhcckndcaaDoor.Bt Go.Sort
set_option linter.unusedVariables false
set_option maxRecDepth 20000

end Go.Proofs.YtbeehlhcckndcaaDoor

namespace Go.Proofs.YtbeehlhcckndcaaDoor
open Go.RowKit Go.PlainAid
set_option linter.unusedVariables false

def letB (c : Int) : Bool := decide ((97 ≤ c ∧ c ≤ 122) ∨ (65 ≤ c ∧ c ≤ 90) ∨ c = 95)
def digB (c : Int) : Bool := decide (48 ≤ c ∧ c ≤ 57)

theorem ret_bool {a b : Bool} (h : a = b) : Ending.returned (.bool a) = .returned (.bool b) := by rw [h]

theorem let_cases (c : Int) : (c < 65 ∧ letB c = false) ∨ (65 ≤ c ∧ c ≤ 90 ∧ letB c = true) ∨ (90 < c ∧ c < 95 ∧ letB c = false) ∨ (c = 95 ∧ letB c = true) ∨ (95 < c ∧ c < 97 ∧ letB c = false) ∨ (97 ≤ c ∧ c ≤ 122 ∧ letB c = true) ∨ (122 < c ∧ letB c = false) := by
  unfold letB; simp; omega
theorem dig_cases (c : Int) : (c < 48 ∧ digB c = false) ∨ (48 ≤ c ∧ c ≤ 57 ∧ digB c = true) ∨ (57 < c ∧ digB c = false) := by
  unfold digB; simp; omega
theorem dig_not_let (c : Int) (h : digB c = true) : letB c = false := by
  unfold digB at h; unfold letB; simp at h ⊢; omega

theorem isDigit_any (c : Int) (w : World) : Calls Tryd.prog 68 #[.int .u8 c] w fun e w' => e = .returned (.bool (digB c)) ∧ w' = w := by
  rcases dig_cases c with ⟨h1, h2⟩ | ⟨h1, h3, h2⟩ | ⟨h1, h2⟩
  all_goals
    have H : Hid (digB c = _) := h2
    clear h2
    go_enter Tryd.func68, Tryd.ntmps68
    go_wp2
    go_ret
    exact ⟨ret_bool (Eq.trans (by first | rfl | (simp; omega)) H.out.symm), rfl⟩
theorem isLetter_any (c : Int) (w : World) : Calls Tryd.prog 69 #[.int .u8 c] w fun e w' => e = .returned (.bool (letB c)) ∧ w' = w := by
  rcases let_cases c with ⟨h1, h2⟩ | ⟨h1, h3, h2⟩ | ⟨h1, h3, h2⟩ | ⟨rfl, h2⟩ | ⟨h1, h3, h2⟩ | ⟨h1, h3, h2⟩ | ⟨h1, h2⟩
  all_goals
    have H : Hid (letB _ = _) := h2
    clear h2
    go_enter Tryd.func69, Tryd.ntmps69
    go_wp2
    go_ret
    exact ⟨ret_bool (Eq.trans (by first | rfl | (simp; omega)) H.out.symm), rfl⟩
/-- A name: 1 to 40 bytes, a letter, then letters and digits. -/
def nameB (f : Nat → Int) (n : Nat) : Bool := decide (1 ≤ n ∧ n ≤ 40 ∧ letB (f 0) = true ∧ ∀ j, j < n → letB (f j) = true ∨ digB (f j) = true)

theorem name_no_len (f : Nat → Int) (n : Nat) (h : n < 1 ∨ 40 < n) : nameB f n = false := by unfold nameB; rw [decide_eq_false_iff_not]; omega
theorem name_no_let (f : Nat → Int) (n : Nat) (h : letB (f 0) = false) : nameB f n = false := by unfold nameB; rw [decide_eq_false_iff_not]; simp [h]
theorem name_no_at (f : Nat → Int) (n k : Nat) (hk : k < n) (h : letB (f k) = false) (h' : digB (f k) = false) : nameB f n = false := by
  unfold nameB; rw [decide_eq_false_iff_not]; rintro ⟨_, _, _, h4⟩; have := h4 k hk; simp [h, h'] at this
theorem name_yes (f : Nat → Int) (n : Nat) (h0 : 1 ≤ n) (h1 : n ≤ 40) (h2 : letB (f 0) = true) (h : ∀ j, j < n → letB (f j) = true ∨ digB (f j) = true) : nameB f n = true := by
  unfold nameB; rw [decide_eq_true_iff]; exact ⟨h0, h1, h2, h⟩

theorem all_step {f : Nat → Int} {k : Nat} (h : ∀ j, j < k → letB (f j) = true ∨ digB (f j) = true) (hk : letB (f k) = true ∨ digB (f k) = true) : ∀ j, j < k + 1 → letB (f j) = true ∨ digB (f j) = true := by
  intro j hj
  by_cases e : j = k
  · subst e; exact hk
  · exact h j (by omega)

set_option maxHeartbeats 400000 in
theorem nameOK_any (s : ByteArray) (w : World) (hs : s.size ≤ 1048576) :
    Calls Tryd.prog 55 #[.string s] w fun e w' => e = .returned (.bool (nameB (bt s) s.size)) ∧ w' = w := by
  have hb := get_bt s
  by_cases h1 : s.size < 1
  · have hz : s.size = 0 := by omega
    go_enter Tryd.func55, Tryd.ntmps55
    go_wp2
    go_ret
    exact ⟨ret_bool (name_no_len _ _ (by omega)).symm, rfl⟩
  by_cases h40 : 40 < s.size
  · go_enter Tryd.func55, Tryd.ntmps55
    go_wp2
    go_ret
    exact ⟨ret_bool (name_no_len _ _ (by omega)).symm, rfl⟩
  by_cases hd : digB (bt s 0) = true
  · go_enter Tryd.func55, Tryd.ntmps55
    go_wp2_with (go_at_call 68; refine (isDigit_any _ _).mono ?_; rintro e w' ⟨rfl, rfl⟩)
    go_ret
    exact ⟨ret_bool (name_no_let _ _ (dig_not_let _ hd)).symm, rfl⟩
  simp only [Bool.not_eq_true] at hd
  have b1 : decide ((s.size : Int) < 1) = false := by simp; omega
  have b2 : decide (40 < (s.size : Int)) = false := by simp; omega
  go_enter Tryd.func55, Tryd.ntmps55
  go_wp2_with (go_at_call 68; refine (isDigit_any _ _).mono ?_; rintro e w' ⟨rfl, rfl⟩)
  go_loop [19] (fun i => ∃ k : Nat, k ≤ s.size ∧ i = .int .i64 k ∧ ∀ j, j < k → letB (bt s j) = true ∨ digB (bt s j) = true) (fun i => s.size - (intOf i).toNat)
  case atStart => exact ⟨0, Nat.zero_le _, rfl, fun j hj => absurd hj (by omega)⟩
  case round =>
    obtain ⟨k, hk, rfl, hall⟩ := hrel
    have HA : Hid (∀ j, j < k → letB (bt s j) = true ∨ digB (bt s j) = true) := hall
    clear hall
    have HD : Hid (digB (bt s 0) = false) := hd
    clear hd
    by_cases hlt : k < s.size
    · cases hl : letB (bt s k)
      · cases hg : digB (bt s k)
        · go_wp2_with (first | (go_at_call 69; refine (isLetter_any _ _).mono ?_; rintro e w' ⟨rfl, rfl⟩) | (go_at_call 68; refine (isDigit_any _ _).mono ?_; rintro e w' ⟨rfl, rfl⟩))
          go_ret
          exact ⟨ret_bool (name_no_at _ _ k hlt hl hg).symm, rfl⟩
        · go_wp2_with (first | (go_at_call 69; refine (isLetter_any _ _).mono ?_; rintro e w' ⟨rfl, rfl⟩) | (go_at_call 68; refine (isDigit_any _ _).mono ?_; rintro e w' ⟨rfl, rfl⟩))
          go_round
          case rel => exact ⟨k + 1, by omega, by go_num, all_step HA.out (.inr hg)⟩
          case measure => simp [intOf]; omega
      · go_wp2_with (first | (go_at_call 69; refine (isLetter_any _ _).mono ?_; rintro e w' ⟨rfl, rfl⟩) | (go_at_call 68; refine (isDigit_any _ _).mono ?_; rintro e w' ⟨rfl, rfl⟩))
        go_round
        case rel => exact ⟨k + 1, by omega, by go_num, all_step HA.out (.inl hl)⟩
        case measure => simp [intOf]; omega
    · obtain rfl : k = s.size := by omega
      go_wp2
      go_ret
      exact ⟨ret_bool (name_yes _ _ (by omega) (by omega) (by have := HA.out 0 (by omega); have := HD.out; simp_all) HA.out).symm, rfl⟩

end Go.Proofs.YtbeehlhcckndcaaDoor

namespace Go.Proofs.YtbeehlhcckndcaaDoor
open Go.RowKit Go.PlainAid Go.Proofs.YtbeehlhcckndcaaDoor.Bt Go.Sort
set_option linter.unusedVariables false
set_option maxRecDepth 20000

theorem shortNameOK_any (s : ByteArray) (w : World) (hs : s.size ≤ 1048576) : Calls Tryd.prog 29 #[.string s] w fun e w' => e = .returned (.bool (nameB (bt s) s.size && dec (s.size ≤ 8))) ∧ w' = w := by
  obtain ⟨n, hn⟩ : ∃ n, n = nameB (bt s) s.size := ⟨_, rfl⟩
  have HN : Hid (∀ w, Calls Tryd.prog 55 #[.string s] w fun e w' => e = .returned (.bool n) ∧ w' = w) := fun w => hn ▸ nameOK_any s w hs
  rw [← hn]
  clear hn
  by_cases h8 : s.size ≤ 8
  · rw [dec_y h8, Bool.and_true]
    have h8z : (s.size : Int) ≤ 8 := by omega
    go_enter Tryd.func29, Tryd.ntmps29
    go_wp2_with fail
    refine (HN.out _).mono ?_
    rintro e w1 ⟨rfl, rfl⟩
    go_wp2
    go_ret
    exact ⟨rfl, rfl⟩
  · rw [dec_n h8, Bool.and_false]
    have h8z : ¬ (s.size : Int) ≤ 8 := by omega
    go_enter Tryd.func29, Tryd.ntmps29
    go_wp2
    go_ret
    exact ⟨rfl, rfl⟩

end Go.Proofs.YtbeehlhcckndcaaDoor

namespace Go.Proofs.YtbeehlhcckndcaaDoor
open Go.RowKit Go.PlainAid
set_option linter.unusedVariables false
set_option maxRecDepth 20000
theorem between_any (n lo hi : Int) (w : World) : Calls Tryd.prog 57 #[.int .i64 n, .int .i64 lo, .int .i64 hi] w fun e w' => e = .returned (.bool (decide (lo ≤ n ∧ n ≤ hi))) ∧ w' = w := by
  by_cases h1 : lo ≤ n
  · by_cases h2 : n ≤ hi
    · go_enter Tryd.func57, Tryd.ntmps57
      go_wp2
      go_ret
      exact ⟨congrArg (fun b => Ending.returned (.bool b)) (by simp [h1, h2]), rfl⟩
    · go_enter Tryd.func57, Tryd.ntmps57
      go_wp2
      go_ret
      exact ⟨congrArg (fun b => Ending.returned (.bool b)) (by simp [h2]), rfl⟩
  · have h1' : decide (lo ≤ n) = false := by simp; omega
    go_enter Tryd.func57, Tryd.ntmps57
    go_wp2
    go_ret
    exact ⟨congrArg (fun b => Ending.returned (.bool b)) (by simp), rfl⟩
theorem bytesOK_any (n : Int) (w : World) : Calls Tryd.prog 56 #[.int .i64 n] w fun e w' => e = .returned (.bool (dec (0 ≤ n ∧ n ≤ 1000000))) ∧ w' = w := by
  have HB : Hid (∀ w, Calls Tryd.prog 57 #[.int .i64 n, .int .i64 0, .int .i64 1000000] w fun e w' => e = .returned (.bool (dec (0 ≤ n ∧ n ≤ 1000000))) ∧ w' = w) := fun w => between_any n 0 1000000 w
  generalize dec (0 ≤ n ∧ n ≤ 1000000) = z at HB ⊢
  go_enter Tryd.func56, Tryd.ntmps56
  go_wp2_with fail
  refine (HB.out _).mono ?_
  rintro e w1 ⟨rfl, hw⟩
  subst hw
  go_wp2
  go_ret
  exact ⟨rfl, rfl⟩
theorem creditOK_any (b l : Int) (w : World) : Calls Tryd.prog 30 #[.int .i64 b, .int .i64 l] w fun e w' => e = .returned (.bool (dec (0 ≤ b ∧ b ≤ 1000000) && dec (0 ≤ l ∧ l ≤ 1000))) ∧ w' = w := by
  have HA : Hid (∀ w, Calls Tryd.prog 56 #[.int .i64 b] w fun e w' => e = .returned (.bool (dec (0 ≤ b ∧ b ≤ 1000000))) ∧ w' = w) := fun w => bytesOK_any b w
  have HB : Hid (∀ w, Calls Tryd.prog 57 #[.int .i64 l, .int .i64 0, .int .i64 1000] w fun e w' => e = .returned (.bool (dec (0 ≤ l ∧ l ≤ 1000))) ∧ w' = w) := fun w => between_any l 0 1000 w
  generalize dec (0 ≤ b ∧ b ≤ 1000000) = y at HA ⊢
  generalize dec (0 ≤ l ∧ l ≤ 1000) = z at HB ⊢
  cases y with
  | false =>
    go_enter Tryd.func30, Tryd.ntmps30
    go_wp2_with fail
    refine (HA.out _).mono ?_
    rintro e w1 ⟨rfl, hw⟩
    subst hw
    go_wp2
    go_ret
    exact ⟨rfl, rfl⟩
  | true =>
    go_enter Tryd.func30, Tryd.ntmps30
    go_wp2_with fail
    refine (HA.out _).mono ?_
    rintro e w1 ⟨rfl, hw⟩
    subst hw
    go_wp2_with fail
    refine (HB.out _).mono ?_
    rintro e w1 ⟨rfl, hw⟩
    subst hw
    go_wp2
    go_ret
    exact ⟨by simp, rfl⟩
def snB (s : ByteArray) : Bool := nameB (bt s) s.size && dec (s.size ≤ 8)
theorem snB_le {s : ByteArray} (h : snB s = true) : s.size ≤ 8 := by
  unfold snB dec at h
  simp at h
  exact h.2
end Go.Proofs.YtbeehlhcckndcaaDoor

namespace Go.Proofs.YtbeehlhcckndcaaDoor
open Go.RowKit Go.PlainAid
set_option linter.unusedVariables false

structure UserV where
  nm : ByteArray
  sa : ByteArray
  ha : ByteArray
  ro : ByteArray
  bl : Int
  lg : Int

instance : Inhabited UserV := ⟨⟨⟨#[]⟩, ⟨#[]⟩, ⟨#[]⟩, ⟨#[]⟩, 0, 0⟩⟩
def uvG (u : UserV) : List Value := [.string u.nm, .string u.sa, .string u.ha, .string u.ro, .int .i64 u.bl, .int .i64 u.lg]
def UsRok (u : UserV) : Prop := u.nm.size ≤ maxLen ∧ u.sa.size ≤ maxLen ∧ u.ha.size ≤ maxLen ∧ u.ro.size ≤ maxLen ∧ (Lit.int .i64 u.bl).wf = true ∧ (Lit.int .i64 u.lg).wf = true
def UsR (w : World) (u : UserV) (vs : List Value) : Prop := vs = uvG u ∧ UsRok u
theorem UsR.kp : Kp UsR := fun _ _ _ _ h _ => h

structure SessV where
  id : Int
  us : Int
  mc : ByteArray
  ip : Int
  be : Int
  la : Int
  ud : Int
  qu : Int
  un : Int
  il : Int

instance : Inhabited SessV := ⟨⟨0, 0, ⟨#[]⟩, 0, 0, 0, 0, 0, 0, 0⟩⟩
def svG (u : SessV) : List Value := [.int .i64 u.id, .int .i64 u.us, .string u.mc, .int .i64 u.ip, .int .i64 u.be, .int .i64 u.la, .int .i64 u.ud, .int .i64 u.qu, .int .i64 u.un, .int .i64 u.il]
def SeRok (u : SessV) : Prop := (Lit.int .i64 u.id).wf = true ∧ (Lit.int .i64 u.us).wf = true ∧ u.mc.size ≤ maxLen ∧ (Lit.int .i64 u.ip).wf = true ∧ (Lit.int .i64 u.be).wf = true ∧ (Lit.int .i64 u.la).wf = true ∧ (Lit.int .i64 u.ud).wf = true ∧ (Lit.int .i64 u.qu).wf = true ∧ (Lit.int .i64 u.un).wf = true ∧ (Lit.int .i64 u.il).wf = true
def SeR (w : World) (u : SessV) (vs : List Value) : Prop := vs = svG u ∧ SeRok u
theorem SeR.kp : Kp SeR := fun _ _ _ _ h _ => h

structure FailV where
  mc : ByteArray
  ct : Int
  un : Int

instance : Inhabited FailV := ⟨⟨⟨#[]⟩, 0, 0⟩⟩
def fvG (u : FailV) : List Value := [.string u.mc, .int .i64 u.ct, .int .i64 u.un]
def FaRok (u : FailV) : Prop := u.mc.size ≤ maxLen ∧ (Lit.int .i64 u.ct).wf = true ∧ (Lit.int .i64 u.un).wf = true
def FaR (w : World) (u : FailV) (vs : List Value) : Prop := vs = fvG u ∧ FaRok u
theorem FaR.kp : Kp FaR := fun _ _ _ _ h _ => h

structure RecV where
  id : Int
  tm : Int
  ca : Int
  bt : Int
  st : Bool

instance : Inhabited RecV := ⟨⟨0, 0, 0, 0, false⟩⟩
def evG (u : RecV) : List Value := [.int .i64 u.id, .int .i64 u.tm, .int .i64 u.ca, .int .i64 u.bt, .bool u.st]
def ReRok (u : RecV) : Prop := (Lit.int .i64 u.id).wf = true ∧ (Lit.int .i64 u.tm).wf = true ∧ (Lit.int .i64 u.ca).wf = true ∧ (Lit.int .i64 u.bt).wf = true
def ReR (w : World) (u : RecV) (vs : List Value) : Prop := vs = evG u ∧ ReRok u
theorem ReR.kp : Kp ReR := fun _ _ _ _ h _ => h

end Go.Proofs.YtbeehlhcckndcaaDoor

namespace Go.Proofs.YtbeehlhcckndcaaDoor
open Go.RowKit Go.PlainAid
set_option linter.unusedVariables false

section OpnG
variable {H : Type} {enc : TypeId × Value → H} {w : World} {base : Nat} {spare : Nat → Bool} {held : Bool} {fuel : Nat} {cs : List Value} {x : DataW H × List MemPlace}

end OpnG
end Go.Proofs.YtbeehlhcckndcaaDoor
