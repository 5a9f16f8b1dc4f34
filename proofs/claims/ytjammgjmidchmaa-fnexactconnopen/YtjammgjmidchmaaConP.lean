/- Segments that a connection sends: one, and what is out in pieces; both sides. -/
import Derived.Test.YtjammgjmidchmaaConS
import Derived.Test.YtjammgjmidchmaaLawC
import Derived.Test.YtjammgjmidchmaaOwnT
import Derived.Test.YtjammgjmidchmaaGrwSet
import Derived.Test.YtjammgjmidchmaaMarkT
namespace Go.Proofs.Ytjammgjmidchmaa
open Go.RowKit Go.PlainAid Go.Proofs.Ytjammgjmidchmaa.Bt Go.Sort
set_option linter.unusedVariables false
set_option maxRecDepth 20000

set_option maxHeartbeats 1000000 in
theorem segOf_any (mc : ByteArray) (ip po di st un nx wa : Int) (inn out : ByteArray) (fin : Bool) (sq fl : Int) (da : ByteArray) (w : World) :
    Calls Try.prog 81 #[.agg #[.string mc, .int .i64 ip, .int .i64 po, .int .i64 di, .int .i64 st, .int .i64 un, .int .i64 nx, .int .i64 wa, .string inn, .string out, .bool fin], .int .i64 sq, .int .i64 fl, .string da] w fun e w' => e = .returned (.agg #[.int .i64 80, .int .i64 po, .int .i64 sq, .int .i64 wa, .int .i64 fl, .int .i64 1000, .string da]) ∧ Grw w w' := by
  go_enter Try.func81, Try.ntmps81
  go_wp2
  (try simp only [Exit.inBlock, Exit.then])
  first
    | (go_ret; exact ⟨rfl, by first | exact ((Grw.refl _).alloc _).alloc _ | exact (((Grw.refl _).alloc _).alloc _).alloc _⟩)
    | (refine bodyPost_ret (v := .agg #[.int .i64 80, .int .i64 po, .int .i64 sq, .int .i64 wa, .int .i64 fl, .int .i64 1000, .string da]) (by simp [results, Try.results81, go_sem]; try rfl) rfl ?_
       exact ⟨rfl, by first | exact ((Grw.refl _).alloc _).alloc _ | exact (((Grw.refl _).alloc _).alloc _).alloc _⟩)

set_option maxHeartbeats 1000000 in
theorem l10Reply_any (mc : ByteArray) (ip po di st un nx wa : Int) (inn out : ByteArray) (fin : Bool) (sq fl : Int) (da : ByteArray) (w : World) :
    Calls Try.prog 79 #[.agg #[.string mc, .int .i64 ip, .int .i64 po, .int .i64 di, .int .i64 st, .int .i64 un, .int .i64 nx, .int .i64 wa, .string inn, .string out, .bool fin], .int .i64 sq, .int .i64 fl, .string da] w fun e w' => e = .returned (.agg #[.int .i64 80, .int .i64 po, .int .i64 sq, .int .i64 wa, .int .i64 fl, .int .i64 1000, .string da]) ∧ Grw w w' := by
  go_enter Try.func79, Try.ntmps79
  go_wp2
  (try simp only [Exit.inBlock, Exit.then])
  first
    | (go_ret; exact ⟨rfl, by first | exact ((Grw.refl _).alloc _).alloc _ | exact (((Grw.refl _).alloc _).alloc _).alloc _⟩)
    | (refine bodyPost_ret (v := .agg #[.int .i64 80, .int .i64 po, .int .i64 sq, .int .i64 wa, .int .i64 fl, .int .i64 1000, .string da]) (by simp [results, Try.results79, go_sem]; try rfl) rfl ?_
       exact ⟨rfl, by first | exact ((Grw.refl _).alloc _).alloc _ | exact (((Grw.refl _).alloc _).alloc _).alloc _⟩)

set_option maxHeartbeats 1000000 in
theorem greeting_any (mc : ByteArray) (ip po di st un nx wa : Int) (inn out : ByteArray) (fin : Bool) (w : World) :
    Calls Try.prog 44 #[.agg #[.string mc, .int .i64 ip, .int .i64 po, .int .i64 di, .int .i64 st, .int .i64 un, .int .i64 nx, .int .i64 wa, .string inn, .string out, .bool fin]] w fun e w' => e = .returned (.agg #[.int .i64 80, .int .i64 po, .int .i64 un, .int .i64 wa, .int .i64 18, .int .i64 1000, .string ⟨#[]⟩]) ∧ Grw w w' := by
  have T : Hid (∀ w, Calls Try.prog 81 #[.agg #[.string mc, .int .i64 ip, .int .i64 po, .int .i64 di, .int .i64 st, .int .i64 un, .int .i64 nx, .int .i64 wa, .string inn, .string out, .bool fin], .int .i64 un, .int .i64 18, .string ⟨#[]⟩] w fun e w' => e = .returned (.agg #[.int .i64 80, .int .i64 po, .int .i64 un, .int .i64 wa, .int .i64 18, .int .i64 1000, .string ⟨#[]⟩]) ∧ Grw w w') := fun w => segOf_any mc ip po di st un nx wa inn out fin un 18 ⟨#[]⟩ w
  go_enter Try.func44, Try.ntmps44
  go_wp2_with fail
  refine (T.out _).mono ?_
  rintro e w1 ⟨rfl, g1⟩
  have z0 : w1.cell? ⟨w.heap.size + 1, 0, none⟩ = some (.int .i64 0) := g1.keep (by simp [go_sem])
  have f0 : w1.frozen? ⟨w.heap.size + 1, 0, none⟩ = false := bthaw g1.below (a := ⟨w.heap.size + 1, 0, none⟩) (v := .int .i64 0) (by simp [go_sem]) (by simp [go_sem])
  have z1 : w1.cell? ⟨w.heap.size + 1, 1, none⟩ = some (.int .i64 0) := g1.keep (by simp [go_sem])
  have f1 : w1.frozen? ⟨w.heap.size + 1, 1, none⟩ = false := bthaw g1.below (a := ⟨w.heap.size + 1, 1, none⟩) (v := .int .i64 0) (by simp [go_sem]) (by simp [go_sem])
  have z2 : w1.cell? ⟨w.heap.size + 1, 2, none⟩ = some (.int .i64 0) := g1.keep (by simp [go_sem])
  have f2 : w1.frozen? ⟨w.heap.size + 1, 2, none⟩ = false := bthaw g1.below (a := ⟨w.heap.size + 1, 2, none⟩) (v := .int .i64 0) (by simp [go_sem]) (by simp [go_sem])
  have z3 : w1.cell? ⟨w.heap.size + 1, 3, none⟩ = some (.int .i64 0) := g1.keep (by simp [go_sem])
  have f3 : w1.frozen? ⟨w.heap.size + 1, 3, none⟩ = false := bthaw g1.below (a := ⟨w.heap.size + 1, 3, none⟩) (v := .int .i64 0) (by simp [go_sem]) (by simp [go_sem])
  have z4 : w1.cell? ⟨w.heap.size + 1, 4, none⟩ = some (.int .i64 0) := g1.keep (by simp [go_sem])
  have f4 : w1.frozen? ⟨w.heap.size + 1, 4, none⟩ = false := bthaw g1.below (a := ⟨w.heap.size + 1, 4, none⟩) (v := .int .i64 0) (by simp [go_sem]) (by simp [go_sem])
  have z5 : w1.cell? ⟨w.heap.size + 1, 5, none⟩ = some (.int .i64 0) := g1.keep (by simp [go_sem])
  have f5 : w1.frozen? ⟨w.heap.size + 1, 5, none⟩ = false := bthaw g1.below (a := ⟨w.heap.size + 1, 5, none⟩) (v := .int .i64 0) (by simp [go_sem]) (by simp [go_sem])
  have z6 : w1.cell? ⟨w.heap.size + 1, 6, none⟩ = some (.string ⟨#[]⟩) := g1.keep (by simp [go_sem])
  have f6 : w1.frozen? ⟨w.heap.size + 1, 6, none⟩ = false := bthaw g1.below (a := ⟨w.heap.size + 1, 6, none⟩) (v := .string ⟨#[]⟩) (by simp [go_sem]) (by simp [go_sem])
  have G1 : Hid (Grw w w1) := (((Grw.refl _).alloc _).alloc _).trans g1
  have hz : w.heap.size < w1.heap.size := by have := g1.below.size; simp at this; omega
  clear g1 T
  go_wp2
  (try simp only [Exit.inBlock, Exit.then])
  refine bodyPost_ret (v := .agg #[.int .i64 80, .int .i64 po, .int .i64 un, .int .i64 wa, .int .i64 18, .int .i64 1000, .string ⟨#[]⟩]) (by simp [results, Try.results44, go_sem, z0, z1, z2, z3, z4, z5, z6]; try rfl) rfl ?_
  exact ⟨rfl, ((((((G1.out.set _ _ (Nat.le_succ _)).set _ _ (Nat.le_succ _)).set _ _ (Nat.le_succ _)).set _ _ (Nat.le_succ _)).set _ _ (Nat.le_succ _)).set _ _ (Nat.le_succ _)).set _ _ (Nat.le_succ _)⟩

set_option maxHeartbeats 1000000 in
theorem acking_any (mc : ByteArray) (ip po di st un nx wa : Int) (inn out : ByteArray) (fin : Bool) (w : World) :
    Calls Try.prog 89 #[.agg #[.string mc, .int .i64 ip, .int .i64 po, .int .i64 di, .int .i64 st, .int .i64 un, .int .i64 nx, .int .i64 wa, .string inn, .string out, .bool fin]] w fun e w' => e = .returned (.agg #[.int .i64 80, .int .i64 po, .int .i64 nx, .int .i64 wa, .int .i64 16, .int .i64 1000, .string ⟨#[]⟩]) ∧ Grw w w' := by
  have T : Hid (∀ w, Calls Try.prog 81 #[.agg #[.string mc, .int .i64 ip, .int .i64 po, .int .i64 di, .int .i64 st, .int .i64 un, .int .i64 nx, .int .i64 wa, .string inn, .string out, .bool fin], .int .i64 nx, .int .i64 16, .string ⟨#[]⟩] w fun e w' => e = .returned (.agg #[.int .i64 80, .int .i64 po, .int .i64 nx, .int .i64 wa, .int .i64 16, .int .i64 1000, .string ⟨#[]⟩]) ∧ Grw w w') := fun w => segOf_any mc ip po di st un nx wa inn out fin nx 16 ⟨#[]⟩ w
  go_enter Try.func89, Try.ntmps89
  go_wp2_with fail
  refine (T.out _).mono ?_
  rintro e w1 ⟨rfl, g1⟩
  have z0 : w1.cell? ⟨w.heap.size + 1, 0, none⟩ = some (.int .i64 0) := g1.keep (by simp [go_sem])
  have f0 : w1.frozen? ⟨w.heap.size + 1, 0, none⟩ = false := bthaw g1.below (a := ⟨w.heap.size + 1, 0, none⟩) (v := .int .i64 0) (by simp [go_sem]) (by simp [go_sem])
  have z1 : w1.cell? ⟨w.heap.size + 1, 1, none⟩ = some (.int .i64 0) := g1.keep (by simp [go_sem])
  have f1 : w1.frozen? ⟨w.heap.size + 1, 1, none⟩ = false := bthaw g1.below (a := ⟨w.heap.size + 1, 1, none⟩) (v := .int .i64 0) (by simp [go_sem]) (by simp [go_sem])
  have z2 : w1.cell? ⟨w.heap.size + 1, 2, none⟩ = some (.int .i64 0) := g1.keep (by simp [go_sem])
  have f2 : w1.frozen? ⟨w.heap.size + 1, 2, none⟩ = false := bthaw g1.below (a := ⟨w.heap.size + 1, 2, none⟩) (v := .int .i64 0) (by simp [go_sem]) (by simp [go_sem])
  have z3 : w1.cell? ⟨w.heap.size + 1, 3, none⟩ = some (.int .i64 0) := g1.keep (by simp [go_sem])
  have f3 : w1.frozen? ⟨w.heap.size + 1, 3, none⟩ = false := bthaw g1.below (a := ⟨w.heap.size + 1, 3, none⟩) (v := .int .i64 0) (by simp [go_sem]) (by simp [go_sem])
  have z4 : w1.cell? ⟨w.heap.size + 1, 4, none⟩ = some (.int .i64 0) := g1.keep (by simp [go_sem])
  have f4 : w1.frozen? ⟨w.heap.size + 1, 4, none⟩ = false := bthaw g1.below (a := ⟨w.heap.size + 1, 4, none⟩) (v := .int .i64 0) (by simp [go_sem]) (by simp [go_sem])
  have z5 : w1.cell? ⟨w.heap.size + 1, 5, none⟩ = some (.int .i64 0) := g1.keep (by simp [go_sem])
  have f5 : w1.frozen? ⟨w.heap.size + 1, 5, none⟩ = false := bthaw g1.below (a := ⟨w.heap.size + 1, 5, none⟩) (v := .int .i64 0) (by simp [go_sem]) (by simp [go_sem])
  have z6 : w1.cell? ⟨w.heap.size + 1, 6, none⟩ = some (.string ⟨#[]⟩) := g1.keep (by simp [go_sem])
  have f6 : w1.frozen? ⟨w.heap.size + 1, 6, none⟩ = false := bthaw g1.below (a := ⟨w.heap.size + 1, 6, none⟩) (v := .string ⟨#[]⟩) (by simp [go_sem]) (by simp [go_sem])
  have G1 : Hid (Grw w w1) := (((Grw.refl _).alloc _).alloc _).trans g1
  have hz : w.heap.size < w1.heap.size := by have := g1.below.size; simp at this; omega
  clear g1 T
  go_wp2
  (try simp only [Exit.inBlock, Exit.then])
  refine bodyPost_ret (v := .agg #[.int .i64 80, .int .i64 po, .int .i64 nx, .int .i64 wa, .int .i64 16, .int .i64 1000, .string ⟨#[]⟩]) (by simp [results, Try.results89, go_sem, z0, z1, z2, z3, z4, z5, z6]; try rfl) rfl ?_
  exact ⟨rfl, ((((((G1.out.set _ _ (Nat.le_succ _)).set _ _ (Nat.le_succ _)).set _ _ (Nat.le_succ _)).set _ _ (Nat.le_succ _)).set _ _ (Nat.le_succ _)).set _ _ (Nat.le_succ _)).set _ _ (Nat.le_succ _)⟩

/-- The k-th piece; the first k; all of them, and an end. -/
def pcS (po wa sq : Int) (t : ByteArray) (k : Nat) : SegV := ⟨80, po, sqN (sq + 200 * (k : Int)), wa, 24, 1000, t.extract (200 * k) (min (200 * k + 200) t.size)⟩
def pcL (po wa sq : Int) (t : ByteArray) (k : Nat) : List SegV := (List.range k).map (pcS po wa sq t)
def pcN (n : Nat) : Nat := (n + 199) / 200
def puL (po wa sq : Int) (t : ByteArray) (fin : Bool) : List SegV := pcL po wa sq t (pcN t.size) ++ if fin = true then [⟨80, po, sqN (sq + (t.size : Int)), wa, 17, 1000, ⟨#[]⟩⟩] else []
theorem pcL_len (po wa sq : Int) (t : ByteArray) (k : Nat) : (pcL po wa sq t k).length = k := by simp [pcL]
theorem pcL_more (po wa sq : Int) (t : ByteArray) (k : Nat) : pcL po wa sq t (k + 1) = pcL po wa sq t k ++ [pcS po wa sq t k] := by unfold pcL; rw [List.range_succ, List.map_append]; rfl
theorem puL_len (po wa sq : Int) (t : ByteArray) (fin : Bool) (h : t.size ≤ 300) : (puL po wa sq t fin).length ≤ 3 := by
  unfold puL pcN
  rw [List.length_append, pcL_len]
  split <;> simp <;> omega
theorem wf64 {n : Int} (h0 : 0 ≤ n) (h1 : n ≤ 4294967295) : (Lit.int .i64 n).wf = true := int_wf9 h0 (by omega)
theorem sg_ok {po sq wa fl : Int} {da : ByteArray} (hp : 0 ≤ po ∧ po ≤ 65535) (hs : 0 ≤ sq ∧ sq ≤ 4294967295) (hw : 0 ≤ wa ∧ wa ≤ 4294967295) (hf : 0 ≤ fl ∧ fl ≤ 31) (hd : da.size ≤ 300) : SgRok ⟨80, po, sq, wa, fl, 1000, da⟩ := by
  have a0 : (Lit.int .i64 80).wf = true := wf64 (by decide) (by decide)
  have a1 : (Lit.int .i64 po).wf = true := wf64 hp.1 (by omega)
  have a2 : (Lit.int .i64 sq).wf = true := wf64 hs.1 hs.2
  have a3 : (Lit.int .i64 wa).wf = true := wf64 hw.1 hw.2
  have a4 : (Lit.int .i64 fl).wf = true := wf64 hf.1 (by omega)
  have a5 : (Lit.int .i64 1000).wf = true := wf64 (by decide) (by decide)
  have a6 : da.size ≤ maxLen := by unfold maxLen; omega
  exact ⟨a0, a1, a2, a3, a4, a5, a6⟩
theorem puL_ok (po wa sq : Int) (t : ByteArray) (fin : Bool) (h : t.size ≤ 300) (hp : 0 ≤ po ∧ po ≤ 65535) (hw : 0 ≤ wa ∧ wa ≤ 4294967295) : ∀ x, x ∈ puL po wa sq t fin → SgRok x := by
  intro x hx
  unfold puL pcL at hx
  rw [List.mem_append] at hx
  rcases hx with hx | hx
  · obtain ⟨k, _, rfl⟩ := List.mem_map.1 hx
    have := sqN_bd (sq + 200 * (k : Int))
    have hz : (t.extract (200 * k) (min (200 * k + 200) t.size)).size ≤ 300 := by rw [ByteArray.size_extract]; omega
    exact sg_ok hp this hw ⟨by decide, by decide⟩ hz
  · split at hx
    · simp at hx
      subst hx
      have := sqN_bd (sq + (t.size : Int))
      exact sg_ok hp this hw ⟨by decide, by decide⟩ (Nat.zero_le 300)
    · simp at hx
theorem one7 (ys : List SegV) : ∀ u ∈ flatS sgG ys, u.oneCell' = true := by
  intro u hu
  unfold flatS at hu
  rw [List.mem_flatMap] at hu
  obtain ⟨f, _, hf⟩ := hu
  simp [sgG] at hf
  rcases hf with rfl | rfl | rfl | rfl | rfl | rfl | rfl <;> rfl
/-- 'append(row, ys...)'. -/
theorem wpl_segs (w : World) {ops : Array Oper} {rest : List Oper} {o : Oper} {a : Act} {Q : Exit → Act → World → Prop} (hgd : o.guard = none) (s x : Operand)
    (ho : o.op = .call { callee := .builtin .append, args := #[s, x], argTypes := #[29, 29] })
    (B : Nat) (v : Value) (L ys : List SegV) (hs : a.eval s = v) (hown : OwnS sgG 7 27 w B v L)
    (g off m c : Nat) (hm : ys.length = m) (hx : a.eval x = .slice (some ⟨g, off, none⟩) m c) (hc : ∀ j u, (flatS sgG ys)[j]? = some u → w.cell? ⟨g, off + j, none⟩ = some u)
    (hlen : L.length + m ≤ 100000) (hB : B ≤ w.heap.size)
    (h : ∀ v' w', Hid (OwnS sgG 7 27 w' B v' (L ++ ys) ∧ Below B w w') → w.grownBy w' v.ownBlock → wpList Try.prog ops Q rest (a.put o.dst v') w') : wpList Try.prog ops Q (o :: rest) a w := by
  obtain ⟨i0, hi, hz0, hz1, hz2⟩ := info_parts infoSegment
  refine wpList_append_own w hgd s x 29 ho B 27 i0 (.agg #[.int .i64 0, .int .i64 0, .int .i64 0, .int .i64 0, .int .i64 0, .int .i64 0, .string ⟨#[]⟩]) 7 64 Try.underlying29 hi hz0 hz1 hz2 rfl (by decide) v L.length (flatS sgG L) hs hown ⟨g, off, none⟩ m c (flatS sgG ys) hx (by rw [flatS_len sgG_len, hm]) ?_
    (one7 ys) (by unfold maxLen; omega) (by omega) hB ?_
  · intro j u hu
    rw [addn]
    exact hc j u hu
  · intro v' w' h2 h3 _
    subst hm
    exact h v' w' (hown.join hB h2 h3) h3
theorem seg_new {w : World} (sp dp sq ac fl wi : Int) (da : ByteArray) (T : TypeId) : ∀ j u, (flatS sgG [⟨sp, dp, sq, ac, fl, wi, da⟩])[j]? = some u → (w.alloc (.cells #[.int .i64 sp, .int .i64 dp, .int .i64 sq, .int .i64 ac, .int .i64 fl, .int .i64 wi, .string da] T)).cell? ⟨w.heap.size, 0 + j, none⟩ = some u := by
  intro j u hu
  rw [flatS_one] at hu
  rw [Nat.zero_add]
  match j, hu with
  | 0, hu => cases hu; simp
  | 1, hu => cases hu; simp
  | 2, hu => cases hu; simp
  | 3, hu => cases hu; simp
  | 4, hu => cases hu; simp
  | 5, hu => cases hu; simp
  | 6, hu => cases hu; simp
end Go.Proofs.Ytjammgjmidchmaa
