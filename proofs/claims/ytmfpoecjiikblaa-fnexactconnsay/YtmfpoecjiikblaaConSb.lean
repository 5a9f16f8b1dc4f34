/- ConnSay of the model, at every argument. -/
import Derived.Test.YtmfpoecjiikblaaConSa
namespace Go.Proofs.Ytmfpoecjiikblaa
open Go.RowKit Go.PlainAid Go.Proofs.Ytmfpoecjiikblaa.Bt Go.Sort
set_option linter.unusedVariables false
set_option maxRecDepth 20000

def cvA (u : ConnV) : Value := .agg #[.string u.mc, .int .i64 u.ip, .int .i64 u.po, .int .i64 u.di, .int .i64 u.st, .int .i64 u.un, .int .i64 u.nx, .int .i64 u.wa, .string u.inn, .string u.out, .bool u.fin]
def cnZ : ConnV := ⟨⟨#[]⟩, 0, 0, 0, 0, 0, 0, 0, ⟨#[]⟩, ⟨#[]⟩, false⟩
/-- What ConnSay answers. -/
def syC (c : ConnV) (t : ByteArray) : Int := if 65536 < t.size then 2 else if okB c = true then (if c.st = 2 then (if 300 < c.out.size + t.size then 7 else 0) else 12) else 1
def syV (c : ConnV) (t : ByteArray) : ConnV := if syC c t = 0 then ⟨c.mc, c.ip, c.po, c.di, 3, c.un, sqN (c.un + (t.size : Int) + 1), c.wa, c.inn, t, true⟩ else if syC c t = 2 ∨ syC c t = 1 then cnZ else c
def syL (c : ConnV) (t : ByteArray) : List SegV := if syC c t = 0 then puL c.po c.wa c.un t true else []
theorem sy_long {c : ConnV} {t : ByteArray} (h : 65536 < t.size) : syC c t = 2 ∧ syV c t = cnZ ∧ syL c t = [] := by
  have e : syC c t = 2 := by unfold syC; rw [if_pos h]
  exact ⟨e, by unfold syV; rw [e]; rfl, by unfold syL; rw [e]; rfl⟩
theorem sy_bad {c : ConnV} {t : ByteArray} (h : ¬ 65536 < t.size) (hb : okB c = false) : syC c t = 1 ∧ syV c t = cnZ ∧ syL c t = [] := by
  have e : syC c t = 1 := by unfold syC; rw [if_neg h, if_neg (by simp [hb])]
  exact ⟨e, by unfold syV; rw [e]; rfl, by unfold syL; rw [e]; rfl⟩
theorem sy_state {c : ConnV} {t : ByteArray} (h : ¬ 65536 < t.size) (hb : okB c = true) (hs : c.st ≠ 2) : syC c t = 12 ∧ syV c t = c ∧ syL c t = [] := by
  have e : syC c t = 12 := by unfold syC; rw [if_neg h, if_pos hb, if_neg hs]
  exact ⟨e, by unfold syV; rw [e]; rfl, by unfold syL; rw [e]; rfl⟩
theorem sy_full {c : ConnV} {t : ByteArray} (h : ¬ 65536 < t.size) (hb : okB c = true) (hs : c.st = 2) (hf : 300 < c.out.size + t.size) : syC c t = 7 ∧ syV c t = c ∧ syL c t = [] := by
  have e : syC c t = 7 := by unfold syC; rw [if_neg h, if_pos hb, if_pos hs, if_pos hf]
  exact ⟨e, by unfold syV; rw [e]; rfl, by unfold syL; rw [e]; rfl⟩
theorem sy_ok {c : ConnV} {t : ByteArray} (h : ¬ 65536 < t.size) (hb : okB c = true) (hs : c.st = 2) (hf : ¬ 300 < c.out.size + t.size) : syC c t = 0 ∧ syV c t = ⟨c.mc, c.ip, c.po, c.di, 3, c.un, sqN (c.un + (t.size : Int) + 1), c.wa, c.inn, t, true⟩ ∧ syL c t = puL c.po c.wa c.un t true := by
  have e : syC c t = 0 := by unfold syC; rw [if_neg h, if_pos hb, if_pos hs, if_neg hf]
  exact ⟨e, by unfold syV; rw [e]; rfl, by unfold syL; rw [e]; rfl⟩
/-- An open connection: all was acknowledged. -/
theorem open_says {c : ConnV} (hb : okB c = true) (hs : c.st = 2) : c.nx = c.un ∧ c.out = ⟨#[]⟩ ∧ c.fin = false := by
  have hx := txB_bd (okB_says hb).2
  have hn := nuB_bd (okB_says hb).1
  have hf : c.fin = false := by
    cases h : c.fin with
    | false => rfl
    | true => have := hx.2.2.2.2.1.1 h; omega
  have ho := hx.2.2.2.2.2 hf
  have h3 : sqN (c.nx - c.un) = sentN c := by
    unfold okB at hb
    simp only [Bool.and_eq_true, beq_iff_eq] at hb
    exact hb.2
  have hz : sentN c = 0 := by
    unfold sentN
    rw [ho, hf, hs]
    decide
  refine ⟨?_, ?_, hf⟩
  · rw [hz] at h3
    unfold sqN at h3
    omega
  · apply ByteArray.ext
    exact Array.eq_empty_of_size_eq_zero ho
theorem size_set (w : World) (a : Addr) (u : Value) : (w.setCell a u).heap.size = w.heap.size := by simp [World.setCell]
theorem lit_at {w : World} {B g : Nat} (hB : B ≤ g) (hg : g = w.heap.size) : OwnS sgG 7 27 (w.alloc (.cells #[] 27)) B (.slice (some ⟨g, 0, none⟩) 0 0) [] := by
  subst hg
  exact OwnS.lit w B hB

set_option maxHeartbeats 4000000 in
theorem specSy_long (mc : ByteArray) (ip po di st un nx wa : Int) (inn out : ByteArray) (fin : Bool) (t : ByteArray) (w : World) (h : 65536 < t.size) :
    Calls Try.prog 35 #[.agg #[.string mc, .int .i64 ip, .int .i64 po, .int .i64 di, .int .i64 st, .int .i64 un, .int .i64 nx, .int .i64 wa, .string inn, .string out, .bool fin], .string t] w fun e w' => ∃ v, e = .returned (.tuple #[cvA cnZ, v, .int .i64 2]) ∧ OwnS sgG 7 27 w' w.heap.size v [] ∧ Below w.heap.size w w' := by
  have t1 : decide ((65536 : Int) < (t.size : Int)) = true := decide_eq_true (by omega)
  clear h
  go_enter Try.func35, Try.ntmps35
  go_wp2
  (try simp only [Exit.inBlock, Exit.then])
  refine bodyPost_ret (v := .tuple #[cvA cnZ, .slice (some ⟨w.heap.size + 1 + 1, 0, none⟩) 0 0, .int .i64 2]) (by simp [results, Try.results35, go_sem, cvA, cnZ]; try rfl) rfl ?_
  exact ⟨_, rfl, lit_at (by omega) (by simp), ((((Below.refl _ _).alloc (Nat.le_refl _) _).alloc (by simp) _).alloc (by simp; omega) _)⟩
set_option maxHeartbeats 4000000 in
theorem specSy_few (mc : ByteArray) (ip po di st un nx wa : Int) (inn out : ByteArray) (fin : Bool) (t : ByteArray) (w : World) (hl : ¬ 65536 < t.size) (hmc : mc.size ≤ 1048576) (hi : inn.size ≤ 1048576) (ho : out.size ≤ 1048576) :
    Calls Try.prog 35 #[.agg #[.string mc, .int .i64 ip, .int .i64 po, .int .i64 di, .int .i64 st, .int .i64 un, .int .i64 nx, .int .i64 wa, .string inn, .string out, .bool fin], .string t] w fun e w' => ∃ v, e = .returned (.tuple #[cvA (syV ⟨mc, ip, po, di, st, un, nx, wa, inn, out, fin⟩ t), v, .int .i64 (syC ⟨mc, ip, po, di, st, un, nx, wa, inn, out, fin⟩ t)]) ∧ OwnS sgG 7 27 w' w.heap.size v (syL ⟨mc, ip, po, di, st, un, nx, wa, inn, out, fin⟩ t) ∧ Below w.heap.size w w' := by
  have TK : Hid (∀ w, Calls Try.prog 41 #[.agg #[.string mc, .int .i64 ip, .int .i64 po, .int .i64 di, .int .i64 st, .int .i64 un, .int .i64 nx, .int .i64 wa, .string inn, .string out, .bool fin]] w fun e w' => e = .returned (.bool (okB ⟨mc, ip, po, di, st, un, nx, wa, inn, out, fin⟩)) ∧ Grw w w') := fun w => specConOK_any mc ip po di st un nx wa inn out fin w hmc hi ho
  have t1 : decide ((65536 : Int) < (t.size : Int)) = false := decide_eq_false (by omega)
  have BW : Hid (Below w.heap.size w ((w.alloc (.cells #[.string mc, .int .i64 ip, .int .i64 po, .int .i64 di, .int .i64 st, .int .i64 un, .int .i64 nx, .int .i64 wa, .string inn, .string out, .bool fin] 24)).alloc (.cells #[.string ⟨#[]⟩, .int .i64 0, .int .i64 0, .int .i64 0, .int .i64 0, .int .i64 0, .int .i64 0, .int .i64 0, .string ⟨#[]⟩, .string ⟨#[]⟩, .bool false] 24))) := (((Below.refl _ _).alloc (Nat.le_refl _) _).alloc (by simp) _)
  cases hok : okB ⟨mc, ip, po, di, st, un, nx, wa, inn, out, fin⟩ with
  | false =>
    obtain ⟨e1, e2, e3⟩ := sy_bad hl hok
    rw [e1, e2, e3]
    rw [hok] at TK
    clear e1 e2 e3 hok hl
    go_enter Try.func35, Try.ntmps35
    go_wp2_with fail
    refine (TK.out _).mono ?_
    rintro e w1 ⟨rfl, g1⟩
    have b1 := g1.below
    have q0 : w1.cell? ⟨w.heap.size, 0, none⟩ = some (.string mc) := bkeep b1 (by simp [go_sem])
    have p0 : w1.frozen? ⟨w.heap.size, 0, none⟩ = false := bthaw b1 (a := ⟨w.heap.size, 0, none⟩) (v := .string mc) (by simp [go_sem]) (by simp [go_sem])
    have q1 : w1.cell? ⟨w.heap.size, 1, none⟩ = some (.int .i64 ip) := bkeep b1 (by simp [go_sem])
    have p1 : w1.frozen? ⟨w.heap.size, 1, none⟩ = false := bthaw b1 (a := ⟨w.heap.size, 1, none⟩) (v := .int .i64 ip) (by simp [go_sem]) (by simp [go_sem])
    have q2 : w1.cell? ⟨w.heap.size, 2, none⟩ = some (.int .i64 po) := bkeep b1 (by simp [go_sem])
    have p2 : w1.frozen? ⟨w.heap.size, 2, none⟩ = false := bthaw b1 (a := ⟨w.heap.size, 2, none⟩) (v := .int .i64 po) (by simp [go_sem]) (by simp [go_sem])
    have q3 : w1.cell? ⟨w.heap.size, 3, none⟩ = some (.int .i64 di) := bkeep b1 (by simp [go_sem])
    have p3 : w1.frozen? ⟨w.heap.size, 3, none⟩ = false := bthaw b1 (a := ⟨w.heap.size, 3, none⟩) (v := .int .i64 di) (by simp [go_sem]) (by simp [go_sem])
    have q4 : w1.cell? ⟨w.heap.size, 4, none⟩ = some (.int .i64 st) := bkeep b1 (by simp [go_sem])
    have p4 : w1.frozen? ⟨w.heap.size, 4, none⟩ = false := bthaw b1 (a := ⟨w.heap.size, 4, none⟩) (v := .int .i64 st) (by simp [go_sem]) (by simp [go_sem])
    have q5 : w1.cell? ⟨w.heap.size, 5, none⟩ = some (.int .i64 un) := bkeep b1 (by simp [go_sem])
    have p5 : w1.frozen? ⟨w.heap.size, 5, none⟩ = false := bthaw b1 (a := ⟨w.heap.size, 5, none⟩) (v := .int .i64 un) (by simp [go_sem]) (by simp [go_sem])
    have q6 : w1.cell? ⟨w.heap.size, 6, none⟩ = some (.int .i64 nx) := bkeep b1 (by simp [go_sem])
    have p6 : w1.frozen? ⟨w.heap.size, 6, none⟩ = false := bthaw b1 (a := ⟨w.heap.size, 6, none⟩) (v := .int .i64 nx) (by simp [go_sem]) (by simp [go_sem])
    have q7 : w1.cell? ⟨w.heap.size, 7, none⟩ = some (.int .i64 wa) := bkeep b1 (by simp [go_sem])
    have p7 : w1.frozen? ⟨w.heap.size, 7, none⟩ = false := bthaw b1 (a := ⟨w.heap.size, 7, none⟩) (v := .int .i64 wa) (by simp [go_sem]) (by simp [go_sem])
    have q8 : w1.cell? ⟨w.heap.size, 8, none⟩ = some (.string inn) := bkeep b1 (by simp [go_sem])
    have p8 : w1.frozen? ⟨w.heap.size, 8, none⟩ = false := bthaw b1 (a := ⟨w.heap.size, 8, none⟩) (v := .string inn) (by simp [go_sem]) (by simp [go_sem])
    have q9 : w1.cell? ⟨w.heap.size, 9, none⟩ = some (.string out) := bkeep b1 (by simp [go_sem])
    have p9 : w1.frozen? ⟨w.heap.size, 9, none⟩ = false := bthaw b1 (a := ⟨w.heap.size, 9, none⟩) (v := .string out) (by simp [go_sem]) (by simp [go_sem])
    have q10 : w1.cell? ⟨w.heap.size, 10, none⟩ = some (.bool fin) := bkeep b1 (by simp [go_sem])
    have p10 : w1.frozen? ⟨w.heap.size, 10, none⟩ = false := bthaw b1 (a := ⟨w.heap.size, 10, none⟩) (v := .bool fin) (by simp [go_sem]) (by simp [go_sem])
    have z0 : w1.cell? ⟨w.heap.size + 1, 0, none⟩ = some (.string ⟨#[]⟩) := bkeep b1 (by simp [go_sem])
    have f0 : w1.frozen? ⟨w.heap.size + 1, 0, none⟩ = false := bthaw b1 (a := ⟨w.heap.size + 1, 0, none⟩) (v := .string ⟨#[]⟩) (by simp [go_sem]) (by simp [go_sem])
    have z1 : w1.cell? ⟨w.heap.size + 1, 1, none⟩ = some (.int .i64 0) := bkeep b1 (by simp [go_sem])
    have f1 : w1.frozen? ⟨w.heap.size + 1, 1, none⟩ = false := bthaw b1 (a := ⟨w.heap.size + 1, 1, none⟩) (v := .int .i64 0) (by simp [go_sem]) (by simp [go_sem])
    have z2 : w1.cell? ⟨w.heap.size + 1, 2, none⟩ = some (.int .i64 0) := bkeep b1 (by simp [go_sem])
    have f2 : w1.frozen? ⟨w.heap.size + 1, 2, none⟩ = false := bthaw b1 (a := ⟨w.heap.size + 1, 2, none⟩) (v := .int .i64 0) (by simp [go_sem]) (by simp [go_sem])
    have z3 : w1.cell? ⟨w.heap.size + 1, 3, none⟩ = some (.int .i64 0) := bkeep b1 (by simp [go_sem])
    have f3 : w1.frozen? ⟨w.heap.size + 1, 3, none⟩ = false := bthaw b1 (a := ⟨w.heap.size + 1, 3, none⟩) (v := .int .i64 0) (by simp [go_sem]) (by simp [go_sem])
    have z4 : w1.cell? ⟨w.heap.size + 1, 4, none⟩ = some (.int .i64 0) := bkeep b1 (by simp [go_sem])
    have f4 : w1.frozen? ⟨w.heap.size + 1, 4, none⟩ = false := bthaw b1 (a := ⟨w.heap.size + 1, 4, none⟩) (v := .int .i64 0) (by simp [go_sem]) (by simp [go_sem])
    have z5 : w1.cell? ⟨w.heap.size + 1, 5, none⟩ = some (.int .i64 0) := bkeep b1 (by simp [go_sem])
    have f5 : w1.frozen? ⟨w.heap.size + 1, 5, none⟩ = false := bthaw b1 (a := ⟨w.heap.size + 1, 5, none⟩) (v := .int .i64 0) (by simp [go_sem]) (by simp [go_sem])
    have z6 : w1.cell? ⟨w.heap.size + 1, 6, none⟩ = some (.int .i64 0) := bkeep b1 (by simp [go_sem])
    have f6 : w1.frozen? ⟨w.heap.size + 1, 6, none⟩ = false := bthaw b1 (a := ⟨w.heap.size + 1, 6, none⟩) (v := .int .i64 0) (by simp [go_sem]) (by simp [go_sem])
    have z7 : w1.cell? ⟨w.heap.size + 1, 7, none⟩ = some (.int .i64 0) := bkeep b1 (by simp [go_sem])
    have f7 : w1.frozen? ⟨w.heap.size + 1, 7, none⟩ = false := bthaw b1 (a := ⟨w.heap.size + 1, 7, none⟩) (v := .int .i64 0) (by simp [go_sem]) (by simp [go_sem])
    have z8 : w1.cell? ⟨w.heap.size + 1, 8, none⟩ = some (.string ⟨#[]⟩) := bkeep b1 (by simp [go_sem])
    have f8 : w1.frozen? ⟨w.heap.size + 1, 8, none⟩ = false := bthaw b1 (a := ⟨w.heap.size + 1, 8, none⟩) (v := .string ⟨#[]⟩) (by simp [go_sem]) (by simp [go_sem])
    have z9 : w1.cell? ⟨w.heap.size + 1, 9, none⟩ = some (.string ⟨#[]⟩) := bkeep b1 (by simp [go_sem])
    have f9 : w1.frozen? ⟨w.heap.size + 1, 9, none⟩ = false := bthaw b1 (a := ⟨w.heap.size + 1, 9, none⟩) (v := .string ⟨#[]⟩) (by simp [go_sem]) (by simp [go_sem])
    have z10 : w1.cell? ⟨w.heap.size + 1, 10, none⟩ = some (.bool false) := bkeep b1 (by simp [go_sem])
    have f10 : w1.frozen? ⟨w.heap.size + 1, 10, none⟩ = false := bthaw b1 (a := ⟨w.heap.size + 1, 10, none⟩) (v := .bool false) (by simp [go_sem]) (by simp [go_sem])
    have za0 : (w1.alloc (.cells #[] 27)).cell? ⟨w.heap.size + 1, 0, none⟩ = some (.string ⟨#[]⟩) := acell z0 _
    have fa0 : (w1.alloc (.cells #[] 27)).frozen? ⟨w.heap.size + 1, 0, none⟩ = false := bthaw ((Below.refl _ _).alloc (Nat.le_refl _) _) z0 f0
    have za1 : (w1.alloc (.cells #[] 27)).cell? ⟨w.heap.size + 1, 1, none⟩ = some (.int .i64 0) := acell z1 _
    have fa1 : (w1.alloc (.cells #[] 27)).frozen? ⟨w.heap.size + 1, 1, none⟩ = false := bthaw ((Below.refl _ _).alloc (Nat.le_refl _) _) z1 f1
    have za2 : (w1.alloc (.cells #[] 27)).cell? ⟨w.heap.size + 1, 2, none⟩ = some (.int .i64 0) := acell z2 _
    have fa2 : (w1.alloc (.cells #[] 27)).frozen? ⟨w.heap.size + 1, 2, none⟩ = false := bthaw ((Below.refl _ _).alloc (Nat.le_refl _) _) z2 f2
    have za3 : (w1.alloc (.cells #[] 27)).cell? ⟨w.heap.size + 1, 3, none⟩ = some (.int .i64 0) := acell z3 _
    have fa3 : (w1.alloc (.cells #[] 27)).frozen? ⟨w.heap.size + 1, 3, none⟩ = false := bthaw ((Below.refl _ _).alloc (Nat.le_refl _) _) z3 f3
    have za4 : (w1.alloc (.cells #[] 27)).cell? ⟨w.heap.size + 1, 4, none⟩ = some (.int .i64 0) := acell z4 _
    have fa4 : (w1.alloc (.cells #[] 27)).frozen? ⟨w.heap.size + 1, 4, none⟩ = false := bthaw ((Below.refl _ _).alloc (Nat.le_refl _) _) z4 f4
    have za5 : (w1.alloc (.cells #[] 27)).cell? ⟨w.heap.size + 1, 5, none⟩ = some (.int .i64 0) := acell z5 _
    have fa5 : (w1.alloc (.cells #[] 27)).frozen? ⟨w.heap.size + 1, 5, none⟩ = false := bthaw ((Below.refl _ _).alloc (Nat.le_refl _) _) z5 f5
    have za6 : (w1.alloc (.cells #[] 27)).cell? ⟨w.heap.size + 1, 6, none⟩ = some (.int .i64 0) := acell z6 _
    have fa6 : (w1.alloc (.cells #[] 27)).frozen? ⟨w.heap.size + 1, 6, none⟩ = false := bthaw ((Below.refl _ _).alloc (Nat.le_refl _) _) z6 f6
    have za7 : (w1.alloc (.cells #[] 27)).cell? ⟨w.heap.size + 1, 7, none⟩ = some (.int .i64 0) := acell z7 _
    have fa7 : (w1.alloc (.cells #[] 27)).frozen? ⟨w.heap.size + 1, 7, none⟩ = false := bthaw ((Below.refl _ _).alloc (Nat.le_refl _) _) z7 f7
    have za8 : (w1.alloc (.cells #[] 27)).cell? ⟨w.heap.size + 1, 8, none⟩ = some (.string ⟨#[]⟩) := acell z8 _
    have fa8 : (w1.alloc (.cells #[] 27)).frozen? ⟨w.heap.size + 1, 8, none⟩ = false := bthaw ((Below.refl _ _).alloc (Nat.le_refl _) _) z8 f8
    have za9 : (w1.alloc (.cells #[] 27)).cell? ⟨w.heap.size + 1, 9, none⟩ = some (.string ⟨#[]⟩) := acell z9 _
    have fa9 : (w1.alloc (.cells #[] 27)).frozen? ⟨w.heap.size + 1, 9, none⟩ = false := bthaw ((Below.refl _ _).alloc (Nat.le_refl _) _) z9 f9
    have za10 : (w1.alloc (.cells #[] 27)).cell? ⟨w.heap.size + 1, 10, none⟩ = some (.bool false) := acell z10 _
    have fa10 : (w1.alloc (.cells #[] 27)).frozen? ⟨w.heap.size + 1, 10, none⟩ = false := bthaw ((Below.refl _ _).alloc (Nat.le_refl _) _) z10 f10
    clear q0 p0 z0 f0 q1 p1 z1 f1 q2 p2 z2 f2 q3 p3 z3 f3 q4 p4 z4 f4 q5 p5 z5 f5 q6 p6 z6 f6 q7 p7 z7 f7 q8 p8 z8 f8 q9 p9 z9 f9 q10 p10 z10 f10
    have B1 : Hid (Below w.heap.size w w1) := BW.out.trans (b1.mono (by simp; omega))
    have hs1 : w.heap.size + 2 ≤ w1.heap.size := by have := b1.size; simp at this; omega
    clear b1 g1 BW TK
    go_wp2
    (try simp only [Exit.inBlock, Exit.then])
    refine bodyPost_ret (v := .tuple #[cvA cnZ, .slice (some ⟨w1.heap.size, 0, none⟩) 0 0, .int .i64 1]) (by simp [results, Try.results35, go_sem, cvA, cnZ, za0, za1, za2, za3, za4, za5, za6, za7, za8, za9, za10]; try rfl) rfl ?_
    exact ⟨_, rfl, ((((((((((((OwnS.lit w1 (w.heap.size + 2) hs1).far ⟨w.heap.size + 1, 0, none⟩ _ (by simp)).far _ _ (by simp)).far _ _ (by simp)).far _ _ (by simp)).far _ _ (by simp)).far _ _ (by simp)).far _ _ (by simp)).far _ _ (by simp)).far _ _ (by simp)).far _ _ (by simp)).far _ _ (by simp)).lower (by omega), (((((((((((B1.out.alloc B1.out.size _).setCell (p := ⟨w.heap.size + 1, 0, none⟩) (Nat.le_succ _) _).setCell (Nat.le_succ _) _).setCell (Nat.le_succ _) _).setCell (Nat.le_succ _) _).setCell (Nat.le_succ _) _).setCell (Nat.le_succ _) _).setCell (Nat.le_succ _) _).setCell (Nat.le_succ _) _).setCell (Nat.le_succ _) _).setCell (Nat.le_succ _) _).setCell (Nat.le_succ _) _⟩
  | true =>
    by_cases hst : st = 2
    rotate_left
    · obtain ⟨e1, e2, e3⟩ := sy_state (c := ⟨mc, ip, po, di, st, un, nx, wa, inn, out, fin⟩) hl hok hst
      rw [e1, e2, e3]
      rw [hok] at TK
      have t2 : (st != 2) = true := by simp [hst]
      clear e1 e2 e3 hok hl hst
      go_enter Try.func35, Try.ntmps35
      go_wp2_with fail
      refine (TK.out _).mono ?_
      rintro e w1 ⟨rfl, g1⟩
      have b1 := g1.below
      have q0 : w1.cell? ⟨w.heap.size, 0, none⟩ = some (.string mc) := bkeep b1 (by simp [go_sem])
      have p0 : w1.frozen? ⟨w.heap.size, 0, none⟩ = false := bthaw b1 (a := ⟨w.heap.size, 0, none⟩) (v := .string mc) (by simp [go_sem]) (by simp [go_sem])
      have q1 : w1.cell? ⟨w.heap.size, 1, none⟩ = some (.int .i64 ip) := bkeep b1 (by simp [go_sem])
      have p1 : w1.frozen? ⟨w.heap.size, 1, none⟩ = false := bthaw b1 (a := ⟨w.heap.size, 1, none⟩) (v := .int .i64 ip) (by simp [go_sem]) (by simp [go_sem])
      have q2 : w1.cell? ⟨w.heap.size, 2, none⟩ = some (.int .i64 po) := bkeep b1 (by simp [go_sem])
      have p2 : w1.frozen? ⟨w.heap.size, 2, none⟩ = false := bthaw b1 (a := ⟨w.heap.size, 2, none⟩) (v := .int .i64 po) (by simp [go_sem]) (by simp [go_sem])
      have q3 : w1.cell? ⟨w.heap.size, 3, none⟩ = some (.int .i64 di) := bkeep b1 (by simp [go_sem])
      have p3 : w1.frozen? ⟨w.heap.size, 3, none⟩ = false := bthaw b1 (a := ⟨w.heap.size, 3, none⟩) (v := .int .i64 di) (by simp [go_sem]) (by simp [go_sem])
      have q4 : w1.cell? ⟨w.heap.size, 4, none⟩ = some (.int .i64 st) := bkeep b1 (by simp [go_sem])
      have p4 : w1.frozen? ⟨w.heap.size, 4, none⟩ = false := bthaw b1 (a := ⟨w.heap.size, 4, none⟩) (v := .int .i64 st) (by simp [go_sem]) (by simp [go_sem])
      have q5 : w1.cell? ⟨w.heap.size, 5, none⟩ = some (.int .i64 un) := bkeep b1 (by simp [go_sem])
      have p5 : w1.frozen? ⟨w.heap.size, 5, none⟩ = false := bthaw b1 (a := ⟨w.heap.size, 5, none⟩) (v := .int .i64 un) (by simp [go_sem]) (by simp [go_sem])
      have q6 : w1.cell? ⟨w.heap.size, 6, none⟩ = some (.int .i64 nx) := bkeep b1 (by simp [go_sem])
      have p6 : w1.frozen? ⟨w.heap.size, 6, none⟩ = false := bthaw b1 (a := ⟨w.heap.size, 6, none⟩) (v := .int .i64 nx) (by simp [go_sem]) (by simp [go_sem])
      have q7 : w1.cell? ⟨w.heap.size, 7, none⟩ = some (.int .i64 wa) := bkeep b1 (by simp [go_sem])
      have p7 : w1.frozen? ⟨w.heap.size, 7, none⟩ = false := bthaw b1 (a := ⟨w.heap.size, 7, none⟩) (v := .int .i64 wa) (by simp [go_sem]) (by simp [go_sem])
      have q8 : w1.cell? ⟨w.heap.size, 8, none⟩ = some (.string inn) := bkeep b1 (by simp [go_sem])
      have p8 : w1.frozen? ⟨w.heap.size, 8, none⟩ = false := bthaw b1 (a := ⟨w.heap.size, 8, none⟩) (v := .string inn) (by simp [go_sem]) (by simp [go_sem])
      have q9 : w1.cell? ⟨w.heap.size, 9, none⟩ = some (.string out) := bkeep b1 (by simp [go_sem])
      have p9 : w1.frozen? ⟨w.heap.size, 9, none⟩ = false := bthaw b1 (a := ⟨w.heap.size, 9, none⟩) (v := .string out) (by simp [go_sem]) (by simp [go_sem])
      have q10 : w1.cell? ⟨w.heap.size, 10, none⟩ = some (.bool fin) := bkeep b1 (by simp [go_sem])
      have p10 : w1.frozen? ⟨w.heap.size, 10, none⟩ = false := bthaw b1 (a := ⟨w.heap.size, 10, none⟩) (v := .bool fin) (by simp [go_sem]) (by simp [go_sem])
      have z0 : w1.cell? ⟨w.heap.size + 1, 0, none⟩ = some (.string ⟨#[]⟩) := bkeep b1 (by simp [go_sem])
      have f0 : w1.frozen? ⟨w.heap.size + 1, 0, none⟩ = false := bthaw b1 (a := ⟨w.heap.size + 1, 0, none⟩) (v := .string ⟨#[]⟩) (by simp [go_sem]) (by simp [go_sem])
      have z1 : w1.cell? ⟨w.heap.size + 1, 1, none⟩ = some (.int .i64 0) := bkeep b1 (by simp [go_sem])
      have f1 : w1.frozen? ⟨w.heap.size + 1, 1, none⟩ = false := bthaw b1 (a := ⟨w.heap.size + 1, 1, none⟩) (v := .int .i64 0) (by simp [go_sem]) (by simp [go_sem])
      have z2 : w1.cell? ⟨w.heap.size + 1, 2, none⟩ = some (.int .i64 0) := bkeep b1 (by simp [go_sem])
      have f2 : w1.frozen? ⟨w.heap.size + 1, 2, none⟩ = false := bthaw b1 (a := ⟨w.heap.size + 1, 2, none⟩) (v := .int .i64 0) (by simp [go_sem]) (by simp [go_sem])
      have z3 : w1.cell? ⟨w.heap.size + 1, 3, none⟩ = some (.int .i64 0) := bkeep b1 (by simp [go_sem])
      have f3 : w1.frozen? ⟨w.heap.size + 1, 3, none⟩ = false := bthaw b1 (a := ⟨w.heap.size + 1, 3, none⟩) (v := .int .i64 0) (by simp [go_sem]) (by simp [go_sem])
      have z4 : w1.cell? ⟨w.heap.size + 1, 4, none⟩ = some (.int .i64 0) := bkeep b1 (by simp [go_sem])
      have f4 : w1.frozen? ⟨w.heap.size + 1, 4, none⟩ = false := bthaw b1 (a := ⟨w.heap.size + 1, 4, none⟩) (v := .int .i64 0) (by simp [go_sem]) (by simp [go_sem])
      have z5 : w1.cell? ⟨w.heap.size + 1, 5, none⟩ = some (.int .i64 0) := bkeep b1 (by simp [go_sem])
      have f5 : w1.frozen? ⟨w.heap.size + 1, 5, none⟩ = false := bthaw b1 (a := ⟨w.heap.size + 1, 5, none⟩) (v := .int .i64 0) (by simp [go_sem]) (by simp [go_sem])
      have z6 : w1.cell? ⟨w.heap.size + 1, 6, none⟩ = some (.int .i64 0) := bkeep b1 (by simp [go_sem])
      have f6 : w1.frozen? ⟨w.heap.size + 1, 6, none⟩ = false := bthaw b1 (a := ⟨w.heap.size + 1, 6, none⟩) (v := .int .i64 0) (by simp [go_sem]) (by simp [go_sem])
      have z7 : w1.cell? ⟨w.heap.size + 1, 7, none⟩ = some (.int .i64 0) := bkeep b1 (by simp [go_sem])
      have f7 : w1.frozen? ⟨w.heap.size + 1, 7, none⟩ = false := bthaw b1 (a := ⟨w.heap.size + 1, 7, none⟩) (v := .int .i64 0) (by simp [go_sem]) (by simp [go_sem])
      have z8 : w1.cell? ⟨w.heap.size + 1, 8, none⟩ = some (.string ⟨#[]⟩) := bkeep b1 (by simp [go_sem])
      have f8 : w1.frozen? ⟨w.heap.size + 1, 8, none⟩ = false := bthaw b1 (a := ⟨w.heap.size + 1, 8, none⟩) (v := .string ⟨#[]⟩) (by simp [go_sem]) (by simp [go_sem])
      have z9 : w1.cell? ⟨w.heap.size + 1, 9, none⟩ = some (.string ⟨#[]⟩) := bkeep b1 (by simp [go_sem])
      have f9 : w1.frozen? ⟨w.heap.size + 1, 9, none⟩ = false := bthaw b1 (a := ⟨w.heap.size + 1, 9, none⟩) (v := .string ⟨#[]⟩) (by simp [go_sem]) (by simp [go_sem])
      have z10 : w1.cell? ⟨w.heap.size + 1, 10, none⟩ = some (.bool false) := bkeep b1 (by simp [go_sem])
      have f10 : w1.frozen? ⟨w.heap.size + 1, 10, none⟩ = false := bthaw b1 (a := ⟨w.heap.size + 1, 10, none⟩) (v := .bool false) (by simp [go_sem]) (by simp [go_sem])
      have za0 : (w1.alloc (.cells #[] 27)).cell? ⟨w.heap.size + 1, 0, none⟩ = some (.string ⟨#[]⟩) := acell z0 _
      have fa0 : (w1.alloc (.cells #[] 27)).frozen? ⟨w.heap.size + 1, 0, none⟩ = false := bthaw ((Below.refl _ _).alloc (Nat.le_refl _) _) z0 f0
      have za1 : (w1.alloc (.cells #[] 27)).cell? ⟨w.heap.size + 1, 1, none⟩ = some (.int .i64 0) := acell z1 _
      have fa1 : (w1.alloc (.cells #[] 27)).frozen? ⟨w.heap.size + 1, 1, none⟩ = false := bthaw ((Below.refl _ _).alloc (Nat.le_refl _) _) z1 f1
      have za2 : (w1.alloc (.cells #[] 27)).cell? ⟨w.heap.size + 1, 2, none⟩ = some (.int .i64 0) := acell z2 _
      have fa2 : (w1.alloc (.cells #[] 27)).frozen? ⟨w.heap.size + 1, 2, none⟩ = false := bthaw ((Below.refl _ _).alloc (Nat.le_refl _) _) z2 f2
      have za3 : (w1.alloc (.cells #[] 27)).cell? ⟨w.heap.size + 1, 3, none⟩ = some (.int .i64 0) := acell z3 _
      have fa3 : (w1.alloc (.cells #[] 27)).frozen? ⟨w.heap.size + 1, 3, none⟩ = false := bthaw ((Below.refl _ _).alloc (Nat.le_refl _) _) z3 f3
      have za4 : (w1.alloc (.cells #[] 27)).cell? ⟨w.heap.size + 1, 4, none⟩ = some (.int .i64 0) := acell z4 _
      have fa4 : (w1.alloc (.cells #[] 27)).frozen? ⟨w.heap.size + 1, 4, none⟩ = false := bthaw ((Below.refl _ _).alloc (Nat.le_refl _) _) z4 f4
      have za5 : (w1.alloc (.cells #[] 27)).cell? ⟨w.heap.size + 1, 5, none⟩ = some (.int .i64 0) := acell z5 _
      have fa5 : (w1.alloc (.cells #[] 27)).frozen? ⟨w.heap.size + 1, 5, none⟩ = false := bthaw ((Below.refl _ _).alloc (Nat.le_refl _) _) z5 f5
      have za6 : (w1.alloc (.cells #[] 27)).cell? ⟨w.heap.size + 1, 6, none⟩ = some (.int .i64 0) := acell z6 _
      have fa6 : (w1.alloc (.cells #[] 27)).frozen? ⟨w.heap.size + 1, 6, none⟩ = false := bthaw ((Below.refl _ _).alloc (Nat.le_refl _) _) z6 f6
      have za7 : (w1.alloc (.cells #[] 27)).cell? ⟨w.heap.size + 1, 7, none⟩ = some (.int .i64 0) := acell z7 _
      have fa7 : (w1.alloc (.cells #[] 27)).frozen? ⟨w.heap.size + 1, 7, none⟩ = false := bthaw ((Below.refl _ _).alloc (Nat.le_refl _) _) z7 f7
      have za8 : (w1.alloc (.cells #[] 27)).cell? ⟨w.heap.size + 1, 8, none⟩ = some (.string ⟨#[]⟩) := acell z8 _
      have fa8 : (w1.alloc (.cells #[] 27)).frozen? ⟨w.heap.size + 1, 8, none⟩ = false := bthaw ((Below.refl _ _).alloc (Nat.le_refl _) _) z8 f8
      have za9 : (w1.alloc (.cells #[] 27)).cell? ⟨w.heap.size + 1, 9, none⟩ = some (.string ⟨#[]⟩) := acell z9 _
      have fa9 : (w1.alloc (.cells #[] 27)).frozen? ⟨w.heap.size + 1, 9, none⟩ = false := bthaw ((Below.refl _ _).alloc (Nat.le_refl _) _) z9 f9
      have za10 : (w1.alloc (.cells #[] 27)).cell? ⟨w.heap.size + 1, 10, none⟩ = some (.bool false) := acell z10 _
      have fa10 : (w1.alloc (.cells #[] 27)).frozen? ⟨w.heap.size + 1, 10, none⟩ = false := bthaw ((Below.refl _ _).alloc (Nat.le_refl _) _) z10 f10
      clear p0 z0 f0 p1 z1 f1 p2 z2 f2 p3 z3 f3 p4 z4 f4 p5 z5 f5 p6 z6 f6 p7 z7 f7 p8 z8 f8 p9 z9 f9 p10 z10 f10
      have B1 : Hid (Below w.heap.size w w1) := BW.out.trans (b1.mono (by simp; omega))
      have hs1 : w.heap.size + 2 ≤ w1.heap.size := by have := b1.size; simp at this; omega
      clear b1 g1 BW TK
      go_wp2
      (try simp only [Exit.inBlock, Exit.then])
      refine bodyPost_ret (v := .tuple #[cvA ⟨mc, ip, po, di, st, un, nx, wa, inn, out, fin⟩, .slice (some ⟨w1.heap.size, 0, none⟩) 0 0, .int .i64 12]) (by simp [results, Try.results35, go_sem, cvA, za0, za1, za2, za3, za4, za5, za6, za7, za8, za9, za10]; try rfl) rfl ?_
      exact ⟨_, rfl, ((((((((((((OwnS.lit w1 (w.heap.size + 2) hs1).far ⟨w.heap.size + 1, 0, none⟩ _ (by simp)).far _ _ (by simp)).far _ _ (by simp)).far _ _ (by simp)).far _ _ (by simp)).far _ _ (by simp)).far _ _ (by simp)).far _ _ (by simp)).far _ _ (by simp)).far _ _ (by simp)).far _ _ (by simp)).lower (by omega), (((((((((((B1.out.alloc B1.out.size _).setCell (p := ⟨w.heap.size + 1, 0, none⟩) (Nat.le_succ _) _).setCell (Nat.le_succ _) _).setCell (Nat.le_succ _) _).setCell (Nat.le_succ _) _).setCell (Nat.le_succ _) _).setCell (Nat.le_succ _) _).setCell (Nat.le_succ _) _).setCell (Nat.le_succ _) _).setCell (Nat.le_succ _) _).setCell (Nat.le_succ _) _).setCell (Nat.le_succ _) _⟩
    · have t2 : (st != 2) = false := by simp [hst]
      by_cases hf : 300 < out.size + t.size
      · obtain ⟨e1, e2, e3⟩ := sy_full (c := ⟨mc, ip, po, di, st, un, nx, wa, inn, out, fin⟩) hl hok hst hf
        rw [e1, e2, e3]
        rw [hok] at TK
        have t3 : decide ((300 : Int) < (out.size : Int) + (t.size : Int)) = true := decide_eq_true (by omega)
        clear e1 e2 e3 hok hst hf
        go_enter Try.func35, Try.ntmps35
        go_wp2_with fail
        refine (TK.out _).mono ?_
        rintro e w1 ⟨rfl, g1⟩
        have b1 := g1.below
        have q0 : w1.cell? ⟨w.heap.size, 0, none⟩ = some (.string mc) := bkeep b1 (by simp [go_sem])
        have p0 : w1.frozen? ⟨w.heap.size, 0, none⟩ = false := bthaw b1 (a := ⟨w.heap.size, 0, none⟩) (v := .string mc) (by simp [go_sem]) (by simp [go_sem])
        have q1 : w1.cell? ⟨w.heap.size, 1, none⟩ = some (.int .i64 ip) := bkeep b1 (by simp [go_sem])
        have p1 : w1.frozen? ⟨w.heap.size, 1, none⟩ = false := bthaw b1 (a := ⟨w.heap.size, 1, none⟩) (v := .int .i64 ip) (by simp [go_sem]) (by simp [go_sem])
        have q2 : w1.cell? ⟨w.heap.size, 2, none⟩ = some (.int .i64 po) := bkeep b1 (by simp [go_sem])
        have p2 : w1.frozen? ⟨w.heap.size, 2, none⟩ = false := bthaw b1 (a := ⟨w.heap.size, 2, none⟩) (v := .int .i64 po) (by simp [go_sem]) (by simp [go_sem])
        have q3 : w1.cell? ⟨w.heap.size, 3, none⟩ = some (.int .i64 di) := bkeep b1 (by simp [go_sem])
        have p3 : w1.frozen? ⟨w.heap.size, 3, none⟩ = false := bthaw b1 (a := ⟨w.heap.size, 3, none⟩) (v := .int .i64 di) (by simp [go_sem]) (by simp [go_sem])
        have q4 : w1.cell? ⟨w.heap.size, 4, none⟩ = some (.int .i64 st) := bkeep b1 (by simp [go_sem])
        have p4 : w1.frozen? ⟨w.heap.size, 4, none⟩ = false := bthaw b1 (a := ⟨w.heap.size, 4, none⟩) (v := .int .i64 st) (by simp [go_sem]) (by simp [go_sem])
        have q5 : w1.cell? ⟨w.heap.size, 5, none⟩ = some (.int .i64 un) := bkeep b1 (by simp [go_sem])
        have p5 : w1.frozen? ⟨w.heap.size, 5, none⟩ = false := bthaw b1 (a := ⟨w.heap.size, 5, none⟩) (v := .int .i64 un) (by simp [go_sem]) (by simp [go_sem])
        have q6 : w1.cell? ⟨w.heap.size, 6, none⟩ = some (.int .i64 nx) := bkeep b1 (by simp [go_sem])
        have p6 : w1.frozen? ⟨w.heap.size, 6, none⟩ = false := bthaw b1 (a := ⟨w.heap.size, 6, none⟩) (v := .int .i64 nx) (by simp [go_sem]) (by simp [go_sem])
        have q7 : w1.cell? ⟨w.heap.size, 7, none⟩ = some (.int .i64 wa) := bkeep b1 (by simp [go_sem])
        have p7 : w1.frozen? ⟨w.heap.size, 7, none⟩ = false := bthaw b1 (a := ⟨w.heap.size, 7, none⟩) (v := .int .i64 wa) (by simp [go_sem]) (by simp [go_sem])
        have q8 : w1.cell? ⟨w.heap.size, 8, none⟩ = some (.string inn) := bkeep b1 (by simp [go_sem])
        have p8 : w1.frozen? ⟨w.heap.size, 8, none⟩ = false := bthaw b1 (a := ⟨w.heap.size, 8, none⟩) (v := .string inn) (by simp [go_sem]) (by simp [go_sem])
        have q9 : w1.cell? ⟨w.heap.size, 9, none⟩ = some (.string out) := bkeep b1 (by simp [go_sem])
        have p9 : w1.frozen? ⟨w.heap.size, 9, none⟩ = false := bthaw b1 (a := ⟨w.heap.size, 9, none⟩) (v := .string out) (by simp [go_sem]) (by simp [go_sem])
        have q10 : w1.cell? ⟨w.heap.size, 10, none⟩ = some (.bool fin) := bkeep b1 (by simp [go_sem])
        have p10 : w1.frozen? ⟨w.heap.size, 10, none⟩ = false := bthaw b1 (a := ⟨w.heap.size, 10, none⟩) (v := .bool fin) (by simp [go_sem]) (by simp [go_sem])
        have z0 : w1.cell? ⟨w.heap.size + 1, 0, none⟩ = some (.string ⟨#[]⟩) := bkeep b1 (by simp [go_sem])
        have f0 : w1.frozen? ⟨w.heap.size + 1, 0, none⟩ = false := bthaw b1 (a := ⟨w.heap.size + 1, 0, none⟩) (v := .string ⟨#[]⟩) (by simp [go_sem]) (by simp [go_sem])
        have z1 : w1.cell? ⟨w.heap.size + 1, 1, none⟩ = some (.int .i64 0) := bkeep b1 (by simp [go_sem])
        have f1 : w1.frozen? ⟨w.heap.size + 1, 1, none⟩ = false := bthaw b1 (a := ⟨w.heap.size + 1, 1, none⟩) (v := .int .i64 0) (by simp [go_sem]) (by simp [go_sem])
        have z2 : w1.cell? ⟨w.heap.size + 1, 2, none⟩ = some (.int .i64 0) := bkeep b1 (by simp [go_sem])
        have f2 : w1.frozen? ⟨w.heap.size + 1, 2, none⟩ = false := bthaw b1 (a := ⟨w.heap.size + 1, 2, none⟩) (v := .int .i64 0) (by simp [go_sem]) (by simp [go_sem])
        have z3 : w1.cell? ⟨w.heap.size + 1, 3, none⟩ = some (.int .i64 0) := bkeep b1 (by simp [go_sem])
        have f3 : w1.frozen? ⟨w.heap.size + 1, 3, none⟩ = false := bthaw b1 (a := ⟨w.heap.size + 1, 3, none⟩) (v := .int .i64 0) (by simp [go_sem]) (by simp [go_sem])
        have z4 : w1.cell? ⟨w.heap.size + 1, 4, none⟩ = some (.int .i64 0) := bkeep b1 (by simp [go_sem])
        have f4 : w1.frozen? ⟨w.heap.size + 1, 4, none⟩ = false := bthaw b1 (a := ⟨w.heap.size + 1, 4, none⟩) (v := .int .i64 0) (by simp [go_sem]) (by simp [go_sem])
        have z5 : w1.cell? ⟨w.heap.size + 1, 5, none⟩ = some (.int .i64 0) := bkeep b1 (by simp [go_sem])
        have f5 : w1.frozen? ⟨w.heap.size + 1, 5, none⟩ = false := bthaw b1 (a := ⟨w.heap.size + 1, 5, none⟩) (v := .int .i64 0) (by simp [go_sem]) (by simp [go_sem])
        have z6 : w1.cell? ⟨w.heap.size + 1, 6, none⟩ = some (.int .i64 0) := bkeep b1 (by simp [go_sem])
        have f6 : w1.frozen? ⟨w.heap.size + 1, 6, none⟩ = false := bthaw b1 (a := ⟨w.heap.size + 1, 6, none⟩) (v := .int .i64 0) (by simp [go_sem]) (by simp [go_sem])
        have z7 : w1.cell? ⟨w.heap.size + 1, 7, none⟩ = some (.int .i64 0) := bkeep b1 (by simp [go_sem])
        have f7 : w1.frozen? ⟨w.heap.size + 1, 7, none⟩ = false := bthaw b1 (a := ⟨w.heap.size + 1, 7, none⟩) (v := .int .i64 0) (by simp [go_sem]) (by simp [go_sem])
        have z8 : w1.cell? ⟨w.heap.size + 1, 8, none⟩ = some (.string ⟨#[]⟩) := bkeep b1 (by simp [go_sem])
        have f8 : w1.frozen? ⟨w.heap.size + 1, 8, none⟩ = false := bthaw b1 (a := ⟨w.heap.size + 1, 8, none⟩) (v := .string ⟨#[]⟩) (by simp [go_sem]) (by simp [go_sem])
        have z9 : w1.cell? ⟨w.heap.size + 1, 9, none⟩ = some (.string ⟨#[]⟩) := bkeep b1 (by simp [go_sem])
        have f9 : w1.frozen? ⟨w.heap.size + 1, 9, none⟩ = false := bthaw b1 (a := ⟨w.heap.size + 1, 9, none⟩) (v := .string ⟨#[]⟩) (by simp [go_sem]) (by simp [go_sem])
        have z10 : w1.cell? ⟨w.heap.size + 1, 10, none⟩ = some (.bool false) := bkeep b1 (by simp [go_sem])
        have f10 : w1.frozen? ⟨w.heap.size + 1, 10, none⟩ = false := bthaw b1 (a := ⟨w.heap.size + 1, 10, none⟩) (v := .bool false) (by simp [go_sem]) (by simp [go_sem])
        have za0 : (w1.alloc (.cells #[] 27)).cell? ⟨w.heap.size + 1, 0, none⟩ = some (.string ⟨#[]⟩) := acell z0 _
        have fa0 : (w1.alloc (.cells #[] 27)).frozen? ⟨w.heap.size + 1, 0, none⟩ = false := bthaw ((Below.refl _ _).alloc (Nat.le_refl _) _) z0 f0
        have za1 : (w1.alloc (.cells #[] 27)).cell? ⟨w.heap.size + 1, 1, none⟩ = some (.int .i64 0) := acell z1 _
        have fa1 : (w1.alloc (.cells #[] 27)).frozen? ⟨w.heap.size + 1, 1, none⟩ = false := bthaw ((Below.refl _ _).alloc (Nat.le_refl _) _) z1 f1
        have za2 : (w1.alloc (.cells #[] 27)).cell? ⟨w.heap.size + 1, 2, none⟩ = some (.int .i64 0) := acell z2 _
        have fa2 : (w1.alloc (.cells #[] 27)).frozen? ⟨w.heap.size + 1, 2, none⟩ = false := bthaw ((Below.refl _ _).alloc (Nat.le_refl _) _) z2 f2
        have za3 : (w1.alloc (.cells #[] 27)).cell? ⟨w.heap.size + 1, 3, none⟩ = some (.int .i64 0) := acell z3 _
        have fa3 : (w1.alloc (.cells #[] 27)).frozen? ⟨w.heap.size + 1, 3, none⟩ = false := bthaw ((Below.refl _ _).alloc (Nat.le_refl _) _) z3 f3
        have za4 : (w1.alloc (.cells #[] 27)).cell? ⟨w.heap.size + 1, 4, none⟩ = some (.int .i64 0) := acell z4 _
        have fa4 : (w1.alloc (.cells #[] 27)).frozen? ⟨w.heap.size + 1, 4, none⟩ = false := bthaw ((Below.refl _ _).alloc (Nat.le_refl _) _) z4 f4
        have za5 : (w1.alloc (.cells #[] 27)).cell? ⟨w.heap.size + 1, 5, none⟩ = some (.int .i64 0) := acell z5 _
        have fa5 : (w1.alloc (.cells #[] 27)).frozen? ⟨w.heap.size + 1, 5, none⟩ = false := bthaw ((Below.refl _ _).alloc (Nat.le_refl _) _) z5 f5
        have za6 : (w1.alloc (.cells #[] 27)).cell? ⟨w.heap.size + 1, 6, none⟩ = some (.int .i64 0) := acell z6 _
        have fa6 : (w1.alloc (.cells #[] 27)).frozen? ⟨w.heap.size + 1, 6, none⟩ = false := bthaw ((Below.refl _ _).alloc (Nat.le_refl _) _) z6 f6
        have za7 : (w1.alloc (.cells #[] 27)).cell? ⟨w.heap.size + 1, 7, none⟩ = some (.int .i64 0) := acell z7 _
        have fa7 : (w1.alloc (.cells #[] 27)).frozen? ⟨w.heap.size + 1, 7, none⟩ = false := bthaw ((Below.refl _ _).alloc (Nat.le_refl _) _) z7 f7
        have za8 : (w1.alloc (.cells #[] 27)).cell? ⟨w.heap.size + 1, 8, none⟩ = some (.string ⟨#[]⟩) := acell z8 _
        have fa8 : (w1.alloc (.cells #[] 27)).frozen? ⟨w.heap.size + 1, 8, none⟩ = false := bthaw ((Below.refl _ _).alloc (Nat.le_refl _) _) z8 f8
        have za9 : (w1.alloc (.cells #[] 27)).cell? ⟨w.heap.size + 1, 9, none⟩ = some (.string ⟨#[]⟩) := acell z9 _
        have fa9 : (w1.alloc (.cells #[] 27)).frozen? ⟨w.heap.size + 1, 9, none⟩ = false := bthaw ((Below.refl _ _).alloc (Nat.le_refl _) _) z9 f9
        have za10 : (w1.alloc (.cells #[] 27)).cell? ⟨w.heap.size + 1, 10, none⟩ = some (.bool false) := acell z10 _
        have fa10 : (w1.alloc (.cells #[] 27)).frozen? ⟨w.heap.size + 1, 10, none⟩ = false := bthaw ((Below.refl _ _).alloc (Nat.le_refl _) _) z10 f10
        clear p0 z0 f0 p1 z1 f1 p2 z2 f2 p3 z3 f3 p4 z4 f4 p5 z5 f5 p6 z6 f6 p7 z7 f7 p8 z8 f8 p9 z9 f9 p10 z10 f10
        have B1 : Hid (Below w.heap.size w w1) := BW.out.trans (b1.mono (by simp; omega))
        have hs1 : w.heap.size + 2 ≤ w1.heap.size := by have := b1.size; simp at this; omega
        clear b1 g1 BW TK
        go_wp2
        (try simp only [Exit.inBlock, Exit.then])
        refine bodyPost_ret (v := .tuple #[cvA ⟨mc, ip, po, di, st, un, nx, wa, inn, out, fin⟩, .slice (some ⟨w1.heap.size, 0, none⟩) 0 0, .int .i64 7]) (by simp [results, Try.results35, go_sem, cvA, za0, za1, za2, za3, za4, za5, za6, za7, za8, za9, za10]; try rfl) rfl ?_
        exact ⟨_, rfl, ((((((((((((OwnS.lit w1 (w.heap.size + 2) hs1).far ⟨w.heap.size + 1, 0, none⟩ _ (by simp)).far _ _ (by simp)).far _ _ (by simp)).far _ _ (by simp)).far _ _ (by simp)).far _ _ (by simp)).far _ _ (by simp)).far _ _ (by simp)).far _ _ (by simp)).far _ _ (by simp)).far _ _ (by simp)).lower (by omega), (((((((((((B1.out.alloc B1.out.size _).setCell (p := ⟨w.heap.size + 1, 0, none⟩) (Nat.le_succ _) _).setCell (Nat.le_succ _) _).setCell (Nat.le_succ _) _).setCell (Nat.le_succ _) _).setCell (Nat.le_succ _) _).setCell (Nat.le_succ _) _).setCell (Nat.le_succ _) _).setCell (Nat.le_succ _) _).setCell (Nat.le_succ _) _).setCell (Nat.le_succ _) _).setCell (Nat.le_succ _) _⟩
      · obtain ⟨e1, e2, e3⟩ := sy_ok (c := ⟨mc, ip, po, di, st, un, nx, wa, inn, out, fin⟩) hl hok hst hf
        obtain ⟨p1, p2, p3⟩ := open_says hok hst
        have hn := nuB_bd (okB_says hok).1
        dsimp only at p1 p2 p3 e1 e2 e3 hn
        rw [e1, e2, e3]
        rw [hok] at TK
        have t3 : decide ((300 : Int) < (out.size : Int) + (t.size : Int)) = false := decide_eq_false (by omega)
        have et : out ++ t = t := by rw [p2]; apply ByteArray.ext; simp
        have TS : Hid (∀ w, Calls Try.prog 66 #[.agg #[.string mc, .int .i64 ip, .int .i64 po, .int .i64 di, .int .i64 st, .int .i64 un, .int .i64 nx, .int .i64 wa, .string inn, .string out, .bool fin], .string t] w fun e w' => ∃ v, e = .returned (.tuple #[.agg #[.string mc, .int .i64 ip, .int .i64 po, .int .i64 di, .int .i64 3, .int .i64 un, .int .i64 (sqN (un + (t.size : Int) + 1)), .int .i64 wa, .string inn, .string t, .bool true], v]) ∧ OwnS sgG 7 27 w' w.heap.size v (puL po wa un t true) ∧ Below w.heap.size w w') := fun w => by
          have := l10Say_any mc ip po di st un nx wa inn out fin t w (by omega) (by omega) hn.2.2.2.2.2.1
          rw [et, p1] at this
          rw [p1]
          exact this
        clear e1 e2 e3 hok hst hf p1 p2 p3 hn et
        generalize sqN (un + (t.size : Int) + 1) = NX at TS ⊢
        go_enter Try.func35, Try.ntmps35
        go_wp2_with fail
        refine (TK.out _).mono ?_
        rintro e w1 ⟨rfl, g1⟩
        have b1 := g1.below
        have q0 : w1.cell? ⟨w.heap.size, 0, none⟩ = some (.string mc) := bkeep b1 (by simp [go_sem])
        have p0 : w1.frozen? ⟨w.heap.size, 0, none⟩ = false := bthaw b1 (a := ⟨w.heap.size, 0, none⟩) (v := .string mc) (by simp [go_sem]) (by simp [go_sem])
        have q1 : w1.cell? ⟨w.heap.size, 1, none⟩ = some (.int .i64 ip) := bkeep b1 (by simp [go_sem])
        have p1 : w1.frozen? ⟨w.heap.size, 1, none⟩ = false := bthaw b1 (a := ⟨w.heap.size, 1, none⟩) (v := .int .i64 ip) (by simp [go_sem]) (by simp [go_sem])
        have q2 : w1.cell? ⟨w.heap.size, 2, none⟩ = some (.int .i64 po) := bkeep b1 (by simp [go_sem])
        have p2 : w1.frozen? ⟨w.heap.size, 2, none⟩ = false := bthaw b1 (a := ⟨w.heap.size, 2, none⟩) (v := .int .i64 po) (by simp [go_sem]) (by simp [go_sem])
        have q3 : w1.cell? ⟨w.heap.size, 3, none⟩ = some (.int .i64 di) := bkeep b1 (by simp [go_sem])
        have p3 : w1.frozen? ⟨w.heap.size, 3, none⟩ = false := bthaw b1 (a := ⟨w.heap.size, 3, none⟩) (v := .int .i64 di) (by simp [go_sem]) (by simp [go_sem])
        have q4 : w1.cell? ⟨w.heap.size, 4, none⟩ = some (.int .i64 st) := bkeep b1 (by simp [go_sem])
        have p4 : w1.frozen? ⟨w.heap.size, 4, none⟩ = false := bthaw b1 (a := ⟨w.heap.size, 4, none⟩) (v := .int .i64 st) (by simp [go_sem]) (by simp [go_sem])
        have q5 : w1.cell? ⟨w.heap.size, 5, none⟩ = some (.int .i64 un) := bkeep b1 (by simp [go_sem])
        have p5 : w1.frozen? ⟨w.heap.size, 5, none⟩ = false := bthaw b1 (a := ⟨w.heap.size, 5, none⟩) (v := .int .i64 un) (by simp [go_sem]) (by simp [go_sem])
        have q6 : w1.cell? ⟨w.heap.size, 6, none⟩ = some (.int .i64 nx) := bkeep b1 (by simp [go_sem])
        have p6 : w1.frozen? ⟨w.heap.size, 6, none⟩ = false := bthaw b1 (a := ⟨w.heap.size, 6, none⟩) (v := .int .i64 nx) (by simp [go_sem]) (by simp [go_sem])
        have q7 : w1.cell? ⟨w.heap.size, 7, none⟩ = some (.int .i64 wa) := bkeep b1 (by simp [go_sem])
        have p7 : w1.frozen? ⟨w.heap.size, 7, none⟩ = false := bthaw b1 (a := ⟨w.heap.size, 7, none⟩) (v := .int .i64 wa) (by simp [go_sem]) (by simp [go_sem])
        have q8 : w1.cell? ⟨w.heap.size, 8, none⟩ = some (.string inn) := bkeep b1 (by simp [go_sem])
        have p8 : w1.frozen? ⟨w.heap.size, 8, none⟩ = false := bthaw b1 (a := ⟨w.heap.size, 8, none⟩) (v := .string inn) (by simp [go_sem]) (by simp [go_sem])
        have q9 : w1.cell? ⟨w.heap.size, 9, none⟩ = some (.string out) := bkeep b1 (by simp [go_sem])
        have p9 : w1.frozen? ⟨w.heap.size, 9, none⟩ = false := bthaw b1 (a := ⟨w.heap.size, 9, none⟩) (v := .string out) (by simp [go_sem]) (by simp [go_sem])
        have q10 : w1.cell? ⟨w.heap.size, 10, none⟩ = some (.bool fin) := bkeep b1 (by simp [go_sem])
        have p10 : w1.frozen? ⟨w.heap.size, 10, none⟩ = false := bthaw b1 (a := ⟨w.heap.size, 10, none⟩) (v := .bool fin) (by simp [go_sem]) (by simp [go_sem])
        have z0 : w1.cell? ⟨w.heap.size + 1, 0, none⟩ = some (.string ⟨#[]⟩) := bkeep b1 (by simp [go_sem])
        have f0 : w1.frozen? ⟨w.heap.size + 1, 0, none⟩ = false := bthaw b1 (a := ⟨w.heap.size + 1, 0, none⟩) (v := .string ⟨#[]⟩) (by simp [go_sem]) (by simp [go_sem])
        have z1 : w1.cell? ⟨w.heap.size + 1, 1, none⟩ = some (.int .i64 0) := bkeep b1 (by simp [go_sem])
        have f1 : w1.frozen? ⟨w.heap.size + 1, 1, none⟩ = false := bthaw b1 (a := ⟨w.heap.size + 1, 1, none⟩) (v := .int .i64 0) (by simp [go_sem]) (by simp [go_sem])
        have z2 : w1.cell? ⟨w.heap.size + 1, 2, none⟩ = some (.int .i64 0) := bkeep b1 (by simp [go_sem])
        have f2 : w1.frozen? ⟨w.heap.size + 1, 2, none⟩ = false := bthaw b1 (a := ⟨w.heap.size + 1, 2, none⟩) (v := .int .i64 0) (by simp [go_sem]) (by simp [go_sem])
        have z3 : w1.cell? ⟨w.heap.size + 1, 3, none⟩ = some (.int .i64 0) := bkeep b1 (by simp [go_sem])
        have f3 : w1.frozen? ⟨w.heap.size + 1, 3, none⟩ = false := bthaw b1 (a := ⟨w.heap.size + 1, 3, none⟩) (v := .int .i64 0) (by simp [go_sem]) (by simp [go_sem])
        have z4 : w1.cell? ⟨w.heap.size + 1, 4, none⟩ = some (.int .i64 0) := bkeep b1 (by simp [go_sem])
        have f4 : w1.frozen? ⟨w.heap.size + 1, 4, none⟩ = false := bthaw b1 (a := ⟨w.heap.size + 1, 4, none⟩) (v := .int .i64 0) (by simp [go_sem]) (by simp [go_sem])
        have z5 : w1.cell? ⟨w.heap.size + 1, 5, none⟩ = some (.int .i64 0) := bkeep b1 (by simp [go_sem])
        have f5 : w1.frozen? ⟨w.heap.size + 1, 5, none⟩ = false := bthaw b1 (a := ⟨w.heap.size + 1, 5, none⟩) (v := .int .i64 0) (by simp [go_sem]) (by simp [go_sem])
        have z6 : w1.cell? ⟨w.heap.size + 1, 6, none⟩ = some (.int .i64 0) := bkeep b1 (by simp [go_sem])
        have f6 : w1.frozen? ⟨w.heap.size + 1, 6, none⟩ = false := bthaw b1 (a := ⟨w.heap.size + 1, 6, none⟩) (v := .int .i64 0) (by simp [go_sem]) (by simp [go_sem])
        have z7 : w1.cell? ⟨w.heap.size + 1, 7, none⟩ = some (.int .i64 0) := bkeep b1 (by simp [go_sem])
        have f7 : w1.frozen? ⟨w.heap.size + 1, 7, none⟩ = false := bthaw b1 (a := ⟨w.heap.size + 1, 7, none⟩) (v := .int .i64 0) (by simp [go_sem]) (by simp [go_sem])
        have z8 : w1.cell? ⟨w.heap.size + 1, 8, none⟩ = some (.string ⟨#[]⟩) := bkeep b1 (by simp [go_sem])
        have f8 : w1.frozen? ⟨w.heap.size + 1, 8, none⟩ = false := bthaw b1 (a := ⟨w.heap.size + 1, 8, none⟩) (v := .string ⟨#[]⟩) (by simp [go_sem]) (by simp [go_sem])
        have z9 : w1.cell? ⟨w.heap.size + 1, 9, none⟩ = some (.string ⟨#[]⟩) := bkeep b1 (by simp [go_sem])
        have f9 : w1.frozen? ⟨w.heap.size + 1, 9, none⟩ = false := bthaw b1 (a := ⟨w.heap.size + 1, 9, none⟩) (v := .string ⟨#[]⟩) (by simp [go_sem]) (by simp [go_sem])
        have z10 : w1.cell? ⟨w.heap.size + 1, 10, none⟩ = some (.bool false) := bkeep b1 (by simp [go_sem])
        have f10 : w1.frozen? ⟨w.heap.size + 1, 10, none⟩ = false := bthaw b1 (a := ⟨w.heap.size + 1, 10, none⟩) (v := .bool false) (by simp [go_sem]) (by simp [go_sem])
        have B1 : Hid (Below w.heap.size w w1) := BW.out.trans (b1.mono (by simp; omega))
        have hs1 : w.heap.size + 2 ≤ w1.heap.size := by have := b1.size; simp at this; omega
        clear b1 g1 BW TK p0 p1 p2 p3 p4 p5 p6 p7 p8 p9 p10
        go_wp2_with fail
        refine (TS.out _).mono ?_
        rintro e w2 ⟨v2, rfl, o2, b2⟩
        have y0 : w2.cell? ⟨w.heap.size + 1, 0, none⟩ = some (.string ⟨#[]⟩) := bkeep b2 z0
        have h0 : w2.frozen? ⟨w.heap.size + 1, 0, none⟩ = false := bthaw b2 z0 f0
        have y1 : w2.cell? ⟨w.heap.size + 1, 1, none⟩ = some (.int .i64 0) := bkeep b2 z1
        have h1 : w2.frozen? ⟨w.heap.size + 1, 1, none⟩ = false := bthaw b2 z1 f1
        have y2 : w2.cell? ⟨w.heap.size + 1, 2, none⟩ = some (.int .i64 0) := bkeep b2 z2
        have h2 : w2.frozen? ⟨w.heap.size + 1, 2, none⟩ = false := bthaw b2 z2 f2
        have y3 : w2.cell? ⟨w.heap.size + 1, 3, none⟩ = some (.int .i64 0) := bkeep b2 z3
        have h3 : w2.frozen? ⟨w.heap.size + 1, 3, none⟩ = false := bthaw b2 z3 f3
        have y4 : w2.cell? ⟨w.heap.size + 1, 4, none⟩ = some (.int .i64 0) := bkeep b2 z4
        have h4 : w2.frozen? ⟨w.heap.size + 1, 4, none⟩ = false := bthaw b2 z4 f4
        have y5 : w2.cell? ⟨w.heap.size + 1, 5, none⟩ = some (.int .i64 0) := bkeep b2 z5
        have h5 : w2.frozen? ⟨w.heap.size + 1, 5, none⟩ = false := bthaw b2 z5 f5
        have y6 : w2.cell? ⟨w.heap.size + 1, 6, none⟩ = some (.int .i64 0) := bkeep b2 z6
        have h6 : w2.frozen? ⟨w.heap.size + 1, 6, none⟩ = false := bthaw b2 z6 f6
        have y7 : w2.cell? ⟨w.heap.size + 1, 7, none⟩ = some (.int .i64 0) := bkeep b2 z7
        have h7 : w2.frozen? ⟨w.heap.size + 1, 7, none⟩ = false := bthaw b2 z7 f7
        have y8 : w2.cell? ⟨w.heap.size + 1, 8, none⟩ = some (.string ⟨#[]⟩) := bkeep b2 z8
        have h8 : w2.frozen? ⟨w.heap.size + 1, 8, none⟩ = false := bthaw b2 z8 f8
        have y9 : w2.cell? ⟨w.heap.size + 1, 9, none⟩ = some (.string ⟨#[]⟩) := bkeep b2 z9
        have h9 : w2.frozen? ⟨w.heap.size + 1, 9, none⟩ = false := bthaw b2 z9 f9
        have y10 : w2.cell? ⟨w.heap.size + 1, 10, none⟩ = some (.bool false) := bkeep b2 z10
        have h10 : w2.frozen? ⟨w.heap.size + 1, 10, none⟩ = false := bthaw b2 z10 f10
        have ya0 : (w2.alloc (.cells #[.string mc, .int .i64 ip, .int .i64 po, .int .i64 di, .int .i64 3, .int .i64 un, .int .i64 NX, .int .i64 wa, .string inn, .string t, .bool true] 24)).cell? ⟨w.heap.size + 1, 0, none⟩ = some (.string ⟨#[]⟩) := acell y0 _
        have ha0 : (w2.alloc (.cells #[.string mc, .int .i64 ip, .int .i64 po, .int .i64 di, .int .i64 3, .int .i64 un, .int .i64 NX, .int .i64 wa, .string inn, .string t, .bool true] 24)).frozen? ⟨w.heap.size + 1, 0, none⟩ = false := bthaw ((Below.refl _ _).alloc (Nat.le_refl _) _) y0 h0
        have ya1 : (w2.alloc (.cells #[.string mc, .int .i64 ip, .int .i64 po, .int .i64 di, .int .i64 3, .int .i64 un, .int .i64 NX, .int .i64 wa, .string inn, .string t, .bool true] 24)).cell? ⟨w.heap.size + 1, 1, none⟩ = some (.int .i64 0) := acell y1 _
        have ha1 : (w2.alloc (.cells #[.string mc, .int .i64 ip, .int .i64 po, .int .i64 di, .int .i64 3, .int .i64 un, .int .i64 NX, .int .i64 wa, .string inn, .string t, .bool true] 24)).frozen? ⟨w.heap.size + 1, 1, none⟩ = false := bthaw ((Below.refl _ _).alloc (Nat.le_refl _) _) y1 h1
        have ya2 : (w2.alloc (.cells #[.string mc, .int .i64 ip, .int .i64 po, .int .i64 di, .int .i64 3, .int .i64 un, .int .i64 NX, .int .i64 wa, .string inn, .string t, .bool true] 24)).cell? ⟨w.heap.size + 1, 2, none⟩ = some (.int .i64 0) := acell y2 _
        have ha2 : (w2.alloc (.cells #[.string mc, .int .i64 ip, .int .i64 po, .int .i64 di, .int .i64 3, .int .i64 un, .int .i64 NX, .int .i64 wa, .string inn, .string t, .bool true] 24)).frozen? ⟨w.heap.size + 1, 2, none⟩ = false := bthaw ((Below.refl _ _).alloc (Nat.le_refl _) _) y2 h2
        have ya3 : (w2.alloc (.cells #[.string mc, .int .i64 ip, .int .i64 po, .int .i64 di, .int .i64 3, .int .i64 un, .int .i64 NX, .int .i64 wa, .string inn, .string t, .bool true] 24)).cell? ⟨w.heap.size + 1, 3, none⟩ = some (.int .i64 0) := acell y3 _
        have ha3 : (w2.alloc (.cells #[.string mc, .int .i64 ip, .int .i64 po, .int .i64 di, .int .i64 3, .int .i64 un, .int .i64 NX, .int .i64 wa, .string inn, .string t, .bool true] 24)).frozen? ⟨w.heap.size + 1, 3, none⟩ = false := bthaw ((Below.refl _ _).alloc (Nat.le_refl _) _) y3 h3
        have ya4 : (w2.alloc (.cells #[.string mc, .int .i64 ip, .int .i64 po, .int .i64 di, .int .i64 3, .int .i64 un, .int .i64 NX, .int .i64 wa, .string inn, .string t, .bool true] 24)).cell? ⟨w.heap.size + 1, 4, none⟩ = some (.int .i64 0) := acell y4 _
        have ha4 : (w2.alloc (.cells #[.string mc, .int .i64 ip, .int .i64 po, .int .i64 di, .int .i64 3, .int .i64 un, .int .i64 NX, .int .i64 wa, .string inn, .string t, .bool true] 24)).frozen? ⟨w.heap.size + 1, 4, none⟩ = false := bthaw ((Below.refl _ _).alloc (Nat.le_refl _) _) y4 h4
        have ya5 : (w2.alloc (.cells #[.string mc, .int .i64 ip, .int .i64 po, .int .i64 di, .int .i64 3, .int .i64 un, .int .i64 NX, .int .i64 wa, .string inn, .string t, .bool true] 24)).cell? ⟨w.heap.size + 1, 5, none⟩ = some (.int .i64 0) := acell y5 _
        have ha5 : (w2.alloc (.cells #[.string mc, .int .i64 ip, .int .i64 po, .int .i64 di, .int .i64 3, .int .i64 un, .int .i64 NX, .int .i64 wa, .string inn, .string t, .bool true] 24)).frozen? ⟨w.heap.size + 1, 5, none⟩ = false := bthaw ((Below.refl _ _).alloc (Nat.le_refl _) _) y5 h5
        have ya6 : (w2.alloc (.cells #[.string mc, .int .i64 ip, .int .i64 po, .int .i64 di, .int .i64 3, .int .i64 un, .int .i64 NX, .int .i64 wa, .string inn, .string t, .bool true] 24)).cell? ⟨w.heap.size + 1, 6, none⟩ = some (.int .i64 0) := acell y6 _
        have ha6 : (w2.alloc (.cells #[.string mc, .int .i64 ip, .int .i64 po, .int .i64 di, .int .i64 3, .int .i64 un, .int .i64 NX, .int .i64 wa, .string inn, .string t, .bool true] 24)).frozen? ⟨w.heap.size + 1, 6, none⟩ = false := bthaw ((Below.refl _ _).alloc (Nat.le_refl _) _) y6 h6
        have ya7 : (w2.alloc (.cells #[.string mc, .int .i64 ip, .int .i64 po, .int .i64 di, .int .i64 3, .int .i64 un, .int .i64 NX, .int .i64 wa, .string inn, .string t, .bool true] 24)).cell? ⟨w.heap.size + 1, 7, none⟩ = some (.int .i64 0) := acell y7 _
        have ha7 : (w2.alloc (.cells #[.string mc, .int .i64 ip, .int .i64 po, .int .i64 di, .int .i64 3, .int .i64 un, .int .i64 NX, .int .i64 wa, .string inn, .string t, .bool true] 24)).frozen? ⟨w.heap.size + 1, 7, none⟩ = false := bthaw ((Below.refl _ _).alloc (Nat.le_refl _) _) y7 h7
        have ya8 : (w2.alloc (.cells #[.string mc, .int .i64 ip, .int .i64 po, .int .i64 di, .int .i64 3, .int .i64 un, .int .i64 NX, .int .i64 wa, .string inn, .string t, .bool true] 24)).cell? ⟨w.heap.size + 1, 8, none⟩ = some (.string ⟨#[]⟩) := acell y8 _
        have ha8 : (w2.alloc (.cells #[.string mc, .int .i64 ip, .int .i64 po, .int .i64 di, .int .i64 3, .int .i64 un, .int .i64 NX, .int .i64 wa, .string inn, .string t, .bool true] 24)).frozen? ⟨w.heap.size + 1, 8, none⟩ = false := bthaw ((Below.refl _ _).alloc (Nat.le_refl _) _) y8 h8
        have ya9 : (w2.alloc (.cells #[.string mc, .int .i64 ip, .int .i64 po, .int .i64 di, .int .i64 3, .int .i64 un, .int .i64 NX, .int .i64 wa, .string inn, .string t, .bool true] 24)).cell? ⟨w.heap.size + 1, 9, none⟩ = some (.string ⟨#[]⟩) := acell y9 _
        have ha9 : (w2.alloc (.cells #[.string mc, .int .i64 ip, .int .i64 po, .int .i64 di, .int .i64 3, .int .i64 un, .int .i64 NX, .int .i64 wa, .string inn, .string t, .bool true] 24)).frozen? ⟨w.heap.size + 1, 9, none⟩ = false := bthaw ((Below.refl _ _).alloc (Nat.le_refl _) _) y9 h9
        have ya10 : (w2.alloc (.cells #[.string mc, .int .i64 ip, .int .i64 po, .int .i64 di, .int .i64 3, .int .i64 un, .int .i64 NX, .int .i64 wa, .string inn, .string t, .bool true] 24)).cell? ⟨w.heap.size + 1, 10, none⟩ = some (.bool false) := acell y10 _
        have ha10 : (w2.alloc (.cells #[.string mc, .int .i64 ip, .int .i64 po, .int .i64 di, .int .i64 3, .int .i64 un, .int .i64 NX, .int .i64 wa, .string inn, .string t, .bool true] 24)).frozen? ⟨w.heap.size + 1, 10, none⟩ = false := bthaw ((Below.refl _ _).alloc (Nat.le_refl _) _) y10 h10
        clear y0 h0 y1 h1 y2 h2 y3 h3 y4 h4 y5 h5 y6 h6 y7 h7 y8 h8 y9 h9 y10 h10
        have X2 : Hid (OwnS sgG 7 27 w2 (w.heap.size + 2) v2 (puL po wa un t true) ∧ Below w.heap.size w w2) := ⟨o2.lower hs1, B1.out.trans (b2.mono B1.out.size)⟩
        clear o2 b2 B1 TS q0 z0 f0 q1 z1 f1 q2 z2 f2 q3 z3 f3 q4 z4 f4 q5 z5 f5 q6 z6 f6 q7 z7 f7 q8 z8 f8 q9 z9 f9 q10 z10 f10
        go_wp2
        (try simp only [Exit.inBlock, Exit.then])
        refine bodyPost_ret (v := .tuple #[.agg #[.string mc, .int .i64 ip, .int .i64 po, .int .i64 di, .int .i64 3, .int .i64 un, .int .i64 NX, .int .i64 wa, .string inn, .string t, .bool true], v2, .int .i64 0]) (by simp [results, Try.results35, go_sem, ya0, ya1, ya2, ya3, ya4, ya5, ya6, ya7, ya8, ya9, ya10]; try rfl) rfl ?_
        exact ⟨_, rfl, ((((((((((((X2.out.1.now ((Below.refl _ _).alloc (Nat.le_refl _) _)).far ⟨w.heap.size + 1, 0, none⟩ _ (by simp)).far _ _ (by simp)).far _ _ (by simp)).far _ _ (by simp)).far _ _ (by simp)).far _ _ (by simp)).far _ _ (by simp)).far _ _ (by simp)).far _ _ (by simp)).far _ _ (by simp)).far _ _ (by simp)).lower (by omega), (((((((((((X2.out.2.alloc X2.out.2.size _).setCell (p := ⟨w.heap.size + 1, 0, none⟩) (Nat.le_succ _) _).setCell (Nat.le_succ _) _).setCell (Nat.le_succ _) _).setCell (Nat.le_succ _) _).setCell (Nat.le_succ _) _).setCell (Nat.le_succ _) _).setCell (Nat.le_succ _) _).setCell (Nat.le_succ _) _).setCell (Nat.le_succ _) _).setCell (Nat.le_succ _) _).setCell (Nat.le_succ _) _⟩
end Go.Proofs.Ytmfpoecjiikblaa
