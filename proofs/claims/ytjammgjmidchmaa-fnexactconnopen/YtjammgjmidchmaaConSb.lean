/- ConnSay of the model, at every argument. -/
import Derived.Test.YtjammgjmidchmaaConSa
namespace Go.Proofs.Ytjammgjmidchmaa
open Go.RowKit Go.PlainAid Go.Proofs.Ytjammgjmidchmaa.Bt Go.Sort
set_option linter.unusedVariables false
set_option maxRecDepth 20000

def cvA (u : ConnV) : Value := .agg #[.string u.mc, .int .i64 u.ip, .int .i64 u.po, .int .i64 u.di, .int .i64 u.st, .int .i64 u.un, .int .i64 u.nx, .int .i64 u.wa, .string u.inn, .string u.out, .bool u.fin]
def cnZ : ConnV := ⟨⟨#[]⟩, 0, 0, 0, 0, 0, 0, 0, ⟨#[]⟩, ⟨#[]⟩, false⟩
/-- What ConnSay answers. -/
def syC (c : ConnV) (t : ByteArray) : Int := if 65536 < t.size then 2 else if okB c = true then (if c.st = 2 then (if 300 < c.out.size + t.size then 7 else 0) else 12) else 1
def syV (c : ConnV) (t : ByteArray) : ConnV := if syC c t = 0 then ⟨c.mc, c.ip, c.po, c.di, 3, c.un, sqN (c.un + (t.size : Int) + 1), c.wa, c.inn, t, true⟩ else if syC c t = 2 ∨ syC c t = 1 then cnZ else c
def syL (c : ConnV) (t : ByteArray) : List SegV := if syC c t = 0 then puL c.po c.wa c.un t true else []
theorem sy_long {c : ConnV} {t : ByteArray} (h : 65536 < t.size) : syC c t = 2 ∧ syV c t = cnZ ∧ syL c t = [] := by
  have e : syC c t = 2 := by unfold syC; rw [if_pos h]
  exact ⟨e, by unfold syV; rw [e]; rfl, by unfold syL; rw [e]; rfl⟩
theorem sy_bad {c : ConnV} {t : ByteArray} (h : ¬ 65536 < t.size) (hb : okB c = false) : syC c t = 1 ∧ syV c t = cnZ ∧ syL c t = [] := by
  have e : syC c t = 1 := by unfold syC; rw [if_neg h, if_neg (by simp [hb])]
  exact ⟨e, by unfold syV; rw [e]; rfl, by unfold syL; rw [e]; rfl⟩
theorem sy_state {c : ConnV} {t : ByteArray} (h : ¬ 65536 < t.size) (hb : okB c = true) (hs : c.st ≠ 2) : syC c t = 12 ∧ syV c t = c ∧ syL c t = [] := by
  have e : syC c t = 12 := by unfold syC; rw [if_neg h, if_pos hb, if_neg hs]
  exact ⟨e, by unfold syV; rw [e]; rfl, by unfold syL; rw [e]; rfl⟩
theorem sy_full {c : ConnV} {t : ByteArray} (h : ¬ 65536 < t.size) (hb : okB c = true) (hs : c.st = 2) (hf : 300 < c.out.size + t.size) : syC c t = 7 ∧ syV c t = c ∧ syL c t = [] := by
  have e : syC c t = 7 := by unfold syC; rw [if_neg h, if_pos hb, if_pos hs, if_pos hf]
  exact ⟨e, by unfold syV; rw [e]; rfl, by unfold syL; rw [e]; rfl⟩
theorem sy_ok {c : ConnV} {t : ByteArray} (h : ¬ 65536 < t.size) (hb : okB c = true) (hs : c.st = 2) (hf : ¬ 300 < c.out.size + t.size) : syC c t = 0 ∧ syV c t = ⟨c.mc, c.ip, c.po, c.di, 3, c.un, sqN (c.un + (t.size : Int) + 1), c.wa, c.inn, t, true⟩ ∧ syL c t = puL c.po c.wa c.un t true := by
  have e : syC c t = 0 := by unfold syC; rw [if_neg h, if_pos hb, if_pos hs, if_neg hf]
  exact ⟨e, by unfold syV; rw [e]; rfl, by unfold syL; rw [e]; rfl⟩
/-- An open connection: all was acknowledged. -/
theorem open_says {c : ConnV} (hb : okB c = true) (hs : c.st = 2) : c.nx = c.un ∧ c.out = ⟨#[]⟩ ∧ c.fin = false := by
  have hx := txB_bd (okB_says hb).2
  have hn := nuB_bd (okB_says hb).1
  have hf : c.fin = false := by
    cases h : c.fin with
    | false => rfl
    | true => have := hx.2.2.2.2.1.1 h; omega
  have ho := hx.2.2.2.2.2 hf
  have h3 : sqN (c.nx - c.un) = sentN c := by
    unfold okB at hb
    simp only [Bool.and_eq_true, beq_iff_eq] at hb
    exact hb.2
  have hz : sentN c = 0 := by
    unfold sentN
    rw [ho, hf, hs]
    decide
  refine ⟨?_, ?_, hf⟩
  · rw [hz] at h3
    unfold sqN at h3
    omega
  · apply ByteArray.ext
    exact Array.eq_empty_of_size_eq_zero ho
theorem size_set (w : World) (a : Addr) (u : Value) : (w.setCell a u).heap.size = w.heap.size := by simp [World.setCell]
theorem lit_at {w : World} {B g : Nat} (hB : B ≤ g) (hg : g = w.heap.size) : OwnS sgG 7 27 (w.alloc (.cells #[] 27)) B (.slice (some ⟨g, 0, none⟩) 0 0) [] := by
  subst hg
  exact OwnS.lit w B hB

end Go.Proofs.Ytjammgjmidchmaa
