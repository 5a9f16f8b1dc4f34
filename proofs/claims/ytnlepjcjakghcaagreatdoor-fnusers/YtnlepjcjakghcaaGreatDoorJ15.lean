/- Places and rules copied by the laws into rows of one's own. Roles copied by the laws into rows of one's own. Configurations copied by the laws into rows of one's own, and marked. What the laws do with a config, in packed words. What a first login answers, as a kind of values. The source of drawn choices: one byte, and one of 0 to n - 1; whatever is drawn, it lies within its bounds, and nothing but the source's own cells has turned. The source of drawn choices, further: one of 0 to n - 1; a row of drawn bytes. A row of drawn bytes out of a code; one of 0 to n - 1 out of a row of bytes. Drawn numbers, macs, addresses and texts, with what is left of the source. A mac and an address of the lan, from a source of their own. The plain configuration of the model. -/
import Derived.Test.YtnlepjcjakghcaaGreatDoorJ14
import Derived.BigRegion
namespace Go.Proofs.YtnlepjcjakghcaaGreatDoor
open Go.RowKit Go.PlainAid Go.Proofs.YtnlepjcjakghcaaGreatDoor.Bt Go.Sort
set_option linter.unusedVariables false
set_option maxRecDepth 20000
end Go.Proofs.YtnlepjcjakghcaaGreatDoor

namespace Go.Proofs.YtnlepjcjakghcaaGreatDoor
open Go.RowKit Go.PlainAid Go.Proofs.YtnlepjcjakghcaaGreatDoor.Bt Go.Sort
set_option linter.unusedVariables false
set_option maxRecDepth 20000
end Go.Proofs.YtnlepjcjakghcaaGreatDoor

namespace Go.Proofs.YtnlepjcjakghcaaGreatDoor
open Go.RowKit Go.PlainAid Go.Proofs.YtnlepjcjakghcaaGreatDoor.Bt Go.Sort
set_option linter.unusedVariables false
set_option maxRecDepth 20000
end Go.Proofs.YtnlepjcjakghcaaGreatDoor

namespace Go.Proofs.YtnlepjcjakghcaaGreatDoor
open Go.RowKit Go.PlainAid Go.Proofs.YtnlepjcjakghcaaGreatDoor.Bt Go.Sort
set_option linter.unusedVariables false
set_option maxRecDepth 20000

structure CfSz (c : CfV) : Prop where
  gm : c.gm.size ≤ 1048576
  wm : c.wm.size ≤ 1048576
  ps : c.ps.length ≤ 1048576
  ros : c.ros.length ≤ 1048576
  szr : SzR c.ros
  szt : szR c.ros ≤ 1048576
end Go.Proofs.YtnlepjcjakghcaaGreatDoor

namespace Go.Proofs.YtnlepjcjakghcaaGreatDoor
open Go.RowKit Go.PlainAid Go.Proofs.YtnlepjcjakghcaaGreatDoor.Bt Go.Sort
set_option linter.unusedVariables false
set_option maxRecDepth 20000
noncomputable def usG (wd mc : ByteArray) (ip : Int) : HuV := lgG (usH (passS cyS wd 3)) gsR (cyU wd) 0 mc ip 5
/-- The cells of guests of one user, one session, no fails, one record. -/
def usC (R : HuA) : List Value := [.slice R.u 1 R.uc, .slice R.s 1 R.sc, .slice R.f 0 R.fc, .slice R.r 1 R.rc, .int .i64 2]
theorem usC_inj {A A' : HuA} (e : usC A = usC A') : A = A' := by
  cases A; cases A'
  simp only [usC, List.cons.injEq, Value.slice.injEq] at e
  simp_all
theorem us_tup {A A' : HuA} {v : Value} (h : v = .tuple #[.agg (usC A).toArray, .int .i64 1, .int .i64 0]) (h' : v = .tuple #[.agg (usC A').toArray, .int .i64 1, .int .i64 0]) : A = A' := by
  have e := h.symm.trans h'
  injection e with e
  injection e with e
  injection e with e
  exact usC_inj (agg_inj e)
noncomputable def kUs (wd : ByteArray) : Knd where
  own := fun w B v => ∃ (A : HuA) (mc : ByteArray) (ip : Int), v = .tuple #[.agg (usC A).toArray, .int .i64 1, .int .i64 0] ∧ OwnHu w B A (usG wd mc ip)
  bk := fun w v b => ∃ A, v = .tuple #[.agg (usC A).toArray, .int .i64 1, .int .i64 0] ∧ huB A (usG wd ⟨#[]⟩ 0) b
  keep := fun w w' B v ⟨A, mc, ip, hv, o⟩ hk => ⟨⟨A, mc, ip, hv, o.keep (fun b hb => hk b ⟨A, hv, hb⟩)⟩, fun b hb => hb⟩
  lt := fun w B v ⟨A, mc, ip, hv, o⟩ b ⟨A', hv', hb⟩ => by
    cases us_tup hv hv'
    exact o.lt b hb
  lower := fun w B B' v ⟨A, mc, ip, hv, o⟩ hB => ⟨A, mc, ip, hv, Own4.lower o hB⟩
theorem leafUs {wd : ByteArray} {w : World} {B : Nat} {a b c d : Value} (f : (kUs wd).own w B a) (g : b = a ∧ ∃ R, b = .tuple #[.agg (usC R).toArray, .int .i64 1, .int .i64 0]) (e : ∃ R, c = .agg (usC R).toArray ∧ b = .tuple #[c, .int .i64 1, .int .i64 0]) (p : ∃ cs : List Value, c = .agg cs.toArray ∧ Rlw.boxF cs d w) :
    ∃ (R : HuA) (mc : ByteArray) (ip : Int) (n : Nat), d = .pointer (some ⟨n, 0, none⟩) ∧ OwnHu w B R (usG wd mc ip) ∧ Bx w n (usC R) := by
  obtain ⟨R, mc, ip, ha, ho⟩ := f
  obtain ⟨R', hc, hb⟩ := e
  obtain ⟨cs, hcs, n, hn, hx⟩ := p
  have h1 : a = .tuple #[.agg (usC R').toArray, .int .i64 1, .int .i64 0] := by rw [← g.1, hb, hc]
  cases us_tup ha h1
  have e2 : usC R = cs := agg_inj (hc.symm.trans hcs)
  subst e2
  exact ⟨R, mc, ip, n, hn, ho, hx⟩
theorem plC_fok : CfOk plC := by
  refine ⟨?_, ?_⟩
  · intro x hx
    obtain rfl : x = ⟨151587081, 32, 443, 443⟩ := by simpa [plC, plP] using hx
    exact ⟨by decide, by decide⟩
  · intro x hx
    have hx2 : x = ⟨⟨#[103, 117, 101, 115, 116]⟩, plRa, 400, 40, 10⟩ ∨ x = ⟨⟨#[115, 116, 97, 102, 102]⟩, plRb, 100000, 1000, 100⟩ := by simpa [plC, plR] using hx
    rcases hx2 with rfl | rfl
    · exact ⟨by decide, fun y hy => by
        have hy2 : y = ⟨6, 84215296, 24, 0, 65535, false⟩ ∨ y = ⟨0, 0, 0, 80, 443, true⟩ := by simpa [plRa] using hy
        rcases hy2 with rfl | rfl <;> exact ⟨by decide, by decide⟩⟩
    · exact ⟨by decide, fun y hy => by
        obtain rfl : y = ⟨0, 0, 0, 0, 65535, true⟩ := by simpa [plRb] using hy
        exact ⟨by decide, by decide⟩⟩
theorem plC_sz : CfSz plC := by
  refine ⟨by decide, by decide, by decide, by decide, ?_, by decide⟩
  intro r hr
  have hr2 : r = ⟨⟨#[103, 117, 101, 115, 116]⟩, plRa, 400, 40, 10⟩ ∨ r = ⟨⟨#[115, 116, 97, 102, 102]⟩, plRb, 100000, 1000, 100⟩ := by simpa [plC, plR] using hr
  rcases hr2 with rfl | rfl <;> exact ⟨by decide, by decide⟩
theorem usH_fok (ha : ByteArray) (h : ha.size = 32) : HuOk (usH ha) := by
  refine ⟨fun x hx => ?_, (fun x hx => by cases hx), (fun x hx => by cases hx), fun x hx => by cases hx⟩
  obtain rfl : x = usV ha := by simpa [usH] using hx
  exact ⟨by show cyN.size ≤ maxLen; decide, by show cyS.size ≤ maxLen; decide, by show ha.size ≤ maxLen; rw [h]; decide, by show cyR.size ≤ maxLen; decide, by show (Lit.int .i64 70).wf = true; decide, by show (Lit.int .i64 2).wf = true; decide⟩
theorem usH_sz (ha : ByteArray) (h : ha.size = 32) : HuSz (usH ha) := by
  refine ⟨by show 1 ≤ 1048576; omega, by show 0 ≤ 1048576; omega, by show 0 ≤ 1048576; omega, by show 0 ≤ 1048576; omega, ?_, by show (0 : Int) ≤ 1048576; omega, by show (0 : Int) ≤ 1048576; omega⟩
  show szL wtUser [usV ha] ≤ 1048576
  simp only [szL, List.foldr, wtUser]
  show ((cyN.size : Int) + (cyS.size : Int) + (ha.size : Int) + (cyR.size : Int)) + 0 ≤ 1048576
  rw [h]
  decide
theorem usH_hl (ha : ByteArray) : HuL (usH ha) := ⟨by show 1 ≤ 1048576; omega, by show 0 ≤ 1048576; omega, by show 0 ≤ 1048576; omega, by show 0 ≤ 1048576; omega⟩
end Go.Proofs.YtnlepjcjakghcaaGreatDoor

namespace Go.Proofs.YtnlepjcjakghcaaGreatDoor
open Go.RowKit Go.PlainAid
set_option linter.unusedVariables false

/-- Nothing but block q has turned. -/
structure Only (q : Nat) (w w' : World) : Prop where
  os : w'.os = w.os
  tape : w'.tape = w.tape
  output : w'.output = w.output
  size : w'.heap.size = w.heap.size
  block : ∀ b, b ≠ q → w'.heap[b]? = w.heap[b]?
theorem Only.refl (q : Nat) (w : World) : Only q w w := ⟨rfl, rfl, rfl, rfl, fun _ _ => rfl⟩
theorem Only.trans {q : Nat} {a b c : World} (h : Only q a b) (k : Only q b c) : Only q a c :=
  ⟨k.os.trans h.os, k.tape.trans h.tape, k.output.trans h.output, k.size.trans h.size, fun i hi => (k.block i hi).trans (h.block i hi)⟩
theorem Only.setCell {q : Nat} {a b : World} (h : Only q a b) (o : Nat) (v : Value) : Only q a (b.setCell ⟨q, o, none⟩ v) :=
  ⟨h.os, h.tape, h.output, by simp [h.size], fun i hi => by rw [Below.heap_setCell _ _ _ _ (by exact hi)]; exact h.block i hi⟩
theorem Only.cell {q : Nat} {w w' : World} (h : Only q w w') {p : Addr} (hp : p.block ≠ q) : w'.cell? p = w.cell? p := World.cell?_of_block (h.block p.block hp)
theorem Bytes.only {q : Nat} {w w' : World} {a : Option Addr} {len : Nat} {f : Nat → Int} (h : Bytes w a len f) (ho : Only q w w') (hq : ∀ b off, 0 < len → a = some ⟨b, off, none⟩ → b ≠ q) : Bytes w' a len f := by
  refine ⟨h.1, fun h0 => ?_⟩
  obtain ⟨b, off, rfl, hc⟩ := h.2 h0
  exact ⟨b, off, rfl, fun i hi => by rw [ho.cell (p := ⟨b, off + i, none⟩) (hq b off h0 rfl)]; exact hc i hi⟩

/-- The source at block q: its code, how many were drawn, its seed. -/
structure Dsr (w : World) (q : Nat) (a : Option Addr) (len cap : Nat) (f : Nat → Int) (m : Nat) : Prop where
  code : w.cell? ⟨q, 0, none⟩ = some (.slice a len cap)
  at_ : w.cell? ⟨q, 1, none⟩ = some (.int .i64 m)
  seed : ∃ s : Int, 0 ≤ s ∧ s < 2147483648 ∧ w.cell? ⟨q, 2, none⟩ = some (.int .i64 s)
  free : ∀ o, o < 3 → w.frozen? ⟨q, o, none⟩ = false
  bytes : Bytes w a len f
  small : len ≤ 1048576
  apart : ∀ b off, 0 < len → a = some ⟨b, off, none⟩ → b ≠ q

theorem seed1 (s c : Int) (h0 : 0 ≤ s) (h1 : s < 2147483648) (c0 : 0 ≤ c) (c1 : c ≤ 255) : 0 ≤ (s * 31 + c + 7) % 2147483648 ∧ (s * 31 + c + 7) % 2147483648 < 2147483648 := by omega
theorem seed2 (s : Int) (h0 : 0 ≤ s) (h1 : s < 2147483648) : 0 ≤ (s * 1103515245 + 12345) % 2147483648 ∧ (s * 1103515245 + 12345) % 2147483648 < 2147483648 := by omega


/-- What a draw leaves. -/
theorem Dsr.next {w w1 w' : World} {q : Nat} {a : Option Addr} {len cap : Nat} {f : Nat → Int} {m : Nat} (h : Dsr w q a len cap f m) (t : Int) (t0 : 0 ≤ t) (t1 : t < 2147483648)
    (e1 : w1 = w.setCell ⟨q, 1, none⟩ (.int .i64 ((m : Int) + 1))) (e2 : w'.heap = (w1.setCell ⟨q, 2, none⟩ (.int .i64 t)).heap) (o : w'.os = w.os) (tp : w'.tape = w.tape) (ou : w'.output = w.output) :
    Dsr w' q a len cap f (m + 1) ∧ Only q w w' := by
  have eqc : ∀ p, w'.cell? p = (w1.setCell ⟨q, 2, none⟩ (.int .i64 t)).cell? p := fun p => World.cell?_of_block (by rw [e2])
  have eqf : ∀ p, w'.frozen? p = (w1.setCell ⟨q, 2, none⟩ (.int .i64 t)).frozen? p := fun p => World.frozen?_of_block (by rw [e2])
  have hO1 : Only q w (w1.setCell ⟨q, 2, none⟩ (.int .i64 t)) := by subst e1; exact ((Only.refl q w).setCell 1 _).setCell 2 _
  have hO : Only q w w' := ⟨o, tp, ou, by rw [e2]; exact hO1.size, fun b hb => by rw [e2]; exact hO1.block b hb⟩
  obtain ⟨hc, ha, ⟨s, s0, s1, hs⟩, hf, hb, hl, hap⟩ := h
  subst e1
  refine ⟨⟨?_, ?_, ⟨t, t0, t1, ?_⟩, ?_, hb.only hO hap, hl, hap⟩, hO⟩
  · rw [eqc, World.cell?_setCell_other _ _ _ _ (by simp), World.cell?_setCell_other _ _ _ _ (by simp)]; exact hc
  · rw [eqc, World.cell?_setCell_other _ _ _ _ (by simp), World.cell?_setCell_same _ _ _ ha]; simp
  · rw [eqc]; exact World.cell?_setCell_same _ _ _ (by rw [World.cell?_setCell_other _ _ _ _ (by simp)]; exact hs)
  · intro o ho; rw [eqf]; simpa using hf o ho
/-- What a draw leaves that keeps the seed. -/
theorem Dsr.still {w w' : World} {q : Nat} {a : Option Addr} {len cap : Nat} {f : Nat → Int} {m : Nat} (h : Dsr w q a len cap f m)
    (e2 : w'.heap = (w.setCell ⟨q, 1, none⟩ (.int .i64 ((m : Int) + 1))).heap) (o : w'.os = w.os) (tp : w'.tape = w.tape) (ou : w'.output = w.output) :
    Dsr w' q a len cap f (m + 1) ∧ Only q w w' := by
  have eqc : ∀ p, w'.cell? p = (w.setCell ⟨q, 1, none⟩ (.int .i64 ((m : Int) + 1))).cell? p := fun p => World.cell?_of_block (by rw [e2])
  have eqf : ∀ p, w'.frozen? p = (w.setCell ⟨q, 1, none⟩ (.int .i64 ((m : Int) + 1))).frozen? p := fun p => World.frozen?_of_block (by rw [e2])
  have hO1 : Only q w (w.setCell ⟨q, 1, none⟩ (.int .i64 ((m : Int) + 1))) := (Only.refl q w).setCell 1 _
  have hO : Only q w w' := ⟨o, tp, ou, by rw [e2]; exact hO1.size, fun b hb => by rw [e2]; exact hO1.block b hb⟩
  obtain ⟨hc, ha, ⟨s, s0, s1, hs⟩, hf, hb, hl, hap⟩ := h
  refine ⟨⟨?_, ?_, ⟨s, s0, s1, ?_⟩, ?_, hb.only hO hap, hl, hap⟩, hO⟩
  · rw [eqc, World.cell?_setCell_other _ _ _ _ (by simp)]; exact hc
  · rw [eqc, World.cell?_setCell_same _ _ _ ha]; simp
  · rw [eqc, World.cell?_setCell_other _ _ _ _ (by simp)]; exact hs
  · intro o ho; rw [eqf]; simpa using hf o ho

set_option maxHeartbeats 1000000 in
set_option maxRecDepth 100000 in
theorem byte_any (w : World) (q : Nat) (a : Option Addr) (len cap : Nat) (f : Nat → Int) (m : Nat) (h : Dsr w q a len cap f m) (hm : m ≤ 1000000000) :
    Calls Tryz.prog 55 #[.pointer (some ⟨q, 0, none⟩)] w fun e w' => ∃ v : Int, e = .returned (.int .i64 v) ∧ 0 ≤ v ∧ v ≤ 255 ∧ Dsr w' q a len cap f (m + 1) ∧ Only q w w' := by
  have HH : Hid (Dsr w q a len cap f m) := h
  obtain ⟨hc, ha, ⟨s, s0, s1, hs⟩, hf, hb, hl, hap⟩ := h
  have f1 := hf 1 (by omega)
  have f2 := hf 2 (by omega)
  have HB : Hid (Bytes w a len f) := hb
  have HF : Hid (∀ o, o < 3 → w.frozen? ⟨q, o, none⟩ = false) := hf
  have HP : Hid (∀ b off, 0 < len → a = some ⟨b, off, none⟩ → b ≠ q) := hap
  clear hb hf hap
  have c0 : (w.setCell ⟨q, 1, none⟩ (.int .i64 ((m : Int) + 1))).cell? ⟨q, 0, none⟩ = some (.slice a len cap) := by rw [World.cell?_setCell_other _ _ _ _ (by simp)]; exact hc
  have c1 : (w.setCell ⟨q, 1, none⟩ (.int .i64 ((m : Int) + 1))).cell? ⟨q, 1, none⟩ = some (.int .i64 ((m : Int) + 1)) := World.cell?_setCell_same _ _ _ ha
  have c2 : (w.setCell ⟨q, 1, none⟩ (.int .i64 ((m : Int) + 1))).cell? ⟨q, 2, none⟩ = some (.int .i64 s) := by rw [World.cell?_setCell_other _ _ _ _ (by simp)]; exact hs
  have O1 : Hid (Only q w (w.setCell ⟨q, 1, none⟩ (.int .i64 ((m : Int) + 1)))) := (Only.refl q w).setCell 1 _
  by_cases hle : m + 1 ≤ len
  · go_enter Tryz.func55, Tryz.ntmps55
    go_wp2
    go_quiet (fail)
    go_wp2
    obtain ⟨b, off, rfl, hcode⟩ := HB.out.2 (by omega)
    have hne := HP.out b off (by omega) rfl
    have cm : (w.setCell ⟨q, 1, none⟩ (.int .i64 ((m : Int) + 1))).cell? ⟨b, off + m, none⟩ = some (.int .u8 (f m)) := by rw [O1.out.cell (p := ⟨b, off + m, none⟩) hne]; exact hcode m (by omega)
    have g2 : (w.setCell ⟨q, 1, none⟩ (.int .i64 ((m : Int) + 1))).frozen? ⟨q, 2, none⟩ = false := by simpa using f2
    have fm := HB.out.1 m
    clear hcode
    obtain ⟨W, hW⟩ : ∃ W, W = (w.setCell ⟨q, 1, none⟩ (.int .i64 ((m : Int) + 1))) := ⟨_, rfl⟩
    rw [← hW] at c0 c1 c2 O1 cm g2 ⊢
    have HW : Hid (W = (w.setCell ⟨q, 1, none⟩ (.int .i64 ((m : Int) + 1)))) := hW
    clear hW hc ha hs f1 f2
    have i0 : (0 : Int) ≤ (m : Int) := by omega
    have i1 : (m : Int) < (len : Int) := by omega
    go_region
    go_wp2
    go_quiet (fail)
    go_wp2
    go_ret
    have hse := seed1 s (f m) s0 s1 fm.1 fm.2
    exact ⟨f m, rfl, fm.1, fm.2, HH.out.next _ hse.1 hse.2 HW.out rfl O1.out.os O1.out.tape O1.out.output⟩
  · by_cases h3 : (3000 : Int) < (m : Int) + 1
    · go_enter Tryz.func55, Tryz.ntmps55
      go_wp2
      go_quiet (fail)
      go_wp2
      go_ret
      exact ⟨0, rfl, by omega, by omega, HH.out.still rfl rfl rfl rfl⟩
    · go_enter Tryz.func55, Tryz.ntmps55
      go_wp2
      go_quiet (fail)
      go_wp2
      go_ret
      have hse := seed2 s s0 s1
      refine ⟨(s * 1103515245 + 12345) % 2147483648 / 65536 % 256, rfl, by omega, by omega, ?_⟩
      exact HH.out.next _ hse.1 hse.2 rfl rfl rfl rfl rfl
end Go.Proofs.YtnlepjcjakghcaaGreatDoor

namespace Go.Proofs.YtnlepjcjakghcaaGreatDoor
open Go.RowKit Go.PlainAid
set_option linter.unusedVariables false
set_option maxRecDepth 20000

theorem Dsr.grown {w w' : World} {q : Nat} {a : Option Addr} {len cap : Nat} {f : Nat → Int} {m : Nat} {row : Option Nat} (h : Dsr w q a len cap f m) (hg : w.grownBy w' row) (hq : some q ≠ row)
    (hcb : ∀ b off, 0 < len → a = some ⟨b, off, none⟩ → some b ≠ row) : Dsr w' q a len cap f m := by
  obtain ⟨hc, ha, ⟨s, s0, s1, hs⟩, hf, hb, hl, hap⟩ := h
  have lt : q < w.heap.size := World.block_lt_of_cell? w _ hc
  have ec : ∀ o, w'.cell? ⟨q, o, none⟩ = w.cell? ⟨q, o, none⟩ := fun o => World.cell?_of_block (hg.block q lt hq)
  have ef : ∀ o, w'.frozen? ⟨q, o, none⟩ = w.frozen? ⟨q, o, none⟩ := fun o => World.frozen?_of_block (hg.block q lt hq)
  refine ⟨by rw [ec]; exact hc, by rw [ec]; exact ha, ⟨s, s0, s1, by rw [ec]; exact hs⟩, fun o ho => by rw [ef]; exact hf o ho, ⟨hb.1, fun h0 => ?_⟩, hl, hap⟩
  obtain ⟨b, off, rfl, hcc⟩ := hb.2 h0
  have lb : b < w.heap.size := by simpa using World.block_lt_of_cell? w _ (hcc 0 h0)
  exact ⟨b, off, rfl, fun i hi => by rw [World.cell?_of_block (w := w) (hg.block b lb (hcb b off h0 rfl))]; exact hcc i hi⟩
theorem Only.grownBy {q : Nat} {w w' : World} (h : Only q w w') : w.grownBy w' (some q) := ⟨h.os, h.tape, h.output, Nat.le_of_eq h.size.symm, fun k _ hk => h.block k (fun e => hk (by rw [e]))⟩
theorem grown_trans {w w1 w2 : World} {r : Option Nat} (h : w.grownBy w1 r) (k : w1.grownBy w2 r) : w.grownBy w2 r :=
  ⟨k.os.trans h.os, k.tape.trans h.tape, k.output.trans h.output, Nat.le_trans h.size k.size, fun i hi hr => (k.block i (Nat.lt_of_lt_of_le hi h.size) hr).trans (h.block i hi hr)⟩
/-- Behind a change of a block that is newer than w. -/
theorem grown_newer {w w1 w2 : World} {r r' : Option Nat} (h : w.grownBy w1 r) (k : w1.grownBy w2 r') (hn : ∀ b, r' = some b → w.heap.size ≤ b) : w.grownBy w2 r :=
  ⟨k.os.trans h.os, k.tape.trans h.tape, k.output.trans h.output, Nat.le_trans h.size k.size, fun i hi hr => (k.block i (Nat.lt_of_lt_of_le hi h.size) (fun e => by have := hn i e.symm; omega)).trans (h.block i hi hr)⟩
theorem grown_alloc {w w1 : World} {r : Option Nat} (h : w.grownBy w1 r) (o : Obj) : w.grownBy (w1.alloc o) r := grown_trans h (World.grownBy_alloc w1 o r)

set_option maxHeartbeats 1000000 in
theorem next_any (w : World) (q : Nat) (a : Option Addr) (len cap : Nat) (f : Nat → Int) (m : Nat) (n : Int) (h : Dsr w q a len cap f m) (hm : m ≤ 999999990) (hn : 1 ≤ n) (hn2 : n ≤ 1000000000) :
    Calls Tryz.prog 32 #[.pointer (some ⟨q, 0, none⟩), .int .i64 n] w fun e w' => ∃ (v : Int) (m' : Nat), e = .returned (.int .i64 v) ∧ 0 ≤ v ∧ v < n ∧ m' ≤ m + 3 ∧ Dsr w' q a len cap f m' ∧ Only q w w' := by
  have HH : Hid (Dsr w q a len cap f m) := h
  clear h
  by_cases h1 : n ≤ 1
  · go_enter Tryz.func32, Tryz.ntmps32
    go_wp2
    go_ret
    exact ⟨0, m, rfl, by omega, by omega, by omega, HH.out, Only.refl _ _⟩
  by_cases h2 : n ≤ 256
  · go_enter Tryz.func32, Tryz.ntmps32
    go_wp2_with fail
    refine (byte_any w q a len cap f m HH.out (by omega)).mono ?_
    rintro e w1 ⟨v, rfl, v0, v1, hs, ho⟩
    have X : Hid (Dsr w1 q a len cap f (m + 1) ∧ Only q w w1) := ⟨hs, ho⟩
    clear hs ho
    have r0 : 0 ≤ v % n := Int.emod_nonneg _ (by omega)
    have r1 : v % n < n := Int.emod_lt_of_pos _ (by omega)
    go_wp2
    go_ret
    exact ⟨v % n, m + 1, rfl, r0, r1, by omega, X.out.1, X.out.2⟩
  · go_enter Tryz.func32, Tryz.ntmps32
    go_wp2_with fail
    refine (byte_any w q a len cap f m HH.out (by omega)).mono ?_
    rintro e w1 ⟨v, rfl, v0, v1, hs, ho⟩
    have X : Hid (Dsr w1 q a len cap f (m + 1) ∧ Only q w w1) := ⟨hs, ho⟩
    clear hs ho
    go_wp2_with fail
    refine (byte_any w1 q a len cap f (m + 1) X.out.1 (by omega)).mono ?_
    rintro e w2 ⟨v', rfl, v0', v1', hs, ho⟩
    have X2 : Hid (Dsr w2 q a len cap f (m + 1 + 1) ∧ Only q w1 w2) := ⟨hs, ho⟩
    clear hs ho
    go_wp2_with fail
    refine (byte_any w2 q a len cap f (m + 1 + 1) X2.out.1 (by omega)).mono ?_
    rintro e w3 ⟨v'', rfl, v0'', v1'', hs, ho⟩
    have X3 : Hid (Dsr w3 q a len cap f (m + 1 + 1 + 1) ∧ Only q w2 w3) := ⟨hs, ho⟩
    clear hs ho
    have r0 : 0 ≤ (v * 65536 + v' * 256 + v'') % n := Int.emod_nonneg _ (by omega)
    have r1 : (v * 65536 + v' * 256 + v'') % n < n := Int.emod_lt_of_pos _ (by omega)
    go_wp2
    go_ret
    exact ⟨(v * 65536 + v' * 256 + v'') % n, m + 1 + 1 + 1, rfl, r0, r1, by omega, X3.out.1, (X.out.2.trans X2.out.2).trans X3.out.2⟩

/-- The values of a drawn row. -/
def AllB (L : List Int) : Prop := ∀ x ∈ L, 0 ≤ x ∧ x ≤ 255
theorem AllB.snoc {L : List Int} {x : Int} (h : AllB L) (h0 : 0 ≤ x) (h1 : x ≤ 255) : AllB (L ++ [x]) := by
  intro y hy
  rcases List.mem_append.1 hy with h' | h'
  · exact h y h'
  · simp at h'; subst h'; exact ⟨h0, h1⟩

set_option maxHeartbeats 1000000 in
theorem bytes_any (w : World) (q : Nat) (a : Option Addr) (len cap : Nat) (f : Nat → Int) (m : Nat) (n : Int) (h : Dsr w q a len cap f m) (hm : m ≤ 500000000) (hn : 0 ≤ n) (hn2 : n ≤ 100000000) :
    Calls Tryz.prog 13 #[.pointer (some ⟨q, 0, none⟩), .int .i64 n] w fun e w' => ∃ (g c : Nat) (L : List Int) (m' : Nat), e = .returned (.slice (some ⟨g, 0, none⟩) L.length c) ∧ OwnL 5 w' w.heap.size (.slice (some ⟨g, 0, none⟩) L.length c) L ∧ AllB L ∧ (L.length : Int) ≤ n ∧ m' ≤ m + 3 + 3 * L.length ∧ Dsr w' q a len cap f m' ∧ w.grownBy w' (some q) := by
  obtain ⟨i0, hi, hz0, hz1, hz2⟩ := info_parts Tryz.infoB
  have lq : q < w.heap.size := World.block_lt_of_cell? w _ h.code
  have hcb : Hid (∀ b off, 0 < len → a = some ⟨b, off, none⟩ → b < w.heap.size) := by
    intro b off h0 e
    obtain ⟨b', off', e', hcc⟩ := h.bytes.2 h0
    rw [e] at e'
    cases e'
    simpa using World.block_lt_of_cell? w _ (hcc 0 h0)
  have HH : Hid (Dsr w q a len cap f m) := h
  clear h
  go_enter Tryz.func13, Tryz.ntmps13
  go_wp2_with fail
  refine (next_any _ q a len cap f m (n + 1) (HH.out.grown (World.grownBy_alloc w _ none) (by simp) (by simp)) (by omega) (by omega) (by omega)).mono ?_
  rintro e w1 ⟨c, m1, rfl, c0, c1, hm1, hs, ho⟩
  have X : Hid (Dsr w1 q a len cap f m1 ∧ OwnL 5 w1 w.heap.size (.slice (some ⟨w.heap.size, 0, none⟩) 0 0) [] ∧ w.grownBy w1 (some q)) :=
    ⟨hs, World.ownsRow.kept (World.ownsRow_made w #[] 0 (Nat.le_refl _) (Nat.zero_le _) rfl) ho.grownBy (.inr (by simp [Value.ownBlock]; omega)), grown_trans (World.grownBy_alloc w _ _) ho.grownBy⟩
  clear hs ho
  obtain ⟨C, rfl⟩ := Int.eq_ofNat_of_zero_le c0
  go_wp2
  go_loopw [5, 6] (fun v i wr => ∃ (g c : Nat) (L : List Int) (r mm : Nat), v = .slice (some ⟨g, 0, none⟩) L.length c ∧ i = .int .i64 r ∧ L.length + r = C ∧ OwnL 5 wr w.heap.size v L ∧ AllB L ∧ mm ≤ m + 3 + 3 * L.length ∧ Dsr wr q a len cap f mm ∧ w.grownBy wr (some q)) (fun _ i _ => (intOf i).toNat)
  case atStart => exact ⟨w.heap.size, 0, [], C, m1, rfl, rfl, by simp, X.out.2.1, (fun x hx => absurd hx (by simp)), (by simp; omega), X.out.1, X.out.2.2⟩
  case round =>
    obtain ⟨g, c, L, r, mm, rfl, rfl, hLr, hown, hall, hmm, hs, hg⟩ := hrel
    have Y : Hid (OwnL 5 wr w.heap.size (.slice (some ⟨g, 0, none⟩) L.length c) L ∧ AllB L ∧ Dsr wr q a len cap f mm ∧ w.grownBy wr (some q)) := ⟨hown, hall, hs, hg⟩
    have HL : Hid (L.length + r = C) := hLr
    have hL1 : L.length + r ≤ C := by omega
    have hL2 : L.length ≤ 100000001 := by omega
    clear hown hall hs hg hLr
    by_cases hr : 0 < r
    · go_wp2_with fail
      refine (next_any wr q a len cap f mm 256 Y.out.2.2.1 (by omega) (by omega) (by omega)).mono ?_
      rintro e w2 ⟨x, m2, rfl, x0, x1, hm2, hs2, ho2⟩
      have Z : Hid (Dsr w2 q a len cap f m2 ∧ OwnL 5 w2 w.heap.size (.slice (some ⟨g, 0, none⟩) L.length c) L ∧ w.grownBy w2 (some q)) :=
        ⟨hs2, World.ownsRow.kept Y.out.1 ho2.grownBy (.inr (fun e => by have := (World.ownsRow.lt Y.out.1 q e).1; omega)), grown_trans Y.out.2.2.2 ho2.grownBy⟩
      clear hs2 ho2
      have hz2 := Z.out.2.2.size
      go_wp2_with (at_builtin; refine wpList_append_lies _ rfl _ _ 22 rfl w.heap.size 5 i0 (.int .u8 0) 1 1 Tryz.underlying22 hi hz0 hz1 (by assumption) rfl (by decide) (.slice (some ⟨g, 0, none⟩) L.length c) L.length (L.map (.int .u8)) rfl (World.ownsRow.alloc Z.out.2.1 _) ⟨_, 0, none⟩ 1 1 [.int .u8 x] rfl rfl (cell_one_new _ _ _) (by simp [Value.oneCell']) (by omega) (by unfold maxLen; omega) (by omega) (by simp; omega) _ rfl ?_; intro g1 cap1 w3 hown3 hgrow3 hat3 hlt3)
      have hnew : ∀ b, Value.ownBlock (.slice (some ⟨g, 0, none⟩) L.length c) = some b → w.heap.size ≤ b := fun b hb => (World.ownsRow.lt Z.out.2.1 b hb).1
      have V : Hid (OwnL 5 w3 w.heap.size (.slice (some ⟨g1, 0, none⟩) (L.length + 1) cap1) (L ++ [x]) ∧ AllB (L ++ [x]) ∧ Dsr w3 q a len cap f m2 ∧ w.grownBy w3 (some q)) :=
        ⟨OwnL.snoc hown3, Y.out.2.1.snoc x0 (by omega), (Z.out.1.grown (World.grownBy_alloc w2 _ none) (by simp) (by simp)).grown hgrow3 (fun e => by have := hnew q e.symm; omega) (fun b off h0 e e' => by have := hnew b e'.symm; have := hcb.out b off h0 e; omega), grown_newer (grown_alloc Z.out.2.2 _) hgrow3 hnew⟩
      clear hown3 hgrow3 hat3 hlt3 hnew
      go_wp2
      go_roundw
      case rel => exact ⟨g1, cap1, L ++ [x], r - 1, m2, by simp, by go_num, by have := HL.out; simp; omega, (by have := V.out.1; simpa using this), V.out.2.1, by simp; omega, V.out.2.2.1, V.out.2.2.2⟩
      case measure => simp [intOf]; omega
    · go_wp2
      go_ret
      exact ⟨g, c, L, mm, rfl, Y.out.1, Y.out.2.1, by omega, hmm, Y.out.2.2.1, Y.out.2.2.2⟩
end Go.Proofs.YtnlepjcjakghcaaGreatDoor

namespace Go.Proofs.YtnlepjcjakghcaaGreatDoor
open Go.RowKit Go.PlainAid
set_option linter.unusedVariables false
set_option maxRecDepth 20000

theorem l00Source_any (w : World) (a : Option Addr) (len cap : Nat) (f : Nat → Int) (h : Bytes w a len f) (hl : len ≤ 1048576) (hlt : ∀ b off, 0 < len → a = some ⟨b, off, none⟩ → b < w.heap.size) :
    Calls Tryz.prog 12 #[.slice a len cap] w fun e w' => e = .returned (.pointer (some ⟨w.heap.size, 0, none⟩)) ∧ Dsr w' w.heap.size a len cap f 0 ∧ w.grownBy w' none ∧ w'.heap.size = w.heap.size + 1 := by
  have HB : Hid (Bytes w a len f) := h
  have HL : Hid (∀ b off, 0 < len → a = some ⟨b, off, none⟩ → b < w.heap.size) := hlt
  clear h hlt
  go_enter Tryz.func12, Tryz.ntmps12
  go_wp2
  go_ret
  refine ⟨rfl, ⟨by simp, by simp, ⟨(len : Int) % 1000, by omega, by omega, by simp⟩, fun o _ => by simp, HB.out.below (B := w.heap.size) ((Below.refl _ _).alloc (Nat.le_refl _) _) HL.out, hl, fun b off h0 e => by have := HL.out b off h0 e; omega⟩, World.grownBy_alloc w _ none, by simp⟩

theorem BytesOf_any (w : World) (a : Option Addr) (len cap : Nat) (f : Nat → Int) (n : Int) (h : Bytes w a len f) (hl : len ≤ 1048576) (hlt : ∀ b off, 0 < len → a = some ⟨b, off, none⟩ → b < w.heap.size) (hn : 0 ≤ n) (hn2 : n ≤ 1000000) :
    Calls Tryz.prog 4 #[.slice a len cap, .int .i64 n] w fun e w' => ∃ (g c : Nat) (L : List Int), e = .returned (.slice (some ⟨g, 0, none⟩) L.length c) ∧ OwnL 5 w' w.heap.size (.slice (some ⟨g, 0, none⟩) L.length c) L ∧ AllB L ∧ (L.length : Int) ≤ n ∧ Below w.heap.size w w' := by
  have HB : Hid (Bytes w a len f) := h
  have HL : Hid (∀ b off, 0 < len → a = some ⟨b, off, none⟩ → b < w.heap.size) := hlt
  clear h hlt
  go_enter Tryz.func4, Tryz.ntmps4
  go_wp2_with fail
  refine (l00Source_any w a len cap f HB.out hl HL.out).mono ?_
  rintro e w1 ⟨rfl, hs, hg, hz⟩
  have X : Hid (Dsr w1 w.heap.size a len cap f 0 ∧ w.grownBy w1 none ∧ w1.heap.size = w.heap.size + 1) := ⟨hs, hg, hz⟩
  clear hs hg hz
  go_wp2_with fail
  refine (bytes_any w1 w.heap.size a len cap f 0 n X.out.1 (by omega) hn (by omega)).mono ?_
  rintro e w2 ⟨g, c, L, m', rfl, hown, hall, hlen, hm', hs2, hg2⟩
  have Y : Hid (OwnL 5 w2 w1.heap.size (.slice (some ⟨g, 0, none⟩) L.length c) L ∧ AllB L ∧ w1.grownBy w2 (some w.heap.size)) := ⟨hown, hall, hg2⟩
  clear hown hall hs2 hg2
  go_wp2
  go_ret
  have hz := X.out.2.2
  have hB : Below w.heap.size w w2 := ((Below.refl w.heap.size w).grown X.out.2.1 (Nat.le_refl _) (by simp)).grown Y.out.2.2 (by omega) (by intro k hk; cases hk; exact Nat.le_refl _)
  refine ⟨g, c, L, rfl, ⟨Y.out.1.1, ?_⟩, Y.out.2.1, hlen, hB⟩
  rcases Y.out.1.2 with hn | ⟨g', cap, cur, h1, h2, rest⟩
  · exact .inl hn
  · exact .inr ⟨g', cap, cur, h1, by omega, rest⟩

end Go.Proofs.YtnlepjcjakghcaaGreatDoor

namespace Go.Proofs.YtnlepjcjakghcaaGreatDoor
open Go.RowKit Go.PlainAid
set_option linter.unusedVariables false
set_option maxRecDepth 20000

/-- The source behind a draw, and all else as it was. -/
def Drawn (w w' : World) (q : Nat) (a : Option Addr) (len cap : Nat) (f : Nat → Int) (m : Nat) : Prop := (∃ m', m' ≤ m + 3 ∧ Dsr w' q a len cap f m') ∧ w.grownBy w' (some q)

set_option maxHeartbeats 1000000 in
theorem macD (w : World) (q : Nat) (a : Option Addr) (len cap : Nat) (f : Nat → Int) (m : Nat) (h : Dsr w q a len cap f m) (hm : m ≤ 999999990) :
    Calls Tryz.prog 30 #[.pointer (some ⟨q, 0, none⟩)] w fun e w' => ∃ s : ByteArray, e = .returned (.string s) ∧ s.size = 6 ∧ Hid (Drawn w w' q a len cap f m) := by
  have HH : Hid (Dsr w q a len cap f m) := h
  clear h
  go_enter Tryz.func30, Tryz.ntmps30
  go_wp2_with fail
  refine (next_any _ q a len cap f m 3 HH.out hm (by omega) (by omega)).mono ?_
  rintro e w1 ⟨v, m', rfl, v0, v1, hm', hs, ho⟩
  have lq : q < w1.heap.size := World.block_lt_of_cell? w1 _ hs.code
  have G : Hid (Dsr w1 q a len cap f m' ∧ w.grownBy w1 (some q)) := ⟨hs, ho.grownBy⟩
  clear hs ho
  have HC := conv_one (w1.alloc (.cells #[.int .u8 (1 + v)] 5)) w1.heap.size (1 + v) (by omega) (by omega) (by simp)
  have hadd : ∀ wx : World, (Op.stringOp .add ⟨#[2, 0, 0, 0, 0]⟩ (strOfNums [1 + v])).run Tryz.prog wx = .ok (.string (⟨#[2, 0, 0, 0, 0]⟩ ++ strOfNums [1 + v])) wx := fun wx => run_string_add_sum (P := Tryz.prog) (w := wx) _ _ (by
    rw [strOfNums_size]
    show 5 + 1 ≤ 9223372036854775807
    omega)
  go_wp2
  go_ret
  exact ⟨_, rfl, by rw [ByteArray.size_append, strOfNums_size]; rfl, ⟨m', hm', G.out.1.grown (World.grownBy_alloc w1 _ none) (by simp) (by simp)⟩, grown_alloc G.out.2 _⟩

end Go.Proofs.YtnlepjcjakghcaaGreatDoor

namespace Go.Proofs.YtnlepjcjakghcaaGreatDoor
open Go.RowKit Go.PlainAid
set_option linter.unusedVariables false
set_option maxRecDepth 20000
set_option maxHeartbeats 1000000 in
theorem lanE (w : World) (q : Nat) (a : Option Addr) (len cap : Nat) (f : Nat → Int) (m : Nat) (h : Dsr w q a len cap f m) (hm : m ≤ 999999990) :
    Calls Tryz.prog 31 #[.pointer (some ⟨q, 0, none⟩)] w fun e w' => ∃ v : Int, e = .returned (.int .i64 v) ∧ 167772162 ≤ v ∧ v ≤ 167772164 ∧ Hid (Drawn w w' q a len cap f m) := by
  have HH : Hid (Dsr w q a len cap f m) := h
  clear h
  go_enter Tryz.func31, Tryz.ntmps31
  go_wp2_with fail
  refine (next_any _ q a len cap f m 3 HH.out hm (by omega) (by omega)).mono ?_
  rintro e w1 ⟨v, m', rfl, v0, v1, hm', hs, ho⟩
  have G : Hid (Dsr w1 q a len cap f m' ∧ w.grownBy w1 (some q)) := ⟨hs, ho.grownBy⟩
  clear hs ho
  go_wp2
  go_ret
  exact ⟨_, rfl, by omega, by omega, ⟨m', hm', G.out.1⟩, G.out.2⟩

theorem MacOf_any (w : World) (a : Option Addr) (len cap : Nat) (f : Nat → Int) (h : Bytes w a len f) (hl : len ≤ 1048576) (hlt : ∀ b off, 0 < len → a = some ⟨b, off, none⟩ → b < w.heap.size) :
    Calls Tryz.prog 10 #[.slice a len cap] w fun e w' => ∃ s : ByteArray, e = .returned (.string s) ∧ s.size = 6 ∧ Below w.heap.size w w' := by
  have HB : Hid (Bytes w a len f) := h
  have HL : Hid (∀ b off, 0 < len → a = some ⟨b, off, none⟩ → b < w.heap.size) := hlt
  clear h hlt
  go_enter Tryz.func10, Tryz.ntmps10
  go_wp2_with fail
  refine (l00Source_any w a len cap f HB.out hl HL.out).mono ?_
  rintro e w1 ⟨rfl, hs, hg, hz⟩
  have X : Hid (Dsr w1 w.heap.size a len cap f 0 ∧ w.grownBy w1 none ∧ w1.heap.size = w.heap.size + 1) := ⟨hs, hg, hz⟩
  clear hs hg hz
  go_wp2_with fail
  refine (macD w1 w.heap.size a len cap f 0 X.out.1 (by omega)).mono ?_
  rintro e w2 ⟨s, rfl, h6, D⟩
  have B2 : Hid (Below w.heap.size w w2) := ((Below.refl w.heap.size w).grown X.out.2.1 (Nat.le_refl _) (by simp)).grown D.out.2 (by have := X.out.2.2; omega) (by intro k hk; cases hk; exact Nat.le_refl _)
  clear D
  go_wp2
  go_ret
  exact ⟨s, rfl, h6, B2.out⟩
theorem LanOf_any (w : World) (a : Option Addr) (len cap : Nat) (f : Nat → Int) (h : Bytes w a len f) (hl : len ≤ 1048576) (hlt : ∀ b off, 0 < len → a = some ⟨b, off, none⟩ → b < w.heap.size) :
    Calls Tryz.prog 11 #[.slice a len cap] w fun e w' => ∃ v : Int, e = .returned (.int .i64 v) ∧ 167772162 ≤ v ∧ v ≤ 167772164 ∧ Below w.heap.size w w' := by
  have HB : Hid (Bytes w a len f) := h
  have HL : Hid (∀ b off, 0 < len → a = some ⟨b, off, none⟩ → b < w.heap.size) := hlt
  clear h hlt
  go_enter Tryz.func11, Tryz.ntmps11
  go_wp2_with fail
  refine (l00Source_any w a len cap f HB.out hl HL.out).mono ?_
  rintro e w1 ⟨rfl, hs, hg, hz⟩
  have X : Hid (Dsr w1 w.heap.size a len cap f 0 ∧ w.grownBy w1 none ∧ w1.heap.size = w.heap.size + 1) := ⟨hs, hg, hz⟩
  clear hs hg hz
  go_wp2_with fail
  refine (lanE w1 w.heap.size a len cap f 0 X.out.1 (by omega)).mono ?_
  rintro e w2 ⟨v, rfl, h1, h2, D⟩
  have B2 : Hid (Below w.heap.size w w2) := ((Below.refl w.heap.size w).grown X.out.2.1 (Nat.le_refl _) (by simp)).grown D.out.2 (by have := X.out.2.2; omega) (by intro k hk; cases hk; exact Nat.le_refl _)
  clear D
  go_wp2
  go_ret
  exact ⟨v, rfl, h1, h2, B2.out⟩
end Go.Proofs.YtnlepjcjakghcaaGreatDoor

namespace Go.Proofs.YtnlepjcjakghcaaGreatDoor
open Go.RowKit Go.PlainAid Go.Proofs.YtnlepjcjakghcaaGreatDoor.Bt Go.Sort
set_option linter.unusedVariables false
set_option maxRecDepth 20000
theorem cfB_lit {p r a b : Nat} {k : Nat} (h : cfB ⟨some ⟨p, 0, none⟩, some ⟨r, 0, none⟩, 1, 2⟩ plC (plX a b) k) : k = p ∨ k = r ∨ k = a ∨ k = b := by
  rcases h with h | h
  · exact .inl (Option.some.inj h).symm
  · rcases h with h | h
    · exact .inr (.inl (Option.some.inj h).symm)
    · obtain ⟨x, hx, h⟩ := h
      have hx2 : x = ⟨⟨⟨#[103, 117, 101, 115, 116]⟩, plRa, 400, 40, 10⟩, some ⟨a, 0, none⟩, 2⟩ ∨ x = ⟨⟨⟨#[115, 116, 97, 102, 102]⟩, plRb, 100000, 1000, 100⟩, some ⟨b, 0, none⟩, 1⟩ := by simpa [plX] using hx
      rcases hx2 with rfl | rfl
      · exact .inr (.inr (.inl (Option.some.inj h).symm))
      · exact .inr (.inr (.inr (Option.some.inj h).symm))
set_option maxHeartbeats 4000000 in
theorem l07Plain_any (w : World) :
    Calls Tryz.prog 20 #[] w fun e w' => ∃ (C : CfA) (X : List RoX), e = .returned (.agg #[.int .i64 167772160, .int .i64 24, .int .i64 167772161, .string ⟨#[2, 0, 0, 0, 0, 0]⟩, .string ⟨#[2, 0, 0, 0, 0, 255]⟩, .int .i64 16843009, .slice C.x 1 C.xc, .slice C.y 2 C.yc]) ∧ OwnCf w' w.heap.size C plC X ∧ Below w.heap.size w w' := by
  have B0 : Below w.heap.size w ((((((w.alloc (.cells #[.int .i64 0, .int .i64 0, .int .i64 0, .string ⟨#[]⟩, .string ⟨#[]⟩, .int .i64 0, .slice none 0 0, .slice none 0 0] 35)).alloc (.cells #[.int .i64 0, .int .i64 65535] 80)).alloc (.cells #[.int .i64 151587081, .int .i64 32, .int .i64 443, .int .i64 443] 82)).alloc (.cells #[.int .i64 6, .int .i64 84215296, .int .i64 24, .int .i64 0, .int .i64 65535, .bool false, .int .i64 0, .int .i64 0, .int .i64 0, .int .i64 80, .int .i64 443, .bool true] 84)).alloc (.cells #[.int .i64 0, .int .i64 0, .int .i64 0, .int .i64 0, .int .i64 65535, .bool true] 84)).alloc (.cells #[.string ⟨#[103, 117, 101, 115, 116]⟩, .slice (some ⟨w.heap.size + 1 + 1 + 1, 0, none⟩) 2 2, .int .i64 400, .int .i64 40, .int .i64 10, .string ⟨#[115, 116, 97, 102, 102]⟩, .slice (some ⟨w.heap.size + 1 + 1 + 1 + 1, 0, none⟩) 1 1, .int .i64 100000, .int .i64 1000, .int .i64 100] 87)) := (((((((Below.refl _ _).alloc (Nat.le_refl _) _).alloc (by simp) _).alloc (by simp <;> omega) _).alloc (by simp <;> omega) _).alloc (by simp <;> omega) _).alloc (by simp <;> omega) _)
  have R0 : Bx ((((((w.alloc (.cells #[.int .i64 0, .int .i64 0, .int .i64 0, .string ⟨#[]⟩, .string ⟨#[]⟩, .int .i64 0, .slice none 0 0, .slice none 0 0] 35)).alloc (.cells #[.int .i64 0, .int .i64 65535] 80)).alloc (.cells #[.int .i64 151587081, .int .i64 32, .int .i64 443, .int .i64 443] 82)).alloc (.cells #[.int .i64 6, .int .i64 84215296, .int .i64 24, .int .i64 0, .int .i64 65535, .bool false, .int .i64 0, .int .i64 0, .int .i64 0, .int .i64 80, .int .i64 443, .bool true] 84)).alloc (.cells #[.int .i64 0, .int .i64 0, .int .i64 0, .int .i64 0, .int .i64 65535, .bool true] 84)).alloc (.cells #[.string ⟨#[103, 117, 101, 115, 116]⟩, .slice (some ⟨w.heap.size + 1 + 1 + 1, 0, none⟩) 2 2, .int .i64 400, .int .i64 40, .int .i64 10, .string ⟨#[115, 116, 97, 102, 102]⟩, .slice (some ⟨w.heap.size + 1 + 1 + 1 + 1, 0, none⟩) 1 1, .int .i64 100000, .int .i64 1000, .int .i64 100] 87)) w.heap.size [.int .i64 0, .int .i64 0, .int .i64 0, .string ⟨#[]⟩, .string ⟨#[]⟩, .int .i64 0, .slice none 0 0, .slice none 0 0] := ((((((Bx.new w #[.int .i64 0, .int .i64 0, .int .i64 0, .string ⟨#[]⟩, .string ⟨#[]⟩, .int .i64 0, .slice none 0 0, .slice none 0 0] 35).below ((Below.refl _ _).alloc (Nat.le_refl _) _)).below ((Below.refl _ _).alloc (Nat.le_refl _) _)).below ((Below.refl _ _).alloc (Nat.le_refl _) _)).below ((Below.refl _ _).alloc (Nat.le_refl _) _)).below ((Below.refl _ _).alloc (Nat.le_refl _) _))
  have P0 : OwnS pv 4 82 ((((((w.alloc (.cells #[.int .i64 0, .int .i64 0, .int .i64 0, .string ⟨#[]⟩, .string ⟨#[]⟩, .int .i64 0, .slice none 0 0, .slice none 0 0] 35)).alloc (.cells #[.int .i64 0, .int .i64 65535] 80)).alloc (.cells #[.int .i64 151587081, .int .i64 32, .int .i64 443, .int .i64 443] 82)).alloc (.cells #[.int .i64 6, .int .i64 84215296, .int .i64 24, .int .i64 0, .int .i64 65535, .bool false, .int .i64 0, .int .i64 0, .int .i64 0, .int .i64 80, .int .i64 443, .bool true] 84)).alloc (.cells #[.int .i64 0, .int .i64 0, .int .i64 0, .int .i64 0, .int .i64 65535, .bool true] 84)).alloc (.cells #[.string ⟨#[103, 117, 101, 115, 116]⟩, .slice (some ⟨w.heap.size + 1 + 1 + 1, 0, none⟩) 2 2, .int .i64 400, .int .i64 40, .int .i64 10, .string ⟨#[115, 116, 97, 102, 102]⟩, .slice (some ⟨w.heap.size + 1 + 1 + 1 + 1, 0, none⟩) 1 1, .int .i64 100000, .int .i64 1000, .int .i64 100] 87)) w.heap.size (.slice (some ⟨w.heap.size + 1 + 1, 0, none⟩) 1 1) plP := by
    have h : OwnS pv 4 82 (((w.alloc (.cells #[.int .i64 0, .int .i64 0, .int .i64 0, .string ⟨#[]⟩, .string ⟨#[]⟩, .int .i64 0, .slice none 0 0, .slice none 0 0] 35)).alloc (.cells #[.int .i64 0, .int .i64 65535] 80)).alloc (.cells #[.int .i64 151587081, .int .i64 32, .int .i64 443, .int .i64 443] 82)) w.heap.size (.slice (some ⟨((w.alloc (.cells #[.int .i64 0, .int .i64 0, .int .i64 0, .string ⟨#[]⟩, .string ⟨#[]⟩, .int .i64 0, .slice none 0 0, .slice none 0 0] 35)).alloc (.cells #[.int .i64 0, .int .i64 65535] 80)).heap.size, 0, none⟩) 1 1) plP := World.ownsRow_lit ((w.alloc (.cells #[.int .i64 0, .int .i64 0, .int .i64 0, .string ⟨#[]⟩, .string ⟨#[]⟩, .int .i64 0, .slice none 0 0, .slice none 0 0] 35)).alloc (.cells #[.int .i64 0, .int .i64 65535] 80)) #[.int .i64 151587081, .int .i64 32, .int .i64 443, .int .i64 443] 1 (by simp; omega) (by unfold maxLen; omega) rfl
    rw [World.size_alloc, World.size_alloc] at h
    exact (((h.now ((Below.refl _ _).alloc (Nat.le_refl _) _)).now ((Below.refl _ _).alloc (Nat.le_refl _) _)).now ((Below.refl _ _).alloc (Nat.le_refl _) _))
  have A0 : OwnS rv 6 84 ((((((w.alloc (.cells #[.int .i64 0, .int .i64 0, .int .i64 0, .string ⟨#[]⟩, .string ⟨#[]⟩, .int .i64 0, .slice none 0 0, .slice none 0 0] 35)).alloc (.cells #[.int .i64 0, .int .i64 65535] 80)).alloc (.cells #[.int .i64 151587081, .int .i64 32, .int .i64 443, .int .i64 443] 82)).alloc (.cells #[.int .i64 6, .int .i64 84215296, .int .i64 24, .int .i64 0, .int .i64 65535, .bool false, .int .i64 0, .int .i64 0, .int .i64 0, .int .i64 80, .int .i64 443, .bool true] 84)).alloc (.cells #[.int .i64 0, .int .i64 0, .int .i64 0, .int .i64 0, .int .i64 65535, .bool true] 84)).alloc (.cells #[.string ⟨#[103, 117, 101, 115, 116]⟩, .slice (some ⟨w.heap.size + 1 + 1 + 1, 0, none⟩) 2 2, .int .i64 400, .int .i64 40, .int .i64 10, .string ⟨#[115, 116, 97, 102, 102]⟩, .slice (some ⟨w.heap.size + 1 + 1 + 1 + 1, 0, none⟩) 1 1, .int .i64 100000, .int .i64 1000, .int .i64 100] 87)) w.heap.size (.slice (some ⟨w.heap.size + 1 + 1 + 1, 0, none⟩) 2 2) plRa := by
    have h : OwnS rv 6 84 ((((w.alloc (.cells #[.int .i64 0, .int .i64 0, .int .i64 0, .string ⟨#[]⟩, .string ⟨#[]⟩, .int .i64 0, .slice none 0 0, .slice none 0 0] 35)).alloc (.cells #[.int .i64 0, .int .i64 65535] 80)).alloc (.cells #[.int .i64 151587081, .int .i64 32, .int .i64 443, .int .i64 443] 82)).alloc (.cells #[.int .i64 6, .int .i64 84215296, .int .i64 24, .int .i64 0, .int .i64 65535, .bool false, .int .i64 0, .int .i64 0, .int .i64 0, .int .i64 80, .int .i64 443, .bool true] 84)) w.heap.size (.slice (some ⟨(((w.alloc (.cells #[.int .i64 0, .int .i64 0, .int .i64 0, .string ⟨#[]⟩, .string ⟨#[]⟩, .int .i64 0, .slice none 0 0, .slice none 0 0] 35)).alloc (.cells #[.int .i64 0, .int .i64 65535] 80)).alloc (.cells #[.int .i64 151587081, .int .i64 32, .int .i64 443, .int .i64 443] 82)).heap.size, 0, none⟩) 2 2) plRa := World.ownsRow_lit (((w.alloc (.cells #[.int .i64 0, .int .i64 0, .int .i64 0, .string ⟨#[]⟩, .string ⟨#[]⟩, .int .i64 0, .slice none 0 0, .slice none 0 0] 35)).alloc (.cells #[.int .i64 0, .int .i64 65535] 80)).alloc (.cells #[.int .i64 151587081, .int .i64 32, .int .i64 443, .int .i64 443] 82)) #[.int .i64 6, .int .i64 84215296, .int .i64 24, .int .i64 0, .int .i64 65535, .bool false, .int .i64 0, .int .i64 0, .int .i64 0, .int .i64 80, .int .i64 443, .bool true] 2 (by simp; omega) (by unfold maxLen; omega) rfl
    rw [World.size_alloc, World.size_alloc, World.size_alloc] at h
    exact ((h.now ((Below.refl _ _).alloc (Nat.le_refl _) _)).now ((Below.refl _ _).alloc (Nat.le_refl _) _))
  have A1 : OwnS rv 6 84 ((((((w.alloc (.cells #[.int .i64 0, .int .i64 0, .int .i64 0, .string ⟨#[]⟩, .string ⟨#[]⟩, .int .i64 0, .slice none 0 0, .slice none 0 0] 35)).alloc (.cells #[.int .i64 0, .int .i64 65535] 80)).alloc (.cells #[.int .i64 151587081, .int .i64 32, .int .i64 443, .int .i64 443] 82)).alloc (.cells #[.int .i64 6, .int .i64 84215296, .int .i64 24, .int .i64 0, .int .i64 65535, .bool false, .int .i64 0, .int .i64 0, .int .i64 0, .int .i64 80, .int .i64 443, .bool true] 84)).alloc (.cells #[.int .i64 0, .int .i64 0, .int .i64 0, .int .i64 0, .int .i64 65535, .bool true] 84)).alloc (.cells #[.string ⟨#[103, 117, 101, 115, 116]⟩, .slice (some ⟨w.heap.size + 1 + 1 + 1, 0, none⟩) 2 2, .int .i64 400, .int .i64 40, .int .i64 10, .string ⟨#[115, 116, 97, 102, 102]⟩, .slice (some ⟨w.heap.size + 1 + 1 + 1 + 1, 0, none⟩) 1 1, .int .i64 100000, .int .i64 1000, .int .i64 100] 87)) w.heap.size (.slice (some ⟨w.heap.size + 1 + 1 + 1 + 1, 0, none⟩) 1 1) plRb := by
    have h : OwnS rv 6 84 (((((w.alloc (.cells #[.int .i64 0, .int .i64 0, .int .i64 0, .string ⟨#[]⟩, .string ⟨#[]⟩, .int .i64 0, .slice none 0 0, .slice none 0 0] 35)).alloc (.cells #[.int .i64 0, .int .i64 65535] 80)).alloc (.cells #[.int .i64 151587081, .int .i64 32, .int .i64 443, .int .i64 443] 82)).alloc (.cells #[.int .i64 6, .int .i64 84215296, .int .i64 24, .int .i64 0, .int .i64 65535, .bool false, .int .i64 0, .int .i64 0, .int .i64 0, .int .i64 80, .int .i64 443, .bool true] 84)).alloc (.cells #[.int .i64 0, .int .i64 0, .int .i64 0, .int .i64 0, .int .i64 65535, .bool true] 84)) w.heap.size (.slice (some ⟨((((w.alloc (.cells #[.int .i64 0, .int .i64 0, .int .i64 0, .string ⟨#[]⟩, .string ⟨#[]⟩, .int .i64 0, .slice none 0 0, .slice none 0 0] 35)).alloc (.cells #[.int .i64 0, .int .i64 65535] 80)).alloc (.cells #[.int .i64 151587081, .int .i64 32, .int .i64 443, .int .i64 443] 82)).alloc (.cells #[.int .i64 6, .int .i64 84215296, .int .i64 24, .int .i64 0, .int .i64 65535, .bool false, .int .i64 0, .int .i64 0, .int .i64 0, .int .i64 80, .int .i64 443, .bool true] 84)).heap.size, 0, none⟩) 1 1) plRb := World.ownsRow_lit ((((w.alloc (.cells #[.int .i64 0, .int .i64 0, .int .i64 0, .string ⟨#[]⟩, .string ⟨#[]⟩, .int .i64 0, .slice none 0 0, .slice none 0 0] 35)).alloc (.cells #[.int .i64 0, .int .i64 65535] 80)).alloc (.cells #[.int .i64 151587081, .int .i64 32, .int .i64 443, .int .i64 443] 82)).alloc (.cells #[.int .i64 6, .int .i64 84215296, .int .i64 24, .int .i64 0, .int .i64 65535, .bool false, .int .i64 0, .int .i64 0, .int .i64 0, .int .i64 80, .int .i64 443, .bool true] 84)) #[.int .i64 0, .int .i64 0, .int .i64 0, .int .i64 0, .int .i64 65535, .bool true] 1 (by simp; omega) (by unfold maxLen; omega) rfl
    rw [World.size_alloc, World.size_alloc, World.size_alloc, World.size_alloc] at h
    exact (h.now ((Below.refl _ _).alloc (Nat.le_refl _) _))
  have O0 : OwnS roG 5 87 ((((((w.alloc (.cells #[.int .i64 0, .int .i64 0, .int .i64 0, .string ⟨#[]⟩, .string ⟨#[]⟩, .int .i64 0, .slice none 0 0, .slice none 0 0] 35)).alloc (.cells #[.int .i64 0, .int .i64 65535] 80)).alloc (.cells #[.int .i64 151587081, .int .i64 32, .int .i64 443, .int .i64 443] 82)).alloc (.cells #[.int .i64 6, .int .i64 84215296, .int .i64 24, .int .i64 0, .int .i64 65535, .bool false, .int .i64 0, .int .i64 0, .int .i64 0, .int .i64 80, .int .i64 443, .bool true] 84)).alloc (.cells #[.int .i64 0, .int .i64 0, .int .i64 0, .int .i64 0, .int .i64 65535, .bool true] 84)).alloc (.cells #[.string ⟨#[103, 117, 101, 115, 116]⟩, .slice (some ⟨w.heap.size + 1 + 1 + 1, 0, none⟩) 2 2, .int .i64 400, .int .i64 40, .int .i64 10, .string ⟨#[115, 116, 97, 102, 102]⟩, .slice (some ⟨w.heap.size + 1 + 1 + 1 + 1, 0, none⟩) 1 1, .int .i64 100000, .int .i64 1000, .int .i64 100] 87)) w.heap.size (.slice (some ⟨w.heap.size + 1 + 1 + 1 + 1 + 1, 0, none⟩) 2 2) (plX (w.heap.size + 1 + 1 + 1) (w.heap.size + 1 + 1 + 1 + 1)) := by
    have h : OwnS roG 5 87 ((((((w.alloc (.cells #[.int .i64 0, .int .i64 0, .int .i64 0, .string ⟨#[]⟩, .string ⟨#[]⟩, .int .i64 0, .slice none 0 0, .slice none 0 0] 35)).alloc (.cells #[.int .i64 0, .int .i64 65535] 80)).alloc (.cells #[.int .i64 151587081, .int .i64 32, .int .i64 443, .int .i64 443] 82)).alloc (.cells #[.int .i64 6, .int .i64 84215296, .int .i64 24, .int .i64 0, .int .i64 65535, .bool false, .int .i64 0, .int .i64 0, .int .i64 0, .int .i64 80, .int .i64 443, .bool true] 84)).alloc (.cells #[.int .i64 0, .int .i64 0, .int .i64 0, .int .i64 0, .int .i64 65535, .bool true] 84)).alloc (.cells #[.string ⟨#[103, 117, 101, 115, 116]⟩, .slice (some ⟨w.heap.size + 1 + 1 + 1, 0, none⟩) 2 2, .int .i64 400, .int .i64 40, .int .i64 10, .string ⟨#[115, 116, 97, 102, 102]⟩, .slice (some ⟨w.heap.size + 1 + 1 + 1 + 1, 0, none⟩) 1 1, .int .i64 100000, .int .i64 1000, .int .i64 100] 87)) w.heap.size (.slice (some ⟨(((((w.alloc (.cells #[.int .i64 0, .int .i64 0, .int .i64 0, .string ⟨#[]⟩, .string ⟨#[]⟩, .int .i64 0, .slice none 0 0, .slice none 0 0] 35)).alloc (.cells #[.int .i64 0, .int .i64 65535] 80)).alloc (.cells #[.int .i64 151587081, .int .i64 32, .int .i64 443, .int .i64 443] 82)).alloc (.cells #[.int .i64 6, .int .i64 84215296, .int .i64 24, .int .i64 0, .int .i64 65535, .bool false, .int .i64 0, .int .i64 0, .int .i64 0, .int .i64 80, .int .i64 443, .bool true] 84)).alloc (.cells #[.int .i64 0, .int .i64 0, .int .i64 0, .int .i64 0, .int .i64 65535, .bool true] 84)).heap.size, 0, none⟩) 2 2) (plX (w.heap.size + 1 + 1 + 1) (w.heap.size + 1 + 1 + 1 + 1)) := World.ownsRow_lit (((((w.alloc (.cells #[.int .i64 0, .int .i64 0, .int .i64 0, .string ⟨#[]⟩, .string ⟨#[]⟩, .int .i64 0, .slice none 0 0, .slice none 0 0] 35)).alloc (.cells #[.int .i64 0, .int .i64 65535] 80)).alloc (.cells #[.int .i64 151587081, .int .i64 32, .int .i64 443, .int .i64 443] 82)).alloc (.cells #[.int .i64 6, .int .i64 84215296, .int .i64 24, .int .i64 0, .int .i64 65535, .bool false, .int .i64 0, .int .i64 0, .int .i64 0, .int .i64 80, .int .i64 443, .bool true] 84)).alloc (.cells #[.int .i64 0, .int .i64 0, .int .i64 0, .int .i64 0, .int .i64 65535, .bool true] 84)) #[.string ⟨#[103, 117, 101, 115, 116]⟩, .slice (some ⟨w.heap.size + 1 + 1 + 1, 0, none⟩) 2 2, .int .i64 400, .int .i64 40, .int .i64 10, .string ⟨#[115, 116, 97, 102, 102]⟩, .slice (some ⟨w.heap.size + 1 + 1 + 1 + 1, 0, none⟩) 1 1, .int .i64 100000, .int .i64 1000, .int .i64 100] 2 (by simp; omega) (by unfold maxLen; omega) rfl
    rw [World.size_alloc, World.size_alloc, World.size_alloc, World.size_alloc, World.size_alloc] at h
    exact h
  have C0 : Hid (OwnCf ((((((w.alloc (.cells #[.int .i64 0, .int .i64 0, .int .i64 0, .string ⟨#[]⟩, .string ⟨#[]⟩, .int .i64 0, .slice none 0 0, .slice none 0 0] 35)).alloc (.cells #[.int .i64 0, .int .i64 65535] 80)).alloc (.cells #[.int .i64 151587081, .int .i64 32, .int .i64 443, .int .i64 443] 82)).alloc (.cells #[.int .i64 6, .int .i64 84215296, .int .i64 24, .int .i64 0, .int .i64 65535, .bool false, .int .i64 0, .int .i64 0, .int .i64 0, .int .i64 80, .int .i64 443, .bool true] 84)).alloc (.cells #[.int .i64 0, .int .i64 0, .int .i64 0, .int .i64 0, .int .i64 65535, .bool true] 84)).alloc (.cells #[.string ⟨#[103, 117, 101, 115, 116]⟩, .slice (some ⟨w.heap.size + 1 + 1 + 1, 0, none⟩) 2 2, .int .i64 400, .int .i64 40, .int .i64 10, .string ⟨#[115, 116, 97, 102, 102]⟩, .slice (some ⟨w.heap.size + 1 + 1 + 1 + 1, 0, none⟩) 1 1, .int .i64 100000, .int .i64 1000, .int .i64 100] 87)) w.heap.size ⟨some ⟨w.heap.size + 1 + 1, 0, none⟩, some ⟨w.heap.size + 1 + 1 + 1 + 1 + 1, 0, none⟩, 1, 2⟩ plC (plX (w.heap.size + 1 + 1 + 1) (w.heap.size + 1 + 1 + 1 + 1))) := by
    refine ⟨rfl, P0, O0, ?_, ?_⟩
    · intro x hx
      have hx2 : x = ⟨⟨⟨#[103, 117, 101, 115, 116]⟩, plRa, 400, 40, 10⟩, some ⟨w.heap.size + 1 + 1 + 1, 0, none⟩, 2⟩ ∨ x = ⟨⟨⟨#[115, 116, 97, 102, 102]⟩, plRb, 100000, 1000, 100⟩, some ⟨w.heap.size + 1 + 1 + 1 + 1, 0, none⟩, 1⟩ := by simpa [plX] using hx
      rcases hx2 with rfl | rfl
      · exact A0
      · exact A1
    · unfold plX
      refine List.Pairwise.cons ?_ (List.Pairwise.cons (fun y hy => by cases hy) List.Pairwise.nil)
      intro y hy
      rw [List.mem_singleton] at hy
      subst hy
      intro k h1 h2
      have e1 : w.heap.size + 1 + 1 + 1 = k := Option.some.inj h1
      have e2 : w.heap.size + 1 + 1 + 1 + 1 = k := Option.some.inj h2
      omega
  clear P0 A0 A1 O0
  go_enter Tryz.func20, Tryz.ntmps20
  go_wp2_with (first | (refine wpl_putT 35 rfl _ _ rfl (w.heap.size) _ rfl rfl R0 rfl rfl rfl ?_; intro W5 hw5 R5; have B5 : Hid (Below w.heap.size w W5) := (by rw [hw5]; exact below_cells (Nat.le_refl _) _ _ _ B0); have O5 : Hid (OwnCf W5 w.heap.size ⟨some ⟨w.heap.size + 1 + 1, 0, none⟩, some ⟨w.heap.size + 1 + 1 + 1 + 1 + 1, 0, none⟩, 1, 2⟩ plC (plX (w.heap.size + 1 + 1 + 1) (w.heap.size + 1 + 1 + 1 + 1))) := (by rw [hw5]; exact C0.out.keep (fun b hb => (heap_cellsA _ _ _).2 b (by rcases cfB_lit hb with h | h | h | h <;> omega))); clear hw5) | fail)
  refine bodyPost_ret (v := .agg #[.int .i64 167772160, .int .i64 24, .int .i64 167772161, .string ⟨#[2, 0, 0, 0, 0, 0]⟩, .string ⟨#[2, 0, 0, 0, 0, 255]⟩, .int .i64 16843009, .slice (some ⟨w.heap.size + 1 + 1, 0, none⟩) 1 1, .slice (some ⟨w.heap.size + 1 + 1 + 1 + 1 + 1, 0, none⟩) 2 2]) (results_cell Tryz.results20 (w.heap.size) rfl R5 _ Tryz.underlying35 rfl rfl) rfl ?_
  exact ⟨⟨some ⟨w.heap.size + 1 + 1, 0, none⟩, some ⟨w.heap.size + 1 + 1 + 1 + 1 + 1, 0, none⟩, 1, 2⟩, rfl, ⟨_, O5.out⟩, B5.out⟩
end Go.Proofs.YtnlepjcjakghcaaGreatDoor
