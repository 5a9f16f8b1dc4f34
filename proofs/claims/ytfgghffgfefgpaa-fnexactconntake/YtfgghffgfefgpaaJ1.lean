/- ConnAgain of both sides. ConnSay of the model. ConnSay of the model, at every argument. ConnSay of the program. Right segments of both sides; the law of ConnOK. ConnTake: what it answers; smaller functions of the program. ConnTake: how a greeting is answered, what is acknowledged. Boxes of one's own: a struct in a block, read and written whole. ConnTake: what is acknowledged (the program). ConnTake: what is acknowledged, both sides. ConnTake: l10Take of the model, way by way. -/
import Derived.Test.YtfgghffgfefgpaaJ0
import Derived.Laws.Concat
import Derived.Deep.MidRow
namespace Go.Proofs.Ytfgghffgfefgpaa
open Go.RowKit Go.PlainAid Go.Proofs.Ytfgghffgfefgpaa.Bt Go.Sort
set_option linter.unusedVariables false
set_option maxRecDepth 20000

theorem okB_says {c : ConnV} (h : okB c = true) : nuB c = true ∧ txB c = true := by
  unfold okB at h
  simp only [Bool.and_eq_true] at h
  exact ⟨h.1.1, h.1.2⟩
theorem own1 (w : World) (B : Nat) (sp dp sq ac fl wi : Int) (da : ByteArray) (hB : B ≤ w.heap.size) : OwnS sgG 7 27 (w.alloc (.cells #[.int .i64 sp, .int .i64 dp, .int .i64 sq, .int .i64 ac, .int .i64 fl, .int .i64 wi, .string da] 27)) B (.slice (some ⟨w.heap.size, 0, none⟩) 1 1) [⟨sp, dp, sq, ac, fl, wi, da⟩] :=
  World.ownsRow_lit w _ 1 hB (by unfold maxLen; omega) rfl
end Go.Proofs.Ytfgghffgfefgpaa

namespace Go.Proofs.Ytfgghffgfefgpaa
open Go.RowKit Go.PlainAid Go.Proofs.Ytfgghffgfefgpaa.Bt Go.Sort
set_option linter.unusedVariables false
set_option maxRecDepth 20000

theorem grown_set (w : World) (a : Addr) (u : Value) : w.grownBy (w.setCell a u) (some a.block) :=
  ⟨rfl, rfl, rfl, by simp [World.setCell], fun k _ hk => Below.heap_setCell _ _ _ _ (fun e => hk (by rw [e]))⟩
theorem OwnS.far {α : Type} {c : α → List Value} {K : Nat} {e : TypeId} {w : World} {B : Nat} {v : Value} {xs : List α} (h : OwnS c K e w B v xs) (a : Addr) (u : Value) (ha : a.block < B) : OwnS c K e (w.setCell a u) B v xs :=
  h.kept (grown_set w a u) (by
    cases hb : v.ownBlock with
    | none => exact Or.inl rfl
    | some k => exact Or.inr (fun he => by have := (h.lt k hb).1; cases he; omega))
end Go.Proofs.Ytfgghffgfefgpaa

namespace Go.Proofs.Ytfgghffgfefgpaa
open Go.RowKit Go.PlainAid Go.Proofs.Ytfgghffgfefgpaa.Bt Go.Sort
set_option linter.unusedVariables false
set_option maxRecDepth 20000

def cvA (u : ConnV) : Value := .agg #[.string u.mc, .int .i64 u.ip, .int .i64 u.po, .int .i64 u.di, .int .i64 u.st, .int .i64 u.un, .int .i64 u.nx, .int .i64 u.wa, .string u.inn, .string u.out, .bool u.fin]
def cnZ : ConnV := ⟨⟨#[]⟩, 0, 0, 0, 0, 0, 0, 0, ⟨#[]⟩, ⟨#[]⟩, false⟩
/-- An open connection: all was acknowledged. -/
theorem open_says {c : ConnV} (hb : okB c = true) (hs : c.st = 2) : c.nx = c.un ∧ c.out = ⟨#[]⟩ ∧ c.fin = false := by
  have hx := txB_bd (okB_says hb).2
  have hn := nuB_bd (okB_says hb).1
  have hf : c.fin = false := by
    cases h : c.fin with
    | false => rfl
    | true => have := hx.2.2.2.2.1.1 h; omega
  have ho := hx.2.2.2.2.2 hf
  have h3 : sqN (c.nx - c.un) = sentN c := by
    unfold okB at hb
    simp only [Bool.and_eq_true, beq_iff_eq] at hb
    exact hb.2
  have hz : sentN c = 0 := by
    unfold sentN
    rw [ho, hf, hs]
    decide
  refine ⟨?_, ?_, hf⟩
  · rw [hz] at h3
    unfold sqN at h3
    omega
  · apply ByteArray.ext
    exact Array.eq_empty_of_size_eq_zero ho
theorem size_set (w : World) (a : Addr) (u : Value) : (w.setCell a u).heap.size = w.heap.size := by simp [World.setCell]
theorem lit_at {w : World} {B g : Nat} (hB : B ≤ g) (hg : g = w.heap.size) : OwnS sgG 7 27 (w.alloc (.cells #[] 27)) B (.slice (some ⟨g, 0, none⟩) 0 0) [] := by
  subst hg
  exact OwnS.lit w B hB

end Go.Proofs.Ytfgghffgfefgpaa

namespace Go.Proofs.Ytfgghffgfefgpaa
open Go.RowKit Go.PlainAid Go.Proofs.Ytfgghffgfefgpaa.Bt Go.Sort
set_option linter.unusedVariables false
set_option maxRecDepth 20000

theorem CnS.far {q : Nat} {mc : ByteArray} {ip po di st un nx wa : Int} {inn out : ByteArray} {fin : Bool} {W wx : World} (h : CnS q mc ip po di st un nx wa inn out fin W wx) (a : Addr) (u : Value) (hne : a.block ≠ q) (hw : W.heap.size ≤ a.block) : CnS q mc ip po di st un nx wa inn out fin W (wx.setCell a u) :=
  h.row (grown_set wx a u) ((Below.refl _ _).setCell hw u) (fun e => hne (Option.some.inj e).symm)
end Go.Proofs.Ytfgghffgfefgpaa

namespace Go.Proofs.Ytfgghffgfefgpaa
open Go.RowKit Go.PlainAid Go.Proofs.Ytfgghffgfefgpaa.Bt Go.Sort
set_option linter.unusedVariables false
set_option maxRecDepth 20000
set_option maxHeartbeats 2000000 in
theorem segOK9_any (sp dp sq ac fl wi : Int) (da : ByteArray) (w : World) (hs : sp ≤ 9223372036854775807) (hd : dp ≤ 9223372036854775807) (hq : sq ≤ 9223372036854775807) (ha : ac ≤ 9223372036854775807) (hw : wi ≤ 9223372036854775807) (hda : da.size ≤ 9223372036854775807) :
    Calls Try.prog 33 #[.agg #[.int .i64 sp, .int .i64 dp, .int .i64 sq, .int .i64 ac, .int .i64 fl, .int .i64 wi, .string da]] w fun e w' => e = .returned (.bool (sgB ⟨sp, dp, sq, ac, fl, wi, da⟩)) ∧ Grw w w' := by
  have T0 : Hid (∀ w, Calls Try.prog 62 #[.int .i64 sp] w fun e w' => e = .returned (.bool (dec (0 ≤ sp ∧ sp ≤ 65535))) ∧ w' = w) := fun w => portOK_any sp w hs
  have T1 : Hid (∀ w, Calls Try.prog 62 #[.int .i64 dp] w fun e w' => e = .returned (.bool (dec (0 ≤ dp ∧ dp ≤ 65535))) ∧ w' = w) := fun w => portOK_any dp w hd
  have T2 : Hid (∀ w, Calls Try.prog 63 #[.int .i64 sq, .int .i64 4] w fun e w' => e = .returned (.bool (dec (0 ≤ sq ∧ sq ≤ 4294967295))) ∧ w' = w) := fun w => hasRoom4 sq w hq
  have T3 : Hid (∀ w, Calls Try.prog 63 #[.int .i64 ac, .int .i64 4] w fun e w' => e = .returned (.bool (dec (0 ≤ ac ∧ ac ≤ 4294967295))) ∧ w' = w) := fun w => hasRoom4 ac w ha
  have T4 : Hid (∀ w, Calls Try.prog 64 #[.int .i64 fl] w fun e w' => e = .returned (.bool (dec (0 ≤ fl ∧ fl ≤ 31))) ∧ w' = w) := fun w => flagsOK_any fl w
  have T5 : Hid (∀ w, Calls Try.prog 63 #[.int .i64 wi, .int .i64 2] w fun e w' => e = .returned (.bool (dec (0 ≤ wi ∧ wi ≤ 65535))) ∧ w' = w) := fun w => hasRoom2 wi w hw
  have E : Hid (sgB ⟨sp, dp, sq, ac, fl, wi, da⟩ = ((dec (0 ≤ sp ∧ sp ≤ 65535)) && (dec (0 ≤ dp ∧ dp ≤ 65535)) && (dec (0 ≤ sq ∧ sq ≤ 4294967295)) && (dec (0 ≤ ac ∧ ac ≤ 4294967295)) && (dec (0 ≤ fl ∧ fl ≤ 31)) && (dec (0 ≤ wi ∧ wi ≤ 65535)) && decide ((da.size : Int) ≤ 360))) := rfl
  generalize dec (0 ≤ sp ∧ sp ≤ 65535) = t0 at T0 E
  generalize dec (0 ≤ dp ∧ dp ≤ 65535) = t1 at T1 E
  generalize dec (0 ≤ sq ∧ sq ≤ 4294967295) = t2 at T2 E
  generalize dec (0 ≤ ac ∧ ac ≤ 4294967295) = t3 at T3 E
  generalize dec (0 ≤ fl ∧ fl ≤ 31) = t4 at T4 E
  generalize dec (0 ≤ wi ∧ wi ≤ 65535) = t5 at T5 E
  go_enter Try.func33, Try.ntmps33
  go_wp2_with fail
  refine (T0.out _).mono ?_
  rintro e w1 ⟨rfl, rfl⟩
  cases t0 with
  | false =>
    go_wp2
    go_ret
    exact ⟨by rw [E.out]; first | rfl | (show Ending.returned (.bool false) = _; simp), (Grw.refl _).alloc _⟩
  | true =>
    go_wp2_with fail
    refine (T1.out _).mono ?_
    rintro e w1 ⟨rfl, rfl⟩
    cases t1 with
    | false =>
      go_wp2
      go_ret
      exact ⟨by rw [E.out]; first | rfl | (show Ending.returned (.bool false) = _; simp), (Grw.refl _).alloc _⟩
    | true =>
      go_wp2_with fail
      refine (T2.out _).mono ?_
      rintro e w1 ⟨rfl, rfl⟩
      cases t2 with
      | false =>
        go_wp2
        go_ret
        exact ⟨by rw [E.out]; first | rfl | (show Ending.returned (.bool false) = _; simp), (Grw.refl _).alloc _⟩
      | true =>
        go_wp2_with fail
        refine (T3.out _).mono ?_
        rintro e w1 ⟨rfl, rfl⟩
        cases t3 with
        | false =>
          go_wp2
          go_ret
          exact ⟨by rw [E.out]; first | rfl | (show Ending.returned (.bool false) = _; simp), (Grw.refl _).alloc _⟩
        | true =>
          go_wp2_with fail
          refine (T4.out _).mono ?_
          rintro e w1 ⟨rfl, rfl⟩
          cases t4 with
          | false =>
            go_wp2
            go_ret
            exact ⟨by rw [E.out]; first | rfl | (show Ending.returned (.bool false) = _; simp), (Grw.refl _).alloc _⟩
          | true =>
            go_wp2_with fail
            refine (T5.out _).mono ?_
            rintro e w1 ⟨rfl, rfl⟩
            cases t5 with
            | false =>
              go_wp2
              go_ret
              exact ⟨by rw [E.out]; first | rfl | (show Ending.returned (.bool false) = _; simp), (Grw.refl _).alloc _⟩
            | true =>
              generalize hz : decide ((da.size : Int) ≤ 360) = z at E
              go_wp2
              go_ret
              exact ⟨by rw [E.out]; rfl, (Grw.refl _).alloc _⟩
set_option maxHeartbeats 2000000 in
theorem l02Seg9_any (sp dp sq ac fl wi : Int) (da : ByteArray) (w : World) (hda : da.size ≤ 9223372036854775807) :
    Calls Try.prog 36 #[.agg #[.int .i64 sp, .int .i64 dp, .int .i64 sq, .int .i64 ac, .int .i64 fl, .int .i64 wi, .string da]] w fun e w' => e = .returned (.bool (sgB ⟨sp, dp, sq, ac, fl, wi, da⟩)) ∧ Grw w w' := by
  have T0 : Hid (∀ w, Calls Try.prog 76 #[.int .i64 sp] w fun e w' => e = .returned (.bool (dec (0 ≤ sp ∧ sp ≤ 65535))) ∧ w' = w) := fun w => specPort_any sp w
  have T1 : Hid (∀ w, Calls Try.prog 76 #[.int .i64 dp] w fun e w' => e = .returned (.bool (dec (0 ≤ dp ∧ dp ≤ 65535))) ∧ w' = w) := fun w => specPort_any dp w
  have T2 : Hid (∀ w, Calls Try.prog 73 #[.int .i64 sq] w fun e w' => e = .returned (.bool (dec (0 ≤ sq ∧ sq ≤ 4294967295))) ∧ w' = w) := fun w => specIp_any sq w
  have T3 : Hid (∀ w, Calls Try.prog 73 #[.int .i64 ac] w fun e w' => e = .returned (.bool (dec (0 ≤ ac ∧ ac ≤ 4294967295))) ∧ w' = w) := fun w => specIp_any ac w
  have T4 : Hid (∀ w, Calls Try.prog 74 #[.int .i64 fl, .int .i64 0, .int .i64 31] w fun e w' => e = .returned (.bool (dec (0 ≤ fl ∧ fl ≤ 31))) ∧ w' = w) := fun w => specIn_any fl 0 31 w
  have T5 : Hid (∀ w, Calls Try.prog 76 #[.int .i64 wi] w fun e w' => e = .returned (.bool (dec (0 ≤ wi ∧ wi ≤ 65535))) ∧ w' = w) := fun w => specPort_any wi w
  have E : Hid (sgB ⟨sp, dp, sq, ac, fl, wi, da⟩ = ((dec (0 ≤ sp ∧ sp ≤ 65535)) && (dec (0 ≤ dp ∧ dp ≤ 65535)) && (dec (0 ≤ sq ∧ sq ≤ 4294967295)) && (dec (0 ≤ ac ∧ ac ≤ 4294967295)) && (dec (0 ≤ fl ∧ fl ≤ 31)) && (dec (0 ≤ wi ∧ wi ≤ 65535)) && decide ((da.size : Int) ≤ 360))) := rfl
  generalize dec (0 ≤ sp ∧ sp ≤ 65535) = t0 at T0 E
  generalize dec (0 ≤ dp ∧ dp ≤ 65535) = t1 at T1 E
  generalize dec (0 ≤ sq ∧ sq ≤ 4294967295) = t2 at T2 E
  generalize dec (0 ≤ ac ∧ ac ≤ 4294967295) = t3 at T3 E
  generalize dec (0 ≤ fl ∧ fl ≤ 31) = t4 at T4 E
  generalize dec (0 ≤ wi ∧ wi ≤ 65535) = t5 at T5 E
  go_enter Try.func36, Try.ntmps36
  go_wp2_with fail
  refine (T0.out _).mono ?_
  rintro e w1 ⟨rfl, rfl⟩
  cases t0 with
  | false =>
    go_wp2
    go_ret
    exact ⟨by rw [E.out]; first | rfl | (show Ending.returned (.bool false) = _; simp), (Grw.refl _).alloc _⟩
  | true =>
    go_wp2_with fail
    refine (T1.out _).mono ?_
    rintro e w1 ⟨rfl, rfl⟩
    cases t1 with
    | false =>
      go_wp2
      go_ret
      exact ⟨by rw [E.out]; first | rfl | (show Ending.returned (.bool false) = _; simp), (Grw.refl _).alloc _⟩
    | true =>
      go_wp2_with fail
      refine (T2.out _).mono ?_
      rintro e w1 ⟨rfl, rfl⟩
      cases t2 with
      | false =>
        go_wp2
        go_ret
        exact ⟨by rw [E.out]; first | rfl | (show Ending.returned (.bool false) = _; simp), (Grw.refl _).alloc _⟩
      | true =>
        go_wp2_with fail
        refine (T3.out _).mono ?_
        rintro e w1 ⟨rfl, rfl⟩
        cases t3 with
        | false =>
          go_wp2
          go_ret
          exact ⟨by rw [E.out]; first | rfl | (show Ending.returned (.bool false) = _; simp), (Grw.refl _).alloc _⟩
        | true =>
          go_wp2_with fail
          refine (T4.out _).mono ?_
          rintro e w1 ⟨rfl, rfl⟩
          cases t4 with
          | false =>
            go_wp2
            go_ret
            exact ⟨by rw [E.out]; first | rfl | (show Ending.returned (.bool false) = _; simp), (Grw.refl _).alloc _⟩
          | true =>
            go_wp2_with fail
            refine (T5.out _).mono ?_
            rintro e w1 ⟨rfl, rfl⟩
            cases t5 with
            | false =>
              go_wp2
              go_ret
              exact ⟨by rw [E.out]; first | rfl | (show Ending.returned (.bool false) = _; simp), (Grw.refl _).alloc _⟩
            | true =>
              generalize hz : decide ((da.size : Int) ≤ 360) = z at E
              go_wp2
              go_ret
              exact ⟨by rw [E.out]; rfl, (Grw.refl _).alloc _⟩
end Go.Proofs.Ytfgghffgfefgpaa

namespace Go.Proofs.Ytfgghffgfefgpaa
open Go.RowKit Go.PlainAid Go.Proofs.Ytfgghffgfefgpaa.Bt Go.Sort
set_option linter.unusedVariables false
set_option maxRecDepth 20000

def tfB (g : SegV) (k : Int) : Bool := bits BinOp.and IntKind.i64 g.fl k != 0
/-- A connection that was broken. -/
def brV (c : ConnV) (g : SegV) : ConnV := if g.sq = c.wa then ⟨c.mc, c.ip, c.po, c.di, 4, c.nx, c.nx, c.wa, ⟨#[]⟩, ⟨#[]⟩, false⟩ else c
def orV (c : ConnV) (n : Nat) : ConnV := if n ≤ c.out.size then ⟨c.mc, c.ip, c.po, c.di, c.st, c.un, c.nx, c.wa, c.inn, c.out.extract n c.out.size, c.fin⟩ else ⟨c.mc, c.ip, c.po, c.di, 4, c.un, c.nx, c.wa, c.inn, ⟨#[]⟩, false⟩
def g2V (c : ConnV) : ConnV := ⟨c.mc, c.ip, c.po, c.di, 2, c.un, c.nx, c.wa, c.inn, c.out, c.fin⟩
/-- What is acknowledged. -/
def akV (c : ConnV) (a : Int) : ConnV := if 1 ≤ sqN (a - c.un) ∧ sqN (a - c.un) ≤ sentN c then (if c.st = 1 then ⟨c.mc, c.ip, c.po, c.di, 2, a, c.nx, c.wa, c.inn, c.out, c.fin⟩ else if (sqN (a - c.un)).toNat ≤ c.out.size then ⟨c.mc, c.ip, c.po, c.di, c.st, a, c.nx, c.wa, c.inn, c.out.extract (sqN (a - c.un)).toNat c.out.size, c.fin⟩ else ⟨c.mc, c.ip, c.po, c.di, 4, a, c.nx, c.wa, c.inn, ⟨#[]⟩, false⟩) else c
def agS (c : ConnV) : SegV := ⟨80, c.po, c.nx, c.wa, 16, 1000, ⟨#[]⟩⟩
def grS (c : ConnV) : SegV := ⟨80, c.po, c.un, c.wa, 18, 1000, ⟨#[]⟩⟩
/-- What is taken in. -/
def tdV (c : ConnV) (g : SegV) : ConnV := if g.sq = c.wa ∧ c.inn.size + g.da.size ≤ 300 then ⟨c.mc, c.ip, c.po, c.di, c.st, c.un, c.nx, if tfB g 1 = true then sqN (sqN (c.wa + (g.da.size : Int)) + 1) else sqN (c.wa + (g.da.size : Int)), c.inn ++ g.da, c.out, c.fin⟩ else c
def tdN (c : ConnV) (g : SegV) : Bool := (c.st == 1) || (c.st == 4) || ((g.da.toList == []) && !tfB g 1)
def syS (c : ConnV) (g : SegV) : SegV := if c.st = 1 ∧ sqN (g.sq + 1) = c.wa then grS c else agS c
def tkV (c : ConnV) (g : SegV) : ConnV := if c.st = 4 then c else if tfB g 4 = true then brV c g else if tfB g 2 = true then c else if tfB g 16 = false then c else if tdN (akV c g.ac) g = true then akV c g.ac else tdV (akV c g.ac) g
def tkL (c : ConnV) (g : SegV) : List SegV := if c.st = 4 then [] else if tfB g 4 = true then [] else if tfB g 2 = true then [syS c g] else if tfB g 16 = false then [] else if tdN (akV c g.ac) g = true then [] else [agS (tdV (akV c g.ac) g)]

theorem hasFlag_any (sp dp sq ac fl wi : Int) (da : ByteArray) (k : Int) (w : World) : Calls Try.prog 83 #[.agg #[.int .i64 sp, .int .i64 dp, .int .i64 sq, .int .i64 ac, .int .i64 fl, .int .i64 wi, .string da], .int .i64 k] w fun e w' => e = .returned (.bool (tfB ⟨sp, dp, sq, ac, fl, wi, da⟩ k)) ∧ Grw w w' := by
  go_enter Try.func83, Try.ntmps83
  go_wp2
  go_ret
  exact ⟨rfl, (Grw.refl _).alloc _⟩
set_option maxHeartbeats 2000000 in
theorem brokenBy_any (mc : ByteArray) (ip po di st un nx wa : Int) (inn out : ByteArray) (fin : Bool) (sp dp sq ac fl wi : Int) (da : ByteArray) (w : World) : Calls Try.prog 84 #[.agg #[.string mc, .int .i64 ip, .int .i64 po, .int .i64 di, .int .i64 st, .int .i64 un, .int .i64 nx, .int .i64 wa, .string inn, .string out, .bool fin], .agg #[.int .i64 sp, .int .i64 dp, .int .i64 sq, .int .i64 ac, .int .i64 fl, .int .i64 wi, .string da]] w fun e w' => e = .returned (cvA (brV ⟨mc, ip, po, di, st, un, nx, wa, inn, out, fin⟩ ⟨sp, dp, sq, ac, fl, wi, da⟩)) ∧ Below w.heap.size w w' := by
  have BW : Hid (Below w.heap.size w (((w.alloc (.cells #[.string mc, .int .i64 ip, .int .i64 po, .int .i64 di, .int .i64 st, .int .i64 un, .int .i64 nx, .int .i64 wa, .string inn, .string out, .bool fin] 24)).alloc (.cells #[.int .i64 sp, .int .i64 dp, .int .i64 sq, .int .i64 ac, .int .i64 fl, .int .i64 wi, .string da] 27)).alloc (.cells #[.string ⟨#[]⟩, .int .i64 0, .int .i64 0, .int .i64 0, .int .i64 0, .int .i64 0, .int .i64 0, .int .i64 0, .string ⟨#[]⟩, .string ⟨#[]⟩, .bool false] 24))) := ((((Below.refl _ _).alloc (Nat.le_refl _) _).alloc (by simp) _).alloc (by simp; omega) _)
  by_cases h : sq = wa
  · have E : brV ⟨mc, ip, po, di, st, un, nx, wa, inn, out, fin⟩ ⟨sp, dp, sq, ac, fl, wi, da⟩ = ⟨mc, ip, po, di, 4, nx, nx, wa, ⟨#[]⟩, ⟨#[]⟩, false⟩ := if_pos h
    rw [E]
    have t : (sq != wa) = false := by simp [h]
    clear E h
    go_enter Try.func84, Try.ntmps84
    go_wp2
    (try simp only [Exit.inBlock, Exit.then])
    refine bodyPost_ret (v := .agg #[.string mc, .int .i64 ip, .int .i64 po, .int .i64 di, .int .i64 4, .int .i64 nx, .int .i64 nx, .int .i64 wa, .string ⟨#[]⟩, .string ⟨#[]⟩, .bool false]) (by simp [results, Try.results84, go_sem]; try rfl) rfl ?_
    exact ⟨rfl, ((((Below.refl _ _).alloc (Nat.le_refl _) _).alloc (by simp) _).alloc (by simp; omega) _)⟩
  · have E : brV ⟨mc, ip, po, di, st, un, nx, wa, inn, out, fin⟩ ⟨sp, dp, sq, ac, fl, wi, da⟩ = ⟨mc, ip, po, di, st, un, nx, wa, inn, out, fin⟩ := if_neg h
    rw [E]
    have t : (sq != wa) = true := by simp [h]
    clear E h
    go_enter Try.func84, Try.ntmps84
    go_wp2
    (try simp only [Exit.inBlock, Exit.then])
    refine bodyPost_ret (v := .agg #[.string mc, .int .i64 ip, .int .i64 po, .int .i64 di, .int .i64 st, .int .i64 un, .int .i64 nx, .int .i64 wa, .string inn, .string out, .bool fin]) (by simp [results, Try.results84, go_sem]; try rfl) rfl ?_
    exact ⟨rfl, ((((Below.refl _ _).alloc (Nat.le_refl _) _).alloc (by simp) _).alloc (by simp; omega) _)⟩
set_option maxHeartbeats 2000000 in
theorem greetReached_any (mc : ByteArray) (ip po di st un nx wa : Int) (inn out : ByteArray) (fin : Bool) (b : Int) (w : World) : Calls Try.prog 67 #[.agg #[.string mc, .int .i64 ip, .int .i64 po, .int .i64 di, .int .i64 st, .int .i64 un, .int .i64 nx, .int .i64 wa, .string inn, .string out, .bool fin], .int .i64 b] w fun e w' => e = .returned (cvA (g2V ⟨mc, ip, po, di, st, un, nx, wa, inn, out, fin⟩)) ∧ Below w.heap.size w w' := by
  have BW : Hid (Below w.heap.size w ((w.alloc (.cells #[.string mc, .int .i64 ip, .int .i64 po, .int .i64 di, .int .i64 st, .int .i64 un, .int .i64 nx, .int .i64 wa, .string inn, .string out, .bool fin] 24)).alloc (.cells #[.string ⟨#[]⟩, .int .i64 0, .int .i64 0, .int .i64 0, .int .i64 0, .int .i64 0, .int .i64 0, .int .i64 0, .string ⟨#[]⟩, .string ⟨#[]⟩, .bool false] 24))) := (((Below.refl _ _).alloc (Nat.le_refl _) _).alloc (by simp) _)
  go_enter Try.func67, Try.ntmps67
  go_wp2
  (try simp only [Exit.inBlock, Exit.then])
  refine bodyPost_ret (v := .agg #[.string mc, .int .i64 ip, .int .i64 po, .int .i64 di, .int .i64 2, .int .i64 un, .int .i64 nx, .int .i64 wa, .string inn, .string out, .bool fin]) (by simp [results, Try.results67, go_sem]; try rfl) rfl ?_
  exact ⟨rfl, (((Below.refl _ _).alloc (Nat.le_refl _) _).alloc (by simp) _)⟩
set_option maxHeartbeats 2000000 in
theorem outReached_any (mc : ByteArray) (ip po di st un nx wa : Int) (inn out : ByteArray) (fin : Bool) (n : Nat) (w : World) (hn : n ≤ 100000) (ho : out.size ≤ 1048576) : Calls Try.prog 69 #[.agg #[.string mc, .int .i64 ip, .int .i64 po, .int .i64 di, .int .i64 st, .int .i64 un, .int .i64 nx, .int .i64 wa, .string inn, .string out, .bool fin], .int .i64 (n : Int)] w fun e w' => e = .returned (cvA (orV ⟨mc, ip, po, di, st, un, nx, wa, inn, out, fin⟩ n)) ∧ Below w.heap.size w w' := by
  have BW : Hid (Below w.heap.size w ((w.alloc (.cells #[.string mc, .int .i64 ip, .int .i64 po, .int .i64 di, .int .i64 st, .int .i64 un, .int .i64 nx, .int .i64 wa, .string inn, .string out, .bool fin] 24)).alloc (.cells #[.string ⟨#[]⟩, .int .i64 0, .int .i64 0, .int .i64 0, .int .i64 0, .int .i64 0, .int .i64 0, .int .i64 0, .string ⟨#[]⟩, .string ⟨#[]⟩, .bool false] 24))) := (((Below.refl _ _).alloc (Nat.le_refl _) _).alloc (by simp) _)
  by_cases h : n ≤ out.size
  · have E : orV ⟨mc, ip, po, di, st, un, nx, wa, inn, out, fin⟩ n = ⟨mc, ip, po, di, st, un, nx, wa, inn, out.extract n out.size, fin⟩ := if_pos h
    rw [E]
    have t : (n : Int) ≤ (out.size : Int) := by omega
    have t2 : decide ((n : Int) ≤ (out.size : Int)) = true := decide_eq_true t
    clear E
    go_enter Try.func69, Try.ntmps69
    go_wp2
    (try simp only [Exit.inBlock, Exit.then])
    refine bodyPost_ret (v := .agg #[.string mc, .int .i64 ip, .int .i64 po, .int .i64 di, .int .i64 st, .int .i64 un, .int .i64 nx, .int .i64 wa, .string inn, .string (out.extract n out.size), .bool fin]) (by simp [results, Try.results69, go_sem]; try rfl) rfl ?_
    exact ⟨rfl, (((Below.refl _ _).alloc (Nat.le_refl _) _).alloc (by simp) _)⟩
  · have E : orV ⟨mc, ip, po, di, st, un, nx, wa, inn, out, fin⟩ n = ⟨mc, ip, po, di, 4, un, nx, wa, inn, ⟨#[]⟩, false⟩ := if_neg h
    rw [E]
    have t2 : decide ((n : Int) ≤ (out.size : Int)) = false := decide_eq_false (by omega)
    clear E
    go_enter Try.func69, Try.ntmps69
    go_wp2
    (try simp only [Exit.inBlock, Exit.then])
    refine bodyPost_ret (v := .agg #[.string mc, .int .i64 ip, .int .i64 po, .int .i64 di, .int .i64 4, .int .i64 un, .int .i64 nx, .int .i64 wa, .string inn, .string ⟨#[]⟩, .bool false]) (by simp [results, Try.results69, go_sem]; try rfl) rfl ?_
    exact ⟨rfl, (((Below.refl _ _).alloc (Nat.le_refl _) _).alloc (by simp) _)⟩
end Go.Proofs.Ytfgghffgfefgpaa

namespace Go.Proofs.Ytfgghffgfefgpaa
open Go.RowKit Go.PlainAid Go.Proofs.Ytfgghffgfefgpaa.Bt Go.Sort
set_option linter.unusedVariables false
set_option maxRecDepth 20000

set_option maxHeartbeats 2000000 in
theorem refuse_any (mc : ByteArray) (ip po di st un nx wa : Int) (inn out : ByteArray) (fin : Bool) (sp dp sq ac fl wi : Int) (da : ByteArray) (w : World) : Calls Try.prog 68 #[.agg #[.string mc, .int .i64 ip, .int .i64 po, .int .i64 di, .int .i64 st, .int .i64 un, .int .i64 nx, .int .i64 wa, .string inn, .string out, .bool fin], .agg #[.int .i64 sp, .int .i64 dp, .int .i64 sq, .int .i64 ac, .int .i64 fl, .int .i64 wi, .string da]] w fun e w' => e = .returned (.agg #[.int .i64 80, .int .i64 po, .int .i64 nx, .int .i64 wa, .int .i64 16, .int .i64 1000, .string ⟨#[]⟩]) ∧ Below w.heap.size w w' := by
  have BW : Hid (Below w.heap.size w (((w.alloc (.cells #[.string mc, .int .i64 ip, .int .i64 po, .int .i64 di, .int .i64 st, .int .i64 un, .int .i64 nx, .int .i64 wa, .string inn, .string out, .bool fin] 24)).alloc (.cells #[.int .i64 sp, .int .i64 dp, .int .i64 sq, .int .i64 ac, .int .i64 fl, .int .i64 wi, .string da] 27)).alloc (.cells #[.int .i64 0, .int .i64 0, .int .i64 0, .int .i64 0, .int .i64 0, .int .i64 0, .string ⟨#[]⟩] 27))) := ((((Below.refl _ _).alloc (Nat.le_refl _) _).alloc (by simp) _).alloc (by simp; omega) _)
  have T : Hid (∀ w, Calls Try.prog 87 #[.agg #[.string mc, .int .i64 ip, .int .i64 po, .int .i64 di, .int .i64 st, .int .i64 un, .int .i64 nx, .int .i64 wa, .string inn, .string out, .bool fin]] w fun e w' => e = .returned (.agg #[.int .i64 80, .int .i64 po, .int .i64 nx, .int .i64 wa, .int .i64 16, .int .i64 1000, .string ⟨#[]⟩]) ∧ Grw w w') := fun w => acking_any mc ip po di st un nx wa inn out fin w
  go_enter Try.func68, Try.ntmps68
  go_wp2_with fail
  refine (T.out _).mono ?_
  rintro e w1 ⟨rfl, g1⟩
  have b1 := g1.below
  have rw1_0 : w1.cell? ⟨w.heap.size + 1 + 1, 0, none⟩ = some (.int .i64 0) := bkeep b1 (by simp [go_sem])
  have frw1_0 : w1.frozen? ⟨w.heap.size + 1 + 1, 0, none⟩ = false := bthaw b1 (a := ⟨w.heap.size + 1 + 1, 0, none⟩) (v := .int .i64 0) (by simp [go_sem]) (by simp [go_sem])
  have rw1_1 : w1.cell? ⟨w.heap.size + 1 + 1, 1, none⟩ = some (.int .i64 0) := bkeep b1 (by simp [go_sem])
  have frw1_1 : w1.frozen? ⟨w.heap.size + 1 + 1, 1, none⟩ = false := bthaw b1 (a := ⟨w.heap.size + 1 + 1, 1, none⟩) (v := .int .i64 0) (by simp [go_sem]) (by simp [go_sem])
  have rw1_2 : w1.cell? ⟨w.heap.size + 1 + 1, 2, none⟩ = some (.int .i64 0) := bkeep b1 (by simp [go_sem])
  have frw1_2 : w1.frozen? ⟨w.heap.size + 1 + 1, 2, none⟩ = false := bthaw b1 (a := ⟨w.heap.size + 1 + 1, 2, none⟩) (v := .int .i64 0) (by simp [go_sem]) (by simp [go_sem])
  have rw1_3 : w1.cell? ⟨w.heap.size + 1 + 1, 3, none⟩ = some (.int .i64 0) := bkeep b1 (by simp [go_sem])
  have frw1_3 : w1.frozen? ⟨w.heap.size + 1 + 1, 3, none⟩ = false := bthaw b1 (a := ⟨w.heap.size + 1 + 1, 3, none⟩) (v := .int .i64 0) (by simp [go_sem]) (by simp [go_sem])
  have rw1_4 : w1.cell? ⟨w.heap.size + 1 + 1, 4, none⟩ = some (.int .i64 0) := bkeep b1 (by simp [go_sem])
  have frw1_4 : w1.frozen? ⟨w.heap.size + 1 + 1, 4, none⟩ = false := bthaw b1 (a := ⟨w.heap.size + 1 + 1, 4, none⟩) (v := .int .i64 0) (by simp [go_sem]) (by simp [go_sem])
  have rw1_5 : w1.cell? ⟨w.heap.size + 1 + 1, 5, none⟩ = some (.int .i64 0) := bkeep b1 (by simp [go_sem])
  have frw1_5 : w1.frozen? ⟨w.heap.size + 1 + 1, 5, none⟩ = false := bthaw b1 (a := ⟨w.heap.size + 1 + 1, 5, none⟩) (v := .int .i64 0) (by simp [go_sem]) (by simp [go_sem])
  have rw1_6 : w1.cell? ⟨w.heap.size + 1 + 1, 6, none⟩ = some (.string ⟨#[]⟩) := bkeep b1 (by simp [go_sem])
  have frw1_6 : w1.frozen? ⟨w.heap.size + 1 + 1, 6, none⟩ = false := bthaw b1 (a := ⟨w.heap.size + 1 + 1, 6, none⟩) (v := .string ⟨#[]⟩) (by simp [go_sem]) (by simp [go_sem])
  have B1 : Hid (Below w.heap.size w w1) := BW.out.trans (b1.mono (by simp; omega))
  clear b1 g1
  go_wp2
  (try simp only [Exit.inBlock, Exit.then])
  refine bodyPost_ret (v := .agg #[.int .i64 80, .int .i64 po, .int .i64 nx, .int .i64 wa, .int .i64 16, .int .i64 1000, .string ⟨#[]⟩]) (by simp [results, Try.results68, go_sem, rw1_0, rw1_1, rw1_2, rw1_3, rw1_4, rw1_5, rw1_6]; try rfl) rfl ?_
  exact ⟨rfl, by (repeat (with_reducible refine Below.setCell ?_ (by dsimp only; omega) _)); exact B1.out⟩

set_option maxHeartbeats 4000000 in
theorem greetAgain_any (mc : ByteArray) (ip po di st un nx wa : Int) (inn out : ByteArray) (fin : Bool) (sp dp sq ac fl wi : Int) (da : ByteArray) (w : World) (hq : 0 ≤ sq ∧ sq ≤ 4294967295) : Calls Try.prog 66 #[.agg #[.string mc, .int .i64 ip, .int .i64 po, .int .i64 di, .int .i64 st, .int .i64 un, .int .i64 nx, .int .i64 wa, .string inn, .string out, .bool fin], .agg #[.int .i64 sp, .int .i64 dp, .int .i64 sq, .int .i64 ac, .int .i64 fl, .int .i64 wi, .string da]] w fun e w' => e = .returned (if sqN (sq + 1) = wa then .agg #[.int .i64 80, .int .i64 po, .int .i64 un, .int .i64 wa, .int .i64 18, .int .i64 1000, .string ⟨#[]⟩] else .agg #[.int .i64 80, .int .i64 po, .int .i64 nx, .int .i64 wa, .int .i64 16, .int .i64 1000, .string ⟨#[]⟩]) ∧ Below w.heap.size w w' := by
  have BW0 : Hid (Below w.heap.size w (((w.alloc (.cells #[.string mc, .int .i64 ip, .int .i64 po, .int .i64 di, .int .i64 st, .int .i64 un, .int .i64 nx, .int .i64 wa, .string inn, .string out, .bool fin] 24)).alloc (.cells #[.int .i64 sp, .int .i64 dp, .int .i64 sq, .int .i64 ac, .int .i64 fl, .int .i64 wi, .string da] 27)).alloc (.cells #[.int .i64 0, .int .i64 0, .int .i64 0, .int .i64 0, .int .i64 0, .int .i64 0, .string ⟨#[]⟩] 27))) := ((((Below.refl _ _).alloc (Nat.le_refl _) _).alloc (by simp) _).alloc (by simp; omega) _)
  have BW : Hid (Below w.heap.size w (((w.alloc (.cells #[.string mc, .int .i64 ip, .int .i64 po, .int .i64 di, .int .i64 st, .int .i64 un, .int .i64 nx, .int .i64 wa, .string inn, .string out, .bool fin] 24)).alloc (.cells #[.int .i64 sp, .int .i64 dp, .int .i64 sq, .int .i64 ac, .int .i64 fl, .int .i64 wi, .string da] 27)).alloc (.cells #[.int .i64 0, .int .i64 0, .int .i64 0, .int .i64 0, .int .i64 0, .int .i64 0, .string ⟨#[]⟩] 27)).drew) := BW0.out.drew
  have TQ : Hid (∀ w, Calls Try.prog 40 #[.int .i64 sq, .int .i64 1] w fun e w' => e = .returned (.int .i64 (sqN (sq + 1))) ∧ w' = w) := fun w => seqAfter_any sq 1 w (by omega) (by omega) (by omega) (by omega)
  have T : Hid (∀ w, Calls Try.prog 87 #[.agg #[.string mc, .int .i64 ip, .int .i64 po, .int .i64 di, .int .i64 st, .int .i64 un, .int .i64 nx, .int .i64 wa, .string inn, .string out, .bool fin]] w fun e w' => e = .returned (.agg #[.int .i64 80, .int .i64 po, .int .i64 nx, .int .i64 wa, .int .i64 16, .int .i64 1000, .string ⟨#[]⟩]) ∧ Grw w w') := fun w => acking_any mc ip po di st un nx wa inn out fin w
  have T2 : Hid (∀ w, Calls Try.prog 42 #[.agg #[.string mc, .int .i64 ip, .int .i64 po, .int .i64 di, .int .i64 st, .int .i64 un, .int .i64 nx, .int .i64 wa, .string inn, .string out, .bool fin]] w fun e w' => e = .returned (.agg #[.int .i64 80, .int .i64 po, .int .i64 un, .int .i64 wa, .int .i64 18, .int .i64 1000, .string ⟨#[]⟩]) ∧ Grw w w') := fun w => greeting_any mc ip po di st un nx wa inn out fin w
  generalize sqN (sq + 1) = NQ at TQ ⊢
  by_cases h : NQ = wa
  · rw [if_pos h]
    have t : (wa == NQ) = true := by simp [h]
    clear h T
    go_enter Try.func66, Try.ntmps66
    go_wp2_with fail
    refine wp_region_held_drew (S := (fun wx => wx.cell? ⟨w.heap.size, 7, none⟩ = some (.int .i64 wa) ∧ wx.cell? ⟨w.heap.size + 1, 2, none⟩ = some (.int .i64 sq))) (by kernel_rfl) ?_ (fun hH0 => ?_)
    · exact ⟨by simp [go_sem], by simp [go_sem]⟩
    refine wpAnyH_take (i := 0) (v := ?v1) rfl (by kernel_rfl) (by kernel_rfl) (by kernel_rfl) (fun _ _ _ h => h) (Or.inl ⟨by rfl, ?hy1⟩) (by assumption) ?rest1
    case hy1 => (intro w hSw; (try dsimp only at hSw); go_simp; (try with_reducible rfl))
    refine wpAnyH_take (i := 1) (v := ?v2) rfl (by kernel_rfl) (by kernel_rfl) (by kernel_rfl) (fun _ _ _ h => h) (Or.inl ⟨by rfl, ?hy2⟩) (by assumption) ?rest2
    case hy2 => (intro w hSw; (try dsimp only at hSw); go_simp; (try with_reducible rfl))
    refine wpAnyH_take (i := 2) (v := ?v3) rfl (by kernel_rfl) (by kernel_rfl) (by kernel_rfl) (fun _ _ _ h => h) (Or.inl ⟨by rfl, ?hy3⟩) (by assumption) ?rest3
    case hy3 => (intro w hSw; (try dsimp only at hSw); go_simp; (try with_reducible rfl))
    refine wpAnyH_take (i := 3) (v := ?v4) rfl (by kernel_rfl) (by kernel_rfl) (by kernel_rfl) (fun _ _ _ h => h) (Or.inl ⟨by rfl, ?hy4⟩) (by assumption) ?rest4
    case hy4 => (intro w hSw; (try dsimp only at hSw); go_simp; (try with_reducible rfl))
    refine wpAnyH_ready (rs := [4]) (by kernel_rfl) (by simp) ?_
    refine AllReadyH.cons rfl (fun K hK => ?_) ?_
    · go_simp
      go_at_call 40
      refine (TQ.out _).mono ?_
      rintro e wc1 ⟨rfl, rfl⟩
      refine hK.out _ _ ?_ (fun hH5 => ?_)
      · (try dsimp only)
        exact ⟨by simp [go_sem], by simp [go_sem]⟩
      clear hK K hH0
      refine wpAnyH_take (i := 5) (v := ?v6) rfl (by kernel_rfl) (by kernel_rfl) (by kernel_rfl) (fun _ _ _ h => h) (Or.inl ⟨by rfl, ?hy6⟩) (by assumption) ?rest6
      case hy6 => (intro w hSw; (try dsimp only at hSw); go_simp; (try with_reducible rfl))
      refine wpAnyH_done (by kernel_rfl) ?_ _
      clear hH5
      go_wp2_with fail
      refine (T2.out _).mono ?_
      rintro e w1 ⟨rfl, g1⟩
      have b1 := g1.below
      have rw1_0 : w1.cell? ⟨w.heap.size + 1 + 1, 0, none⟩ = some (.int .i64 0) := bkeep b1 (by simp [go_sem])
      have frw1_0 : w1.frozen? ⟨w.heap.size + 1 + 1, 0, none⟩ = false := bthaw b1 (a := ⟨w.heap.size + 1 + 1, 0, none⟩) (v := .int .i64 0) (by simp [go_sem]) (by simp [go_sem])
      have rw1_1 : w1.cell? ⟨w.heap.size + 1 + 1, 1, none⟩ = some (.int .i64 0) := bkeep b1 (by simp [go_sem])
      have frw1_1 : w1.frozen? ⟨w.heap.size + 1 + 1, 1, none⟩ = false := bthaw b1 (a := ⟨w.heap.size + 1 + 1, 1, none⟩) (v := .int .i64 0) (by simp [go_sem]) (by simp [go_sem])
      have rw1_2 : w1.cell? ⟨w.heap.size + 1 + 1, 2, none⟩ = some (.int .i64 0) := bkeep b1 (by simp [go_sem])
      have frw1_2 : w1.frozen? ⟨w.heap.size + 1 + 1, 2, none⟩ = false := bthaw b1 (a := ⟨w.heap.size + 1 + 1, 2, none⟩) (v := .int .i64 0) (by simp [go_sem]) (by simp [go_sem])
      have rw1_3 : w1.cell? ⟨w.heap.size + 1 + 1, 3, none⟩ = some (.int .i64 0) := bkeep b1 (by simp [go_sem])
      have frw1_3 : w1.frozen? ⟨w.heap.size + 1 + 1, 3, none⟩ = false := bthaw b1 (a := ⟨w.heap.size + 1 + 1, 3, none⟩) (v := .int .i64 0) (by simp [go_sem]) (by simp [go_sem])
      have rw1_4 : w1.cell? ⟨w.heap.size + 1 + 1, 4, none⟩ = some (.int .i64 0) := bkeep b1 (by simp [go_sem])
      have frw1_4 : w1.frozen? ⟨w.heap.size + 1 + 1, 4, none⟩ = false := bthaw b1 (a := ⟨w.heap.size + 1 + 1, 4, none⟩) (v := .int .i64 0) (by simp [go_sem]) (by simp [go_sem])
      have rw1_5 : w1.cell? ⟨w.heap.size + 1 + 1, 5, none⟩ = some (.int .i64 0) := bkeep b1 (by simp [go_sem])
      have frw1_5 : w1.frozen? ⟨w.heap.size + 1 + 1, 5, none⟩ = false := bthaw b1 (a := ⟨w.heap.size + 1 + 1, 5, none⟩) (v := .int .i64 0) (by simp [go_sem]) (by simp [go_sem])
      have rw1_6 : w1.cell? ⟨w.heap.size + 1 + 1, 6, none⟩ = some (.string ⟨#[]⟩) := bkeep b1 (by simp [go_sem])
      have frw1_6 : w1.frozen? ⟨w.heap.size + 1 + 1, 6, none⟩ = false := bthaw b1 (a := ⟨w.heap.size + 1 + 1, 6, none⟩) (v := .string ⟨#[]⟩) (by simp [go_sem]) (by simp [go_sem])
      have B1 : Hid (Below w.heap.size w w1) := BW.out.trans (b1.mono (by simp; omega))
      clear b1 g1
      go_wp2
      (try simp only [Exit.inBlock, Exit.then])
      refine bodyPost_ret (v := .agg #[.int .i64 80, .int .i64 po, .int .i64 un, .int .i64 wa, .int .i64 18, .int .i64 1000, .string ⟨#[]⟩]) (by simp [results, Try.results66, go_sem, rw1_0, rw1_1, rw1_2, rw1_3, rw1_4, rw1_5, rw1_6]; try rfl) rfl ?_
      exact ⟨rfl, by (repeat (with_reducible refine Below.setCell ?_ (by dsimp only; omega) _)); exact B1.out⟩
    exact AllReadyH.nil
  · rw [if_neg h]
    have t : (wa == NQ) = false := by simp; exact fun e => h e.symm
    clear h T2
    go_enter Try.func66, Try.ntmps66
    go_wp2_with fail
    refine wp_region_held_drew (S := (fun wx => wx.cell? ⟨w.heap.size, 7, none⟩ = some (.int .i64 wa) ∧ wx.cell? ⟨w.heap.size + 1, 2, none⟩ = some (.int .i64 sq))) (by kernel_rfl) ?_ (fun hH0 => ?_)
    · exact ⟨by simp [go_sem], by simp [go_sem]⟩
    refine wpAnyH_take (i := 0) (v := ?v51) rfl (by kernel_rfl) (by kernel_rfl) (by kernel_rfl) (fun _ _ _ h => h) (Or.inl ⟨by rfl, ?hy51⟩) (by assumption) ?rest51
    case hy51 => (intro w hSw; (try dsimp only at hSw); go_simp; (try with_reducible rfl))
    refine wpAnyH_take (i := 1) (v := ?v52) rfl (by kernel_rfl) (by kernel_rfl) (by kernel_rfl) (fun _ _ _ h => h) (Or.inl ⟨by rfl, ?hy52⟩) (by assumption) ?rest52
    case hy52 => (intro w hSw; (try dsimp only at hSw); go_simp; (try with_reducible rfl))
    refine wpAnyH_take (i := 2) (v := ?v53) rfl (by kernel_rfl) (by kernel_rfl) (by kernel_rfl) (fun _ _ _ h => h) (Or.inl ⟨by rfl, ?hy53⟩) (by assumption) ?rest53
    case hy53 => (intro w hSw; (try dsimp only at hSw); go_simp; (try with_reducible rfl))
    refine wpAnyH_take (i := 3) (v := ?v54) rfl (by kernel_rfl) (by kernel_rfl) (by kernel_rfl) (fun _ _ _ h => h) (Or.inl ⟨by rfl, ?hy54⟩) (by assumption) ?rest54
    case hy54 => (intro w hSw; (try dsimp only at hSw); go_simp; (try with_reducible rfl))
    refine wpAnyH_ready (rs := [4]) (by kernel_rfl) (by simp) ?_
    refine AllReadyH.cons rfl (fun K hK => ?_) ?_
    · go_simp
      go_at_call 40
      refine (TQ.out _).mono ?_
      rintro e wc1 ⟨rfl, rfl⟩
      refine hK.out _ _ ?_ (fun hH55 => ?_)
      · (try dsimp only)
        exact ⟨by simp [go_sem], by simp [go_sem]⟩
      clear hK K hH0
      refine wpAnyH_take (i := 5) (v := ?v56) rfl (by kernel_rfl) (by kernel_rfl) (by kernel_rfl) (fun _ _ _ h => h) (Or.inl ⟨by rfl, ?hy56⟩) (by assumption) ?rest56
      case hy56 => (intro w hSw; (try dsimp only at hSw); go_simp; (try with_reducible rfl))
      refine wpAnyH_done (by kernel_rfl) ?_ _
      clear hH55
      go_wp2_with fail
      refine (T.out _).mono ?_
      rintro e w1 ⟨rfl, g1⟩
      have b1 := g1.below
      have rw1_0 : w1.cell? ⟨w.heap.size + 1 + 1, 0, none⟩ = some (.int .i64 0) := bkeep b1 (by simp [go_sem])
      have frw1_0 : w1.frozen? ⟨w.heap.size + 1 + 1, 0, none⟩ = false := bthaw b1 (a := ⟨w.heap.size + 1 + 1, 0, none⟩) (v := .int .i64 0) (by simp [go_sem]) (by simp [go_sem])
      have rw1_1 : w1.cell? ⟨w.heap.size + 1 + 1, 1, none⟩ = some (.int .i64 0) := bkeep b1 (by simp [go_sem])
      have frw1_1 : w1.frozen? ⟨w.heap.size + 1 + 1, 1, none⟩ = false := bthaw b1 (a := ⟨w.heap.size + 1 + 1, 1, none⟩) (v := .int .i64 0) (by simp [go_sem]) (by simp [go_sem])
      have rw1_2 : w1.cell? ⟨w.heap.size + 1 + 1, 2, none⟩ = some (.int .i64 0) := bkeep b1 (by simp [go_sem])
      have frw1_2 : w1.frozen? ⟨w.heap.size + 1 + 1, 2, none⟩ = false := bthaw b1 (a := ⟨w.heap.size + 1 + 1, 2, none⟩) (v := .int .i64 0) (by simp [go_sem]) (by simp [go_sem])
      have rw1_3 : w1.cell? ⟨w.heap.size + 1 + 1, 3, none⟩ = some (.int .i64 0) := bkeep b1 (by simp [go_sem])
      have frw1_3 : w1.frozen? ⟨w.heap.size + 1 + 1, 3, none⟩ = false := bthaw b1 (a := ⟨w.heap.size + 1 + 1, 3, none⟩) (v := .int .i64 0) (by simp [go_sem]) (by simp [go_sem])
      have rw1_4 : w1.cell? ⟨w.heap.size + 1 + 1, 4, none⟩ = some (.int .i64 0) := bkeep b1 (by simp [go_sem])
      have frw1_4 : w1.frozen? ⟨w.heap.size + 1 + 1, 4, none⟩ = false := bthaw b1 (a := ⟨w.heap.size + 1 + 1, 4, none⟩) (v := .int .i64 0) (by simp [go_sem]) (by simp [go_sem])
      have rw1_5 : w1.cell? ⟨w.heap.size + 1 + 1, 5, none⟩ = some (.int .i64 0) := bkeep b1 (by simp [go_sem])
      have frw1_5 : w1.frozen? ⟨w.heap.size + 1 + 1, 5, none⟩ = false := bthaw b1 (a := ⟨w.heap.size + 1 + 1, 5, none⟩) (v := .int .i64 0) (by simp [go_sem]) (by simp [go_sem])
      have rw1_6 : w1.cell? ⟨w.heap.size + 1 + 1, 6, none⟩ = some (.string ⟨#[]⟩) := bkeep b1 (by simp [go_sem])
      have frw1_6 : w1.frozen? ⟨w.heap.size + 1 + 1, 6, none⟩ = false := bthaw b1 (a := ⟨w.heap.size + 1 + 1, 6, none⟩) (v := .string ⟨#[]⟩) (by simp [go_sem]) (by simp [go_sem])
      have B1 : Hid (Below w.heap.size w w1) := BW.out.trans (b1.mono (by simp; omega))
      clear b1 g1
      go_wp2
      (try simp only [Exit.inBlock, Exit.then])
      refine bodyPost_ret (v := .agg #[.int .i64 80, .int .i64 po, .int .i64 nx, .int .i64 wa, .int .i64 16, .int .i64 1000, .string ⟨#[]⟩]) (by simp [results, Try.results66, go_sem, rw1_0, rw1_1, rw1_2, rw1_3, rw1_4, rw1_5, rw1_6]; try rfl) rfl ?_
      exact ⟨rfl, by (repeat (with_reducible refine Below.setCell ?_ (by dsimp only; omega) _)); exact B1.out⟩
    exact AllReadyH.nil
end Go.Proofs.Ytfgghffgfefgpaa

namespace Go.Proofs.Ytfgghffgfefgpaa
open Go.RowKit Go.PlainAid Go.Proofs.Ytfgghffgfefgpaa.Bt Go.Sort
set_option linter.unusedVariables false
set_option maxRecDepth 20000
/-- A box: its cells, and they may be written. -/
structure Bx (w : World) (q : Nat) (cs : List Value) : Prop where
  cl : w.rangeAt q 0 cs
  th : w.there q 0 cs.length
theorem Bx.cell {w : World} {q : Nat} {cs : List Value} (h : Bx w q cs) (j : Nat) {v : Value} (hj : cs[j]? = some v) : w.cell? ⟨q, j, none⟩ = some v := by
  have := h.cl j v hj
  rwa [Nat.zero_add] at this
theorem Bx.thaw {w : World} {q : Nat} {cs : List Value} (h : Bx w q cs) (j : Nat) (hj : j < cs.length) : w.frozen? ⟨q, j, none⟩ = false := by
  have := (h.th j hj).2
  rwa [Nat.zero_add] at this
theorem Bx.of {w : World} {q : Nat} {cs : List Value} (hc : ∀ j v, cs[j]? = some v → w.cell? ⟨q, j, none⟩ = some v) (hf : ∀ j, j < cs.length → w.frozen? ⟨q, j, none⟩ = false) : Bx w q cs :=
  ⟨fun j v hv => by rw [Nat.zero_add]; exact hc j v hv, fun j hj => by rw [Nat.zero_add]; exact ⟨by rw [hc j _ (List.getElem?_eq_getElem hj)]; rfl, hf j hj⟩⟩
theorem Bx.below {w w' : World} {q : Nat} {cs : List Value} (h : Bx w q cs) (hb : Below w.heap.size w w') : Bx w' q cs :=
  Bx.of (fun j v hv => bkeep hb (h.cell j hv)) (fun j hj => bthaw hb (h.cell j (List.getElem?_eq_getElem hj)) (h.thaw j hj))
theorem Bx.put {w : World} {q : Nat} {cs : List Value} (h : Bx w q cs) (vs : List Value) (hl : vs.length = cs.length) : Bx (w.setCells q 0 vs) q vs :=
  ⟨w.rangeAt_setCells_same q 0 vs (by rw [hl]; exact h.th), fun j hj => ⟨World.isSome_setCells q vs 0 w _ (h.th j (by omega)).1, by rw [World.frozen?_setCells]; exact (h.th j (by omega)).2⟩⟩
theorem Bx.apart {w : World} {q p : Nat} {cs : List Value} (h : Bx w q cs) (vs : List Value) (hne : q ≠ p) : Bx (w.setCells p 0 vs) q cs :=
  ⟨World.rangeAt_setCells_apart h.cl p 0 vs (.inl hne), fun j hj => ⟨World.isSome_setCells p vs 0 w _ (h.th j hj).1, by rw [World.frozen?_setCells]; exact (h.th j hj).2⟩⟩
theorem below_cells {n : Nat} {w : World} {q : Nat} (hq : n ≤ q) : ∀ (vs : List Value) (o : Nat) (W : World), Below n w W → Below n w (W.setCells q o vs)
  | [], _, _, h => h
  | v :: r, o, W, h => by
    rw [World.setCells]
    exact below_cells hq r (o + 1) _ (h.setCell hq v)
theorem Bx.st {w : World} {q : Nat} {cs : List Value} (h : Bx w q cs) (vs : Array Value) (hl : cs.length = 11) (hv : vs.size = 11) (h1 : vs.all (·.oneCell') = true) : (Instr.storeAt 24 (.pointer (some ⟨q, 0, none⟩)) (.agg vs)).run Try.prog w = .ok () (w.setCells q 0 vs.toList) :=
  run_storeAt_mid w q 0 24 vs (by rw [hv, ← hl]; exact h.th) (by rw [hv]; rfl) h1
theorem Bx.field {w : World} {q : Nat} {cs : List Value} (h : Bx w q cs) (j : Nat) (v : Value) : Bx (w.setCell ⟨q, j, none⟩ v) q (cs.set j v) := by
  refine Bx.of (fun i u hu => ?_) (fun i hi => ?_)
  · by_cases e : i = j
    · subst e
      have hi : i < cs.length := by have := (List.getElem?_eq_some_iff.1 hu).1; simpa using this
      rw [List.getElem?_set_self hi] at hu
      cases hu
      exact World.cell?_setCell_same _ _ _ (h.cell i (List.getElem?_eq_getElem hi))
    · rw [List.getElem?_set_ne (fun h => e h.symm)] at hu
      rw [World.cell?_setCell_other _ _ _ _ (fun h => e (by cases h; rfl))]
      exact h.cell i hu
  · rw [List.length_set] at hi
    rw [World.frozen?_setCell]
    exact h.thaw i hi
theorem Bx.far {w : World} {q : Nat} {cs : List Value} (h : Bx w q cs) (a : Addr) (v : Value) (hne : a.block ≠ q) : Bx (w.setCell a v) q cs :=
  Bx.of (fun i u hu => by rw [World.cell?_setCell_other _ _ _ _ (fun h => hne (by cases h; rfl))]; exact h.cell i hu) (fun i hi => by rw [World.frozen?_setCell]; exact h.thaw i hi)
theorem wpl_put {ops : Array Oper} {rest : List Oper} {op : Oper} {a : Act} {w : World} {Q : Exit → Act → World → Prop} (hgd : op.guard = none) (x y : Operand) (ho : op.op = .store 24 x y)
    (q : Nat) (cells : Array Value) (hx : a.eval x = .pointer (some ⟨q, 0, none⟩)) (hy : a.eval y = .agg cells) {cs : List Value} (h0 : Bx w q cs) (hl : cs.length = 11) (hv : cells.size = 11) (h1 : cells.toList.all (·.oneCell') = true)
    (h : ∀ w', w' = w.setCells q 0 cells.toList → Bx w' q cells.toList → wpList Try.prog ops Q rest (a.put op.dst undef) w') : wpList Try.prog ops Q (op :: rest) a w :=
  wpList_store_mid hgd 24 x y ho q 0 cells hx hy (by rw [hv, ← hl]; exact h0.th) (by rw [hv]; rfl) (by rw [← Array.all_toList]; exact h1) (h _ rfl (h0.put _ (by simp [hv, hl])))
theorem wpl_get {ops : Array Oper} {rest : List Oper} {op : Oper} {a : Act} {w : World} {Q : Exit → Act → World → Prop} (hgd : op.guard = none) (x : Operand) (ho : op.op = .load 24 x)
    (q : Nat) (hx : a.eval x = .pointer (some ⟨q, 0, none⟩)) {cs : List Value} (h0 : Bx w q cs) (hl : cs.length = 11)
    (h : wpList Try.prog ops Q rest (a.put op.dst (.agg cs.toArray)) w) : wpList Try.prog ops Q (op :: rest) a w :=
  wpList_load_mid hgd 24 x ho q 0 hx cs _ h0.cl Try.underlying24 rfl (by rw [hl]; rfl) h
theorem wpl_getS {ops : Array Oper} {rest : List Oper} {op : Oper} {a : Act} {w : World} {Q : Exit → Act → World → Prop} (hgd : op.guard = none) (x : Operand) (ho : op.op = .load 27 x)
    (q : Nat) (hx : a.eval x = .pointer (some ⟨q, 0, none⟩)) {cs : List Value} (h0 : Bx w q cs) (hl : cs.length = 7)
    (h : wpList Try.prog ops Q rest (a.put op.dst (.agg cs.toArray)) w) : wpList Try.prog ops Q (op :: rest) a w :=
  wpList_load_mid hgd 27 x ho q 0 hx cs _ h0.cl Try.underlying27 rfl (by rw [hl]; rfl) h
theorem wpr_put {c E : Prop} [Decidable c] {op : Oper} {a : Act} {w : World} {K : Act → World → Prop} {Q : Exit → Act → World → Prop} (hc : c) (x y : Operand) (ho : op.op = .store 24 x y)
    (q : Nat) (cells : Array Value) (hx : a.eval x = .pointer (some ⟨q, 0, none⟩)) (hy : a.eval y = .agg cells) {cs : List Value} (h0 : Bx w q cs) (hl : cs.length = 11) (hv : cells.size = 11) (h1 : cells.toList.all (·.oneCell') = true)
    (h : ∀ w', w' = w.setCells q 0 cells.toList → Bx w' q cells.toList → K (a.put op.dst undef) w') : if c then Oper.wp Try.prog op a w K Q else E := by
  rw [if_pos hc]
  exact wp_store_mid 24 x y ho q 0 cells hx hy (by rw [hv, ← hl]; exact h0.th) (by rw [hv]; rfl) (by rw [← Array.all_toList]; exact h1) (h _ rfl (h0.put _ (by simp [hv, hl])))
/-- What a region reads: a box, and all below kept. -/
structure XQ (cb : Nat) (cs : List Value) (w wx : World) : Prop where
  c : Bx wx cb cs
  out : Below w.heap.size w wx
theorem XQ.below {cb : Nat} {cs : List Value} {w wx wy : World} (h : XQ cb cs w wx) (hb : Below wx.heap.size wx wy) : XQ cb cs w wy := ⟨h.c.below hb, h.out.trans (hb.mono h.out.size)⟩
theorem XQ.cells {cb rb : Nat} {cs vs : List Value} {w wx : World} (h : XQ cb cs w wx) (h1 : cb ≠ rb) (h2 : w.heap.size ≤ rb) : XQ cb cs w (wx.setCells rb 0 vs) := ⟨h.c.apart _ h1, below_cells h2 _ _ _ h.out⟩
theorem own_cells {B q : Nat} {v : Value} {xs : List SegV} (hq : q < B) : ∀ (vs : List Value) (o : Nat) (W : World), OwnS sgG 7 27 W B v xs → OwnS sgG 7 27 (W.setCells q o vs) B v xs
  | [], _, _, h => h
  | u :: r, o, W, h => by
    rw [World.setCells]
    exact own_cells hq r (o + 1) _ (h.far _ _ hq)
theorem Bx.new (w : World) (cs : Array Value) (t : TypeId) : Bx (w.alloc (.cells cs t)) w.heap.size cs.toList :=
  Bx.of (fun j v hv => by rw [Array.getElem?_toList] at hv; simp [go_sem, hv]) (fun j hj => by simp [go_sem])
end Go.Proofs.Ytfgghffgfefgpaa

namespace Go.Proofs.Ytfgghffgfefgpaa
open Go.RowKit Go.PlainAid Go.Proofs.Ytfgghffgfefgpaa.Bt Go.Sort
set_option linter.unusedVariables false
set_option maxRecDepth 20000
set_option maxHeartbeats 4000000 in
theorem ackG_any (mc : ByteArray) (ip po di st un nx wa : Int) (inn out : ByteArray) (fin : Bool) (sp dp sq ac fl wi : Int) (da : ByteArray) (dm : ByteArray) (di1 dp1 dd ds du dn dw : Int) (dI dO : ByteArray) (dF : Bool) (w : World) (ho : out.size ≤ 1048576) (hu : 0 ≤ un ∧ un ≤ 4294967295) (ha : 0 ≤ ac ∧ ac ≤ 4294967295)
    (hk : 1 ≤ sqN (ac - un) ∧ sqN (ac - un) ≤ sentN ⟨mc, ip, po, di, st, un, nx, wa, inn, out, fin⟩ → ∀ w, Calls Try.prog 67 #[.agg #[.string mc, .int .i64 ip, .int .i64 po, .int .i64 di, .int .i64 st, .int .i64 un, .int .i64 nx, .int .i64 wa, .string inn, .string out, .bool fin], .int .i64 (sqN (ac - un))] w fun e w' => e = .returned (.agg #[.string dm, .int .i64 di1, .int .i64 dp1, .int .i64 dd, .int .i64 ds, .int .i64 du, .int .i64 dn, .int .i64 dw, .string dI, .string dO, .bool dF]) ∧ Below w.heap.size w w') :
    Calls Try.prog 86 #[.agg #[.string mc, .int .i64 ip, .int .i64 po, .int .i64 di, .int .i64 st, .int .i64 un, .int .i64 nx, .int .i64 wa, .string inn, .string out, .bool fin], .agg #[.int .i64 sp, .int .i64 dp, .int .i64 sq, .int .i64 ac, .int .i64 fl, .int .i64 wi, .string da], .func (.func 67) #[] #[]] w fun e w' => e = .returned (if 1 ≤ sqN (ac - un) ∧ sqN (ac - un) ≤ sentN ⟨mc, ip, po, di, st, un, nx, wa, inn, out, fin⟩ then .agg #[.string dm, .int .i64 di1, .int .i64 dp1, .int .i64 dd, .int .i64 ds, .int .i64 ac, .int .i64 dn, .int .i64 dw, .string dI, .string dO, .bool dF] else .agg #[.string mc, .int .i64 ip, .int .i64 po, .int .i64 di, .int .i64 st, .int .i64 un, .int .i64 nx, .int .i64 wa, .string inn, .string out, .bool fin]) ∧ Below w.heap.size w w' := by
  have BW : Hid (Below w.heap.size w (((w.alloc (.cells #[.string mc, .int .i64 ip, .int .i64 po, .int .i64 di, .int .i64 st, .int .i64 un, .int .i64 nx, .int .i64 wa, .string inn, .string out, .bool fin] 24)).alloc (.cells #[.int .i64 sp, .int .i64 dp, .int .i64 sq, .int .i64 ac, .int .i64 fl, .int .i64 wi, .string da] 27)).alloc (.cells #[.string ⟨#[]⟩, .int .i64 0, .int .i64 0, .int .i64 0, .int .i64 0, .int .i64 0, .int .i64 0, .int .i64 0, .string ⟨#[]⟩, .string ⟨#[]⟩, .bool false] 24))) := ((((Below.refl _ _).alloc (Nat.le_refl _) _).alloc (by simp) _).alloc (by simp; omega) _)
  have C0 : (Bx (((w.alloc (.cells #[.string mc, .int .i64 ip, .int .i64 po, .int .i64 di, .int .i64 st, .int .i64 un, .int .i64 nx, .int .i64 wa, .string inn, .string out, .bool fin] 24)).alloc (.cells #[.int .i64 sp, .int .i64 dp, .int .i64 sq, .int .i64 ac, .int .i64 fl, .int .i64 wi, .string da] 27)).alloc (.cells #[.string ⟨#[]⟩, .int .i64 0, .int .i64 0, .int .i64 0, .int .i64 0, .int .i64 0, .int .i64 0, .int .i64 0, .string ⟨#[]⟩, .string ⟨#[]⟩, .bool false] 24)) w.heap.size [.string mc, .int .i64 ip, .int .i64 po, .int .i64 di, .int .i64 st, .int .i64 un, .int .i64 nx, .int .i64 wa, .string inn, .string out, .bool fin]) := ((Bx.new w _ _).below ((Below.refl _ _).alloc (Nat.le_refl _) _)).below ((Below.refl _ _).alloc (Nat.le_refl _) _)
  have G0 : Hid (Bx (((w.alloc (.cells #[.string mc, .int .i64 ip, .int .i64 po, .int .i64 di, .int .i64 st, .int .i64 un, .int .i64 nx, .int .i64 wa, .string inn, .string out, .bool fin] 24)).alloc (.cells #[.int .i64 sp, .int .i64 dp, .int .i64 sq, .int .i64 ac, .int .i64 fl, .int .i64 wi, .string da] 27)).alloc (.cells #[.string ⟨#[]⟩, .int .i64 0, .int .i64 0, .int .i64 0, .int .i64 0, .int .i64 0, .int .i64 0, .int .i64 0, .string ⟨#[]⟩, .string ⟨#[]⟩, .bool false] 24)) (w.heap.size + 1) [.int .i64 sp, .int .i64 dp, .int .i64 sq, .int .i64 ac, .int .i64 fl, .int .i64 wi, .string da]) := by
    have h := (Bx.new (w.alloc (.cells #[.string mc, .int .i64 ip, .int .i64 po, .int .i64 di, .int .i64 st, .int .i64 un, .int .i64 nx, .int .i64 wa, .string inn, .string out, .bool fin] 24)) #[.int .i64 sp, .int .i64 dp, .int .i64 sq, .int .i64 ac, .int .i64 fl, .int .i64 wi, .string da] 27).below ((Below.refl _ _).alloc (Nat.le_refl _) (.cells #[.string ⟨#[]⟩, .int .i64 0, .int .i64 0, .int .i64 0, .int .i64 0, .int .i64 0, .int .i64 0, .int .i64 0, .string ⟨#[]⟩, .string ⟨#[]⟩, .bool false] 24))
    rw [World.size_alloc] at h
    exact h
  have R0 : (Bx (((w.alloc (.cells #[.string mc, .int .i64 ip, .int .i64 po, .int .i64 di, .int .i64 st, .int .i64 un, .int .i64 nx, .int .i64 wa, .string inn, .string out, .bool fin] 24)).alloc (.cells #[.int .i64 sp, .int .i64 dp, .int .i64 sq, .int .i64 ac, .int .i64 fl, .int .i64 wi, .string da] 27)).alloc (.cells #[.string ⟨#[]⟩, .int .i64 0, .int .i64 0, .int .i64 0, .int .i64 0, .int .i64 0, .int .i64 0, .int .i64 0, .string ⟨#[]⟩, .string ⟨#[]⟩, .bool false] 24)) (w.heap.size + 1 + 1) [.string ⟨#[]⟩, .int .i64 0, .int .i64 0, .int .i64 0, .int .i64 0, .int .i64 0, .int .i64 0, .int .i64 0, .string ⟨#[]⟩, .string ⟨#[]⟩, .bool false]) := by
    have h := Bx.new ((w.alloc (.cells #[.string mc, .int .i64 ip, .int .i64 po, .int .i64 di, .int .i64 st, .int .i64 un, .int .i64 nx, .int .i64 wa, .string inn, .string out, .bool fin] 24)).alloc (.cells #[.int .i64 sp, .int .i64 dp, .int .i64 sq, .int .i64 ac, .int .i64 fl, .int .i64 wi, .string da] 27)) #[.string ⟨#[]⟩, .int .i64 0, .int .i64 0, .int .i64 0, .int .i64 0, .int .i64 0, .int .i64 0, .int .i64 0, .string ⟨#[]⟩, .string ⟨#[]⟩, .bool false] 24
    rw [World.size_alloc, World.size_alloc] at h
    exact h
  have T1 : Hid (∀ w, Calls Try.prog 53 #[.int .i64 un, .int .i64 ac] w fun e w' => e = .returned (.int .i64 (sqN (ac - un))) ∧ w' = w) := fun w => seqWay_any un ac w hu.1 hu.2 ha.1 ha.2
  have T2 : Hid (∀ w, Calls Try.prog 41 #[.agg #[.string mc, .int .i64 ip, .int .i64 po, .int .i64 di, .int .i64 st, .int .i64 un, .int .i64 nx, .int .i64 wa, .string inn, .string out, .bool fin]] w fun e w' => e = .returned (.int .i64 (sentN ⟨mc, ip, po, di, st, un, nx, wa, inn, out, fin⟩)) ∧ Grw w w') := fun w => unack_any mc ip po di st un nx wa inn out fin w ho
  have T3 : Hid (∀ w, Calls Try.prog 52 #[.int .i64 (sqN (ac - un)), .int .i64 1, .int .i64 (sentN ⟨mc, ip, po, di, st, un, nx, wa, inn, out, fin⟩)] w fun e w' => e = .returned (.bool (decide (1 ≤ sqN (ac - un) ∧ sqN (ac - un) ≤ sentN ⟨mc, ip, po, di, st, un, nx, wa, inn, out, fin⟩))) ∧ w' = w) := fun w => between_any _ _ _ w
  generalize sqN (ac - un) = n at T1 T3 hk ⊢
  generalize sentN ⟨mc, ip, po, di, st, un, nx, wa, inn, out, fin⟩ = m at T2 T3 hk ⊢
  by_cases h : 1 ≤ n ∧ n ≤ m
  · rw [if_pos h]
    rw [decide_eq_true h] at T3
    have T4 : Hid (∀ w, Calls Try.prog 67 #[.agg #[.string mc, .int .i64 ip, .int .i64 po, .int .i64 di, .int .i64 st, .int .i64 un, .int .i64 nx, .int .i64 wa, .string inn, .string out, .bool fin], .int .i64 n] w fun e w' => e = .returned (.agg #[.string dm, .int .i64 di1, .int .i64 dp1, .int .i64 dd, .int .i64 ds, .int .i64 du, .int .i64 dn, .int .i64 dw, .string dI, .string dO, .bool dF]) ∧ Below w.heap.size w w') := hk h
    clear h hk hu ha
    go_enter Try.func86, Try.ntmps86
    go_wp2_with (first | (refine wpl_get rfl _ rfl _ rfl (by assumption) rfl ?_) | fail)
    refine (T1.out _).mono ?_
    rintro e w1 ⟨rfl, hw⟩
    subst hw
    go_wp2_with (first | (refine wpl_get rfl _ rfl _ rfl (by assumption) rfl ?_) | fail)
    refine (T2.out _).mono ?_
    rintro e w1 ⟨rfl, g1⟩
    have b1 := g1.below
    have B1 : Hid (Below w.heap.size w w1) := BW.out.trans (b1.mono (by simp; omega))
    have C1 : Bx w1 w.heap.size [.string mc, .int .i64 ip, .int .i64 po, .int .i64 di, .int .i64 st, .int .i64 un, .int .i64 nx, .int .i64 wa, .string inn, .string out, .bool fin] := C0.below b1
    have G1 : Hid (Bx w1 (w.heap.size + 1) [.int .i64 sp, .int .i64 dp, .int .i64 sq, .int .i64 ac, .int .i64 fl, .int .i64 wi, .string da]) := G0.out.below b1
    have R1 : Bx w1 (w.heap.size + 1 + 1) [.string ⟨#[]⟩, .int .i64 0, .int .i64 0, .int .i64 0, .int .i64 0, .int .i64 0, .int .i64 0, .int .i64 0, .string ⟨#[]⟩, .string ⟨#[]⟩, .bool false] := R0.below b1
    clear b1 g1 C0 R0
    go_wp2_with (first | (refine wpl_get rfl _ rfl _ rfl (by assumption) rfl ?_) | fail)
    refine (T3.out _).mono ?_
    rintro e w1 ⟨rfl, hw⟩
    subst hw
    go_wp2_with (first | (refine wpl_get rfl _ rfl _ rfl (by assumption) rfl ?_) | fail)
    refine (T4.out _).mono ?_
    rintro e w2 ⟨rfl, b2⟩
    have C2 : Bx w2 w.heap.size [.string mc, .int .i64 ip, .int .i64 po, .int .i64 di, .int .i64 st, .int .i64 un, .int .i64 nx, .int .i64 wa, .string inn, .string out, .bool fin] := C1.below b2
    have G2 : Hid (Bx w2 (w.heap.size + 1) [.int .i64 sp, .int .i64 dp, .int .i64 sq, .int .i64 ac, .int .i64 fl, .int .i64 wi, .string da]) := G1.out.below b2
    have R2 : Hid (Bx w2 (w.heap.size + 1 + 1) [.string ⟨#[]⟩, .int .i64 0, .int .i64 0, .int .i64 0, .int .i64 0, .int .i64 0, .int .i64 0, .int .i64 0, .string ⟨#[]⟩, .string ⟨#[]⟩, .bool false]) := R1.below b2
    have B2 : Hid (Below w.heap.size w w2) := B1.out.trans (b2.mono B1.out.size)
    clear b2 C1 R1 G1 B1
    go_wp2_with (first | (refine wpl_put rfl _ _ rfl (w.heap.size) _ rfl rfl C2 rfl rfl rfl ?_; intro w3 hw3 C3; have B3 : Hid (Below w.heap.size w w3) := (by rw [hw3]; exact below_cells (Nat.le_refl _) _ _ _ B2.out); have g3 : w3.cell? ⟨w.heap.size + 1, 3, none⟩ = some (.int .i64 ac) := (by rw [hw3]; exact (G2.out.apart _ (by omega)).cell 3 rfl); have c3 : w3.cell? ⟨w.heap.size, 5, none⟩ = some (.int .i64 du) := C3.cell 5 rfl; have f3 : w3.frozen? ⟨w.heap.size, 5, none⟩ = false := C3.thaw 5 (by simp); have C4 : Bx (w3.setCell ⟨w.heap.size, 5, none⟩ (.int .i64 ac)) w.heap.size [.string dm, .int .i64 di1, .int .i64 dp1, .int .i64 dd, .int .i64 ds, .int .i64 ac, .int .i64 dn, .int .i64 dw, .string dI, .string dO, .bool dF] := C3.field 5 _; have R4 : Bx (w3.setCell ⟨w.heap.size, 5, none⟩ (.int .i64 ac)) (w.heap.size + 1 + 1) [.string ⟨#[]⟩, .int .i64 0, .int .i64 0, .int .i64 0, .int .i64 0, .int .i64 0, .int .i64 0, .int .i64 0, .string ⟨#[]⟩, .string ⟨#[]⟩, .bool false] := (by rw [hw3]; exact (R2.out.apart _ (by omega)).far _ _ (by dsimp only; omega)); have B4 : Hid (Below w.heap.size w (w3.setCell ⟨w.heap.size, 5, none⟩ (.int .i64 ac))) := B3.out.setCell (Nat.le_refl _) _; clear hw3) | (refine wpl_put rfl _ _ rfl (w.heap.size + 1 + 1) _ rfl rfl R4 rfl rfl rfl ?_; intro w5 hw5 R5; have B5 : Hid (Below w.heap.size w w5) := (by rw [hw5]; exact below_cells (by omega) _ _ _ B4.out); clear hw5) | (refine wpl_get rfl _ rfl _ rfl (by assumption) rfl ?_) | fail)
    have xx0 : w5.cell? ⟨w.heap.size + 1 + 1, 0, none⟩ = some (.string dm) := R5.cell 0 rfl
    have xx1 : w5.cell? ⟨w.heap.size + 1 + 1, 1, none⟩ = some (.int .i64 di1) := R5.cell 1 rfl
    have xx2 : w5.cell? ⟨w.heap.size + 1 + 1, 2, none⟩ = some (.int .i64 dp1) := R5.cell 2 rfl
    have xx3 : w5.cell? ⟨w.heap.size + 1 + 1, 3, none⟩ = some (.int .i64 dd) := R5.cell 3 rfl
    have xx4 : w5.cell? ⟨w.heap.size + 1 + 1, 4, none⟩ = some (.int .i64 ds) := R5.cell 4 rfl
    have xx5 : w5.cell? ⟨w.heap.size + 1 + 1, 5, none⟩ = some (.int .i64 ac) := R5.cell 5 rfl
    have xx6 : w5.cell? ⟨w.heap.size + 1 + 1, 6, none⟩ = some (.int .i64 dn) := R5.cell 6 rfl
    have xx7 : w5.cell? ⟨w.heap.size + 1 + 1, 7, none⟩ = some (.int .i64 dw) := R5.cell 7 rfl
    have xx8 : w5.cell? ⟨w.heap.size + 1 + 1, 8, none⟩ = some (.string dI) := R5.cell 8 rfl
    have xx9 : w5.cell? ⟨w.heap.size + 1 + 1, 9, none⟩ = some (.string dO) := R5.cell 9 rfl
    have xx10 : w5.cell? ⟨w.heap.size + 1 + 1, 10, none⟩ = some (.bool dF) := R5.cell 10 rfl
    (try simp only [Exit.inBlock, Exit.then])
    refine bodyPost_ret (v := .agg #[.string dm, .int .i64 di1, .int .i64 dp1, .int .i64 dd, .int .i64 ds, .int .i64 ac, .int .i64 dn, .int .i64 dw, .string dI, .string dO, .bool dF]) (by simp [results, Try.results86, go_sem, xx0, xx1, xx2, xx3, xx4, xx5, xx6, xx7, xx8, xx9, xx10]; try rfl) rfl ?_
    exact ⟨rfl, B5.out⟩
  · rw [if_neg h]
    rw [decide_eq_false h] at T3
    clear h hk hu ha
    go_enter Try.func86, Try.ntmps86
    go_wp2_with (first | (refine wpl_get rfl _ rfl _ rfl (by assumption) rfl ?_) | fail)
    refine (T1.out _).mono ?_
    rintro e w1 ⟨rfl, hw⟩
    subst hw
    go_wp2_with (first | (refine wpl_get rfl _ rfl _ rfl (by assumption) rfl ?_) | fail)
    refine (T2.out _).mono ?_
    rintro e w1 ⟨rfl, g1⟩
    have b1 := g1.below
    have B1 : Hid (Below w.heap.size w w1) := BW.out.trans (b1.mono (by simp; omega))
    have C1 : Bx w1 w.heap.size [.string mc, .int .i64 ip, .int .i64 po, .int .i64 di, .int .i64 st, .int .i64 un, .int .i64 nx, .int .i64 wa, .string inn, .string out, .bool fin] := C0.below b1
    have G1 : Hid (Bx w1 (w.heap.size + 1) [.int .i64 sp, .int .i64 dp, .int .i64 sq, .int .i64 ac, .int .i64 fl, .int .i64 wi, .string da]) := G0.out.below b1
    have R1 : Bx w1 (w.heap.size + 1 + 1) [.string ⟨#[]⟩, .int .i64 0, .int .i64 0, .int .i64 0, .int .i64 0, .int .i64 0, .int .i64 0, .int .i64 0, .string ⟨#[]⟩, .string ⟨#[]⟩, .bool false] := R0.below b1
    clear b1 g1 C0 R0
    go_wp2_with (first | (refine wpl_get rfl _ rfl _ rfl (by assumption) rfl ?_) | fail)
    refine (T3.out _).mono ?_
    rintro e w1 ⟨rfl, hw⟩
    subst hw
    go_wp2_with (first | (refine wpl_put rfl _ _ rfl (w.heap.size + 1 + 1) _ rfl rfl R1 rfl rfl rfl ?_; intro w5 hw5 R5; have B5 : Hid (Below w.heap.size w w5) := (by rw [hw5]; exact below_cells (by omega) _ _ _ B1.out); clear hw5) | (refine wpl_get rfl _ rfl _ rfl (by assumption) rfl ?_) | fail)
    have xx0 : w5.cell? ⟨w.heap.size + 1 + 1, 0, none⟩ = some (.string mc) := R5.cell 0 rfl
    have xx1 : w5.cell? ⟨w.heap.size + 1 + 1, 1, none⟩ = some (.int .i64 ip) := R5.cell 1 rfl
    have xx2 : w5.cell? ⟨w.heap.size + 1 + 1, 2, none⟩ = some (.int .i64 po) := R5.cell 2 rfl
    have xx3 : w5.cell? ⟨w.heap.size + 1 + 1, 3, none⟩ = some (.int .i64 di) := R5.cell 3 rfl
    have xx4 : w5.cell? ⟨w.heap.size + 1 + 1, 4, none⟩ = some (.int .i64 st) := R5.cell 4 rfl
    have xx5 : w5.cell? ⟨w.heap.size + 1 + 1, 5, none⟩ = some (.int .i64 un) := R5.cell 5 rfl
    have xx6 : w5.cell? ⟨w.heap.size + 1 + 1, 6, none⟩ = some (.int .i64 nx) := R5.cell 6 rfl
    have xx7 : w5.cell? ⟨w.heap.size + 1 + 1, 7, none⟩ = some (.int .i64 wa) := R5.cell 7 rfl
    have xx8 : w5.cell? ⟨w.heap.size + 1 + 1, 8, none⟩ = some (.string inn) := R5.cell 8 rfl
    have xx9 : w5.cell? ⟨w.heap.size + 1 + 1, 9, none⟩ = some (.string out) := R5.cell 9 rfl
    have xx10 : w5.cell? ⟨w.heap.size + 1 + 1, 10, none⟩ = some (.bool fin) := R5.cell 10 rfl
    (try simp only [Exit.inBlock, Exit.then])
    refine bodyPost_ret (v := .agg #[.string mc, .int .i64 ip, .int .i64 po, .int .i64 di, .int .i64 st, .int .i64 un, .int .i64 nx, .int .i64 wa, .string inn, .string out, .bool fin]) (by simp [results, Try.results86, go_sem, xx0, xx1, xx2, xx3, xx4, xx5, xx6, xx7, xx8, xx9, xx10]; try rfl) rfl ?_
    exact ⟨rfl, B5.out⟩
set_option maxHeartbeats 4000000 in
theorem ackO_any (mc : ByteArray) (ip po di st un nx wa : Int) (inn out : ByteArray) (fin : Bool) (sp dp sq ac fl wi : Int) (da : ByteArray) (dm : ByteArray) (di1 dp1 dd ds du dn dw : Int) (dI dO : ByteArray) (dF : Bool) (w : World) (ho : out.size ≤ 1048576) (hu : 0 ≤ un ∧ un ≤ 4294967295) (ha : 0 ≤ ac ∧ ac ≤ 4294967295)
    (hk : 1 ≤ sqN (ac - un) ∧ sqN (ac - un) ≤ sentN ⟨mc, ip, po, di, st, un, nx, wa, inn, out, fin⟩ → ∀ w, Calls Try.prog 69 #[.agg #[.string mc, .int .i64 ip, .int .i64 po, .int .i64 di, .int .i64 st, .int .i64 un, .int .i64 nx, .int .i64 wa, .string inn, .string out, .bool fin], .int .i64 (sqN (ac - un))] w fun e w' => e = .returned (.agg #[.string dm, .int .i64 di1, .int .i64 dp1, .int .i64 dd, .int .i64 ds, .int .i64 du, .int .i64 dn, .int .i64 dw, .string dI, .string dO, .bool dF]) ∧ Below w.heap.size w w') :
    Calls Try.prog 86 #[.agg #[.string mc, .int .i64 ip, .int .i64 po, .int .i64 di, .int .i64 st, .int .i64 un, .int .i64 nx, .int .i64 wa, .string inn, .string out, .bool fin], .agg #[.int .i64 sp, .int .i64 dp, .int .i64 sq, .int .i64 ac, .int .i64 fl, .int .i64 wi, .string da], .func (.func 69) #[] #[]] w fun e w' => e = .returned (if 1 ≤ sqN (ac - un) ∧ sqN (ac - un) ≤ sentN ⟨mc, ip, po, di, st, un, nx, wa, inn, out, fin⟩ then .agg #[.string dm, .int .i64 di1, .int .i64 dp1, .int .i64 dd, .int .i64 ds, .int .i64 ac, .int .i64 dn, .int .i64 dw, .string dI, .string dO, .bool dF] else .agg #[.string mc, .int .i64 ip, .int .i64 po, .int .i64 di, .int .i64 st, .int .i64 un, .int .i64 nx, .int .i64 wa, .string inn, .string out, .bool fin]) ∧ Below w.heap.size w w' := by
  have BW : Hid (Below w.heap.size w (((w.alloc (.cells #[.string mc, .int .i64 ip, .int .i64 po, .int .i64 di, .int .i64 st, .int .i64 un, .int .i64 nx, .int .i64 wa, .string inn, .string out, .bool fin] 24)).alloc (.cells #[.int .i64 sp, .int .i64 dp, .int .i64 sq, .int .i64 ac, .int .i64 fl, .int .i64 wi, .string da] 27)).alloc (.cells #[.string ⟨#[]⟩, .int .i64 0, .int .i64 0, .int .i64 0, .int .i64 0, .int .i64 0, .int .i64 0, .int .i64 0, .string ⟨#[]⟩, .string ⟨#[]⟩, .bool false] 24))) := ((((Below.refl _ _).alloc (Nat.le_refl _) _).alloc (by simp) _).alloc (by simp; omega) _)
  have C0 : (Bx (((w.alloc (.cells #[.string mc, .int .i64 ip, .int .i64 po, .int .i64 di, .int .i64 st, .int .i64 un, .int .i64 nx, .int .i64 wa, .string inn, .string out, .bool fin] 24)).alloc (.cells #[.int .i64 sp, .int .i64 dp, .int .i64 sq, .int .i64 ac, .int .i64 fl, .int .i64 wi, .string da] 27)).alloc (.cells #[.string ⟨#[]⟩, .int .i64 0, .int .i64 0, .int .i64 0, .int .i64 0, .int .i64 0, .int .i64 0, .int .i64 0, .string ⟨#[]⟩, .string ⟨#[]⟩, .bool false] 24)) w.heap.size [.string mc, .int .i64 ip, .int .i64 po, .int .i64 di, .int .i64 st, .int .i64 un, .int .i64 nx, .int .i64 wa, .string inn, .string out, .bool fin]) := ((Bx.new w _ _).below ((Below.refl _ _).alloc (Nat.le_refl _) _)).below ((Below.refl _ _).alloc (Nat.le_refl _) _)
  have G0 : Hid (Bx (((w.alloc (.cells #[.string mc, .int .i64 ip, .int .i64 po, .int .i64 di, .int .i64 st, .int .i64 un, .int .i64 nx, .int .i64 wa, .string inn, .string out, .bool fin] 24)).alloc (.cells #[.int .i64 sp, .int .i64 dp, .int .i64 sq, .int .i64 ac, .int .i64 fl, .int .i64 wi, .string da] 27)).alloc (.cells #[.string ⟨#[]⟩, .int .i64 0, .int .i64 0, .int .i64 0, .int .i64 0, .int .i64 0, .int .i64 0, .int .i64 0, .string ⟨#[]⟩, .string ⟨#[]⟩, .bool false] 24)) (w.heap.size + 1) [.int .i64 sp, .int .i64 dp, .int .i64 sq, .int .i64 ac, .int .i64 fl, .int .i64 wi, .string da]) := by
    have h := (Bx.new (w.alloc (.cells #[.string mc, .int .i64 ip, .int .i64 po, .int .i64 di, .int .i64 st, .int .i64 un, .int .i64 nx, .int .i64 wa, .string inn, .string out, .bool fin] 24)) #[.int .i64 sp, .int .i64 dp, .int .i64 sq, .int .i64 ac, .int .i64 fl, .int .i64 wi, .string da] 27).below ((Below.refl _ _).alloc (Nat.le_refl _) (.cells #[.string ⟨#[]⟩, .int .i64 0, .int .i64 0, .int .i64 0, .int .i64 0, .int .i64 0, .int .i64 0, .int .i64 0, .string ⟨#[]⟩, .string ⟨#[]⟩, .bool false] 24))
    rw [World.size_alloc] at h
    exact h
  have R0 : (Bx (((w.alloc (.cells #[.string mc, .int .i64 ip, .int .i64 po, .int .i64 di, .int .i64 st, .int .i64 un, .int .i64 nx, .int .i64 wa, .string inn, .string out, .bool fin] 24)).alloc (.cells #[.int .i64 sp, .int .i64 dp, .int .i64 sq, .int .i64 ac, .int .i64 fl, .int .i64 wi, .string da] 27)).alloc (.cells #[.string ⟨#[]⟩, .int .i64 0, .int .i64 0, .int .i64 0, .int .i64 0, .int .i64 0, .int .i64 0, .int .i64 0, .string ⟨#[]⟩, .string ⟨#[]⟩, .bool false] 24)) (w.heap.size + 1 + 1) [.string ⟨#[]⟩, .int .i64 0, .int .i64 0, .int .i64 0, .int .i64 0, .int .i64 0, .int .i64 0, .int .i64 0, .string ⟨#[]⟩, .string ⟨#[]⟩, .bool false]) := by
    have h := Bx.new ((w.alloc (.cells #[.string mc, .int .i64 ip, .int .i64 po, .int .i64 di, .int .i64 st, .int .i64 un, .int .i64 nx, .int .i64 wa, .string inn, .string out, .bool fin] 24)).alloc (.cells #[.int .i64 sp, .int .i64 dp, .int .i64 sq, .int .i64 ac, .int .i64 fl, .int .i64 wi, .string da] 27)) #[.string ⟨#[]⟩, .int .i64 0, .int .i64 0, .int .i64 0, .int .i64 0, .int .i64 0, .int .i64 0, .int .i64 0, .string ⟨#[]⟩, .string ⟨#[]⟩, .bool false] 24
    rw [World.size_alloc, World.size_alloc] at h
    exact h
  have T1 : Hid (∀ w, Calls Try.prog 53 #[.int .i64 un, .int .i64 ac] w fun e w' => e = .returned (.int .i64 (sqN (ac - un))) ∧ w' = w) := fun w => seqWay_any un ac w hu.1 hu.2 ha.1 ha.2
  have T2 : Hid (∀ w, Calls Try.prog 41 #[.agg #[.string mc, .int .i64 ip, .int .i64 po, .int .i64 di, .int .i64 st, .int .i64 un, .int .i64 nx, .int .i64 wa, .string inn, .string out, .bool fin]] w fun e w' => e = .returned (.int .i64 (sentN ⟨mc, ip, po, di, st, un, nx, wa, inn, out, fin⟩)) ∧ Grw w w') := fun w => unack_any mc ip po di st un nx wa inn out fin w ho
  have T3 : Hid (∀ w, Calls Try.prog 52 #[.int .i64 (sqN (ac - un)), .int .i64 1, .int .i64 (sentN ⟨mc, ip, po, di, st, un, nx, wa, inn, out, fin⟩)] w fun e w' => e = .returned (.bool (decide (1 ≤ sqN (ac - un) ∧ sqN (ac - un) ≤ sentN ⟨mc, ip, po, di, st, un, nx, wa, inn, out, fin⟩))) ∧ w' = w) := fun w => between_any _ _ _ w
  generalize sqN (ac - un) = n at T1 T3 hk ⊢
  generalize sentN ⟨mc, ip, po, di, st, un, nx, wa, inn, out, fin⟩ = m at T2 T3 hk ⊢
  by_cases h : 1 ≤ n ∧ n ≤ m
  · rw [if_pos h]
    rw [decide_eq_true h] at T3
    have T4 : Hid (∀ w, Calls Try.prog 69 #[.agg #[.string mc, .int .i64 ip, .int .i64 po, .int .i64 di, .int .i64 st, .int .i64 un, .int .i64 nx, .int .i64 wa, .string inn, .string out, .bool fin], .int .i64 n] w fun e w' => e = .returned (.agg #[.string dm, .int .i64 di1, .int .i64 dp1, .int .i64 dd, .int .i64 ds, .int .i64 du, .int .i64 dn, .int .i64 dw, .string dI, .string dO, .bool dF]) ∧ Below w.heap.size w w') := hk h
    clear h hk hu ha
    go_enter Try.func86, Try.ntmps86
    go_wp2_with (first | (refine wpl_get rfl _ rfl _ rfl (by assumption) rfl ?_) | fail)
    refine (T1.out _).mono ?_
    rintro e w1 ⟨rfl, hw⟩
    subst hw
    go_wp2_with (first | (refine wpl_get rfl _ rfl _ rfl (by assumption) rfl ?_) | fail)
    refine (T2.out _).mono ?_
    rintro e w1 ⟨rfl, g1⟩
    have b1 := g1.below
    have B1 : Hid (Below w.heap.size w w1) := BW.out.trans (b1.mono (by simp; omega))
    have C1 : Bx w1 w.heap.size [.string mc, .int .i64 ip, .int .i64 po, .int .i64 di, .int .i64 st, .int .i64 un, .int .i64 nx, .int .i64 wa, .string inn, .string out, .bool fin] := C0.below b1
    have G1 : Hid (Bx w1 (w.heap.size + 1) [.int .i64 sp, .int .i64 dp, .int .i64 sq, .int .i64 ac, .int .i64 fl, .int .i64 wi, .string da]) := G0.out.below b1
    have R1 : Bx w1 (w.heap.size + 1 + 1) [.string ⟨#[]⟩, .int .i64 0, .int .i64 0, .int .i64 0, .int .i64 0, .int .i64 0, .int .i64 0, .int .i64 0, .string ⟨#[]⟩, .string ⟨#[]⟩, .bool false] := R0.below b1
    clear b1 g1 C0 R0
    go_wp2_with (first | (refine wpl_get rfl _ rfl _ rfl (by assumption) rfl ?_) | fail)
    refine (T3.out _).mono ?_
    rintro e w1 ⟨rfl, hw⟩
    subst hw
    go_wp2_with (first | (refine wpl_get rfl _ rfl _ rfl (by assumption) rfl ?_) | fail)
    refine (T4.out _).mono ?_
    rintro e w2 ⟨rfl, b2⟩
    have C2 : Bx w2 w.heap.size [.string mc, .int .i64 ip, .int .i64 po, .int .i64 di, .int .i64 st, .int .i64 un, .int .i64 nx, .int .i64 wa, .string inn, .string out, .bool fin] := C1.below b2
    have G2 : Hid (Bx w2 (w.heap.size + 1) [.int .i64 sp, .int .i64 dp, .int .i64 sq, .int .i64 ac, .int .i64 fl, .int .i64 wi, .string da]) := G1.out.below b2
    have R2 : Hid (Bx w2 (w.heap.size + 1 + 1) [.string ⟨#[]⟩, .int .i64 0, .int .i64 0, .int .i64 0, .int .i64 0, .int .i64 0, .int .i64 0, .int .i64 0, .string ⟨#[]⟩, .string ⟨#[]⟩, .bool false]) := R1.below b2
    have B2 : Hid (Below w.heap.size w w2) := B1.out.trans (b2.mono B1.out.size)
    clear b2 C1 R1 G1 B1
    go_wp2_with (first | (refine wpl_put rfl _ _ rfl (w.heap.size) _ rfl rfl C2 rfl rfl rfl ?_; intro w3 hw3 C3; have B3 : Hid (Below w.heap.size w w3) := (by rw [hw3]; exact below_cells (Nat.le_refl _) _ _ _ B2.out); have g3 : w3.cell? ⟨w.heap.size + 1, 3, none⟩ = some (.int .i64 ac) := (by rw [hw3]; exact (G2.out.apart _ (by omega)).cell 3 rfl); have c3 : w3.cell? ⟨w.heap.size, 5, none⟩ = some (.int .i64 du) := C3.cell 5 rfl; have f3 : w3.frozen? ⟨w.heap.size, 5, none⟩ = false := C3.thaw 5 (by simp); have C4 : Bx (w3.setCell ⟨w.heap.size, 5, none⟩ (.int .i64 ac)) w.heap.size [.string dm, .int .i64 di1, .int .i64 dp1, .int .i64 dd, .int .i64 ds, .int .i64 ac, .int .i64 dn, .int .i64 dw, .string dI, .string dO, .bool dF] := C3.field 5 _; have R4 : Bx (w3.setCell ⟨w.heap.size, 5, none⟩ (.int .i64 ac)) (w.heap.size + 1 + 1) [.string ⟨#[]⟩, .int .i64 0, .int .i64 0, .int .i64 0, .int .i64 0, .int .i64 0, .int .i64 0, .int .i64 0, .string ⟨#[]⟩, .string ⟨#[]⟩, .bool false] := (by rw [hw3]; exact (R2.out.apart _ (by omega)).far _ _ (by dsimp only; omega)); have B4 : Hid (Below w.heap.size w (w3.setCell ⟨w.heap.size, 5, none⟩ (.int .i64 ac))) := B3.out.setCell (Nat.le_refl _) _; clear hw3) | (refine wpl_put rfl _ _ rfl (w.heap.size + 1 + 1) _ rfl rfl R4 rfl rfl rfl ?_; intro w5 hw5 R5; have B5 : Hid (Below w.heap.size w w5) := (by rw [hw5]; exact below_cells (by omega) _ _ _ B4.out); clear hw5) | (refine wpl_get rfl _ rfl _ rfl (by assumption) rfl ?_) | fail)
    have xx0 : w5.cell? ⟨w.heap.size + 1 + 1, 0, none⟩ = some (.string dm) := R5.cell 0 rfl
    have xx1 : w5.cell? ⟨w.heap.size + 1 + 1, 1, none⟩ = some (.int .i64 di1) := R5.cell 1 rfl
    have xx2 : w5.cell? ⟨w.heap.size + 1 + 1, 2, none⟩ = some (.int .i64 dp1) := R5.cell 2 rfl
    have xx3 : w5.cell? ⟨w.heap.size + 1 + 1, 3, none⟩ = some (.int .i64 dd) := R5.cell 3 rfl
    have xx4 : w5.cell? ⟨w.heap.size + 1 + 1, 4, none⟩ = some (.int .i64 ds) := R5.cell 4 rfl
    have xx5 : w5.cell? ⟨w.heap.size + 1 + 1, 5, none⟩ = some (.int .i64 ac) := R5.cell 5 rfl
    have xx6 : w5.cell? ⟨w.heap.size + 1 + 1, 6, none⟩ = some (.int .i64 dn) := R5.cell 6 rfl
    have xx7 : w5.cell? ⟨w.heap.size + 1 + 1, 7, none⟩ = some (.int .i64 dw) := R5.cell 7 rfl
    have xx8 : w5.cell? ⟨w.heap.size + 1 + 1, 8, none⟩ = some (.string dI) := R5.cell 8 rfl
    have xx9 : w5.cell? ⟨w.heap.size + 1 + 1, 9, none⟩ = some (.string dO) := R5.cell 9 rfl
    have xx10 : w5.cell? ⟨w.heap.size + 1 + 1, 10, none⟩ = some (.bool dF) := R5.cell 10 rfl
    (try simp only [Exit.inBlock, Exit.then])
    refine bodyPost_ret (v := .agg #[.string dm, .int .i64 di1, .int .i64 dp1, .int .i64 dd, .int .i64 ds, .int .i64 ac, .int .i64 dn, .int .i64 dw, .string dI, .string dO, .bool dF]) (by simp [results, Try.results86, go_sem, xx0, xx1, xx2, xx3, xx4, xx5, xx6, xx7, xx8, xx9, xx10]; try rfl) rfl ?_
    exact ⟨rfl, B5.out⟩
  · rw [if_neg h]
    rw [decide_eq_false h] at T3
    clear h hk hu ha
    go_enter Try.func86, Try.ntmps86
    go_wp2_with (first | (refine wpl_get rfl _ rfl _ rfl (by assumption) rfl ?_) | fail)
    refine (T1.out _).mono ?_
    rintro e w1 ⟨rfl, hw⟩
    subst hw
    go_wp2_with (first | (refine wpl_get rfl _ rfl _ rfl (by assumption) rfl ?_) | fail)
    refine (T2.out _).mono ?_
    rintro e w1 ⟨rfl, g1⟩
    have b1 := g1.below
    have B1 : Hid (Below w.heap.size w w1) := BW.out.trans (b1.mono (by simp; omega))
    have C1 : Bx w1 w.heap.size [.string mc, .int .i64 ip, .int .i64 po, .int .i64 di, .int .i64 st, .int .i64 un, .int .i64 nx, .int .i64 wa, .string inn, .string out, .bool fin] := C0.below b1
    have G1 : Hid (Bx w1 (w.heap.size + 1) [.int .i64 sp, .int .i64 dp, .int .i64 sq, .int .i64 ac, .int .i64 fl, .int .i64 wi, .string da]) := G0.out.below b1
    have R1 : Bx w1 (w.heap.size + 1 + 1) [.string ⟨#[]⟩, .int .i64 0, .int .i64 0, .int .i64 0, .int .i64 0, .int .i64 0, .int .i64 0, .int .i64 0, .string ⟨#[]⟩, .string ⟨#[]⟩, .bool false] := R0.below b1
    clear b1 g1 C0 R0
    go_wp2_with (first | (refine wpl_get rfl _ rfl _ rfl (by assumption) rfl ?_) | fail)
    refine (T3.out _).mono ?_
    rintro e w1 ⟨rfl, hw⟩
    subst hw
    go_wp2_with (first | (refine wpl_put rfl _ _ rfl (w.heap.size + 1 + 1) _ rfl rfl R1 rfl rfl rfl ?_; intro w5 hw5 R5; have B5 : Hid (Below w.heap.size w w5) := (by rw [hw5]; exact below_cells (by omega) _ _ _ B1.out); clear hw5) | (refine wpl_get rfl _ rfl _ rfl (by assumption) rfl ?_) | fail)
    have xx0 : w5.cell? ⟨w.heap.size + 1 + 1, 0, none⟩ = some (.string mc) := R5.cell 0 rfl
    have xx1 : w5.cell? ⟨w.heap.size + 1 + 1, 1, none⟩ = some (.int .i64 ip) := R5.cell 1 rfl
    have xx2 : w5.cell? ⟨w.heap.size + 1 + 1, 2, none⟩ = some (.int .i64 po) := R5.cell 2 rfl
    have xx3 : w5.cell? ⟨w.heap.size + 1 + 1, 3, none⟩ = some (.int .i64 di) := R5.cell 3 rfl
    have xx4 : w5.cell? ⟨w.heap.size + 1 + 1, 4, none⟩ = some (.int .i64 st) := R5.cell 4 rfl
    have xx5 : w5.cell? ⟨w.heap.size + 1 + 1, 5, none⟩ = some (.int .i64 un) := R5.cell 5 rfl
    have xx6 : w5.cell? ⟨w.heap.size + 1 + 1, 6, none⟩ = some (.int .i64 nx) := R5.cell 6 rfl
    have xx7 : w5.cell? ⟨w.heap.size + 1 + 1, 7, none⟩ = some (.int .i64 wa) := R5.cell 7 rfl
    have xx8 : w5.cell? ⟨w.heap.size + 1 + 1, 8, none⟩ = some (.string inn) := R5.cell 8 rfl
    have xx9 : w5.cell? ⟨w.heap.size + 1 + 1, 9, none⟩ = some (.string out) := R5.cell 9 rfl
    have xx10 : w5.cell? ⟨w.heap.size + 1 + 1, 10, none⟩ = some (.bool fin) := R5.cell 10 rfl
    (try simp only [Exit.inBlock, Exit.then])
    refine bodyPost_ret (v := .agg #[.string mc, .int .i64 ip, .int .i64 po, .int .i64 di, .int .i64 st, .int .i64 un, .int .i64 nx, .int .i64 wa, .string inn, .string out, .bool fin]) (by simp [results, Try.results86, go_sem, xx0, xx1, xx2, xx3, xx4, xx5, xx6, xx7, xx8, xx9, xx10]; try rfl) rfl ?_
    exact ⟨rfl, B5.out⟩
end Go.Proofs.Ytfgghffgfefgpaa

namespace Go.Proofs.Ytfgghffgfefgpaa
open Go.RowKit Go.PlainAid Go.Proofs.Ytfgghffgfefgpaa.Bt Go.Sort
set_option linter.unusedVariables false
set_option maxRecDepth 20000

theorem open_sent {c : ConnV} (hok : okB c = true) (hs : c.st = 2) : sentN c = 0 := by
  obtain ⟨_, h2, h3⟩ := open_says hok hs
  unfold sentN
  rw [h2, h3, hs]
  decide
set_option maxHeartbeats 8000000 in
theorem l10Acked_any (mc : ByteArray) (ip po di st un nx wa : Int) (inn out : ByteArray) (fin : Bool) (a : Int) (w : World) (hok : okB ⟨mc, ip, po, di, st, un, nx, wa, inn, out, fin⟩ = true) (hst : st ≠ 4) (ha : 0 ≤ a ∧ a ≤ 4294967295) :
    Calls Try.prog 78 #[.agg #[.string mc, .int .i64 ip, .int .i64 po, .int .i64 di, .int .i64 st, .int .i64 un, .int .i64 nx, .int .i64 wa, .string inn, .string out, .bool fin], .int .i64 a] w fun e w' => e = .returned (cvA (akV ⟨mc, ip, po, di, st, un, nx, wa, inn, out, fin⟩ a)) ∧ Below w.heap.size w w' := by
  have hn := nuB_bd (okB_says hok).1
  have hx := txB_bd (okB_says hok).2
  have hop := open_sent (c := ⟨mc, ip, po, di, st, un, nx, wa, inn, out, fin⟩) hok
  dsimp only at hn hx hop
  have TQ : Hid (∀ w, Calls Try.prog 61 #[.int .i64 (a - un)] w fun e w' => e = .returned (.int .i64 (sqN (a - un))) ∧ w' = w) := fun w => l10Seq_any _ w (by omega) (by omega)
  have TS : Hid (∀ w, Calls Try.prog 75 #[.agg #[.string mc, .int .i64 ip, .int .i64 po, .int .i64 di, .int .i64 st, .int .i64 un, .int .i64 nx, .int .i64 wa, .string inn, .string out, .bool fin]] w fun e w' => e = .returned (.int .i64 (sentN ⟨mc, ip, po, di, st, un, nx, wa, inn, out, fin⟩)) ∧ Grw w w') := fun w => l10Sent_any mc ip po di st un nx wa inn out fin w (by omega)
  have ew : IntKind.i64.wrap (a - un) = a - un := by rw [IntKind.wrap_i64]; omega
  have EA : akV ⟨mc, ip, po, di, st, un, nx, wa, inn, out, fin⟩ a = if 1 ≤ sqN (a - un) ∧ sqN (a - un) ≤ sentN ⟨mc, ip, po, di, st, un, nx, wa, inn, out, fin⟩ then (if st = 1 then ⟨mc, ip, po, di, 2, a, nx, wa, inn, out, fin⟩ else if (sqN (a - un)).toNat ≤ out.size then ⟨mc, ip, po, di, st, a, nx, wa, inn, out.extract (sqN (a - un)).toNat out.size, fin⟩ else ⟨mc, ip, po, di, 4, a, nx, wa, inn, ⟨#[]⟩, false⟩) else ⟨mc, ip, po, di, st, un, nx, wa, inn, out, fin⟩ := rfl
  have hb := sqN_bd (a - un)
  have hm := sentN_bd ⟨mc, ip, po, di, st, un, nx, wa, inn, out, fin⟩
  dsimp only at hm
  have hou := hx.2.2.1
  have hstr := hn.2.2.2.1
  clear hok hn hx
  generalize akV ⟨mc, ip, po, di, st, un, nx, wa, inn, out, fin⟩ a = V at EA ⊢
  generalize sqN (a - un) = n at TQ EA hb ⊢
  generalize sentN ⟨mc, ip, po, di, st, un, nx, wa, inn, out, fin⟩ = m at TS EA hop hm ⊢
  obtain ⟨k, rfl⟩ := Int.eq_ofNat_of_zero_le hb.1
  rw [Int.toNat_natCast] at EA
  by_cases h0 : k = 0
  · rw [if_neg (by omega)] at EA
    rw [EA]
    have t0 : ((k : Int) == 0) = true := by simp [h0]
    clear EA hop hm hb
    go_enter Try.func78, Try.ntmps78
    go_wp2_with fail
    refine (TQ.out _).mono ?_
    rintro e w1 ⟨rfl, hw⟩
    subst hw
    go_wp2
    (try simp only [Exit.inBlock, Exit.then])
    refine bodyPost_ret (v := .agg #[.string mc, .int .i64 ip, .int .i64 po, .int .i64 di, .int .i64 st, .int .i64 un, .int .i64 nx, .int .i64 wa, .string inn, .string out, .bool fin]) (by simp [results, Try.results78, go_sem]; try rfl) rfl ?_
    exact ⟨rfl, (((Below.refl _ _).alloc (Nat.le_refl _) _).alloc (by simp) _)⟩
  have t0 : ((k : Int) == 0) = false := by simp [h0]
  by_cases hgt : m < (k : Int)
  · rw [if_neg (by omega)] at EA
    rw [EA]
    clear EA hop hm hb
    have C0 : Bx ((w.alloc (.cells #[.string mc, .int .i64 ip, .int .i64 po, .int .i64 di, .int .i64 st, .int .i64 un, .int .i64 nx, .int .i64 wa, .string inn, .string out, .bool fin] 24)).alloc (.cells #[.string ⟨#[]⟩, .int .i64 0, .int .i64 0, .int .i64 0, .int .i64 0, .int .i64 0, .int .i64 0, .int .i64 0, .string ⟨#[]⟩, .string ⟨#[]⟩, .bool false] 24)) w.heap.size [.string mc, .int .i64 ip, .int .i64 po, .int .i64 di, .int .i64 st, .int .i64 un, .int .i64 nx, .int .i64 wa, .string inn, .string out, .bool fin] := (Bx.new w _ _).below ((Below.refl _ _).alloc (Nat.le_refl _) _)
    have R0 : Bx ((w.alloc (.cells #[.string mc, .int .i64 ip, .int .i64 po, .int .i64 di, .int .i64 st, .int .i64 un, .int .i64 nx, .int .i64 wa, .string inn, .string out, .bool fin] 24)).alloc (.cells #[.string ⟨#[]⟩, .int .i64 0, .int .i64 0, .int .i64 0, .int .i64 0, .int .i64 0, .int .i64 0, .int .i64 0, .string ⟨#[]⟩, .string ⟨#[]⟩, .bool false] 24)) (w.heap.size + 1) [.string ⟨#[]⟩, .int .i64 0, .int .i64 0, .int .i64 0, .int .i64 0, .int .i64 0, .int .i64 0, .int .i64 0, .string ⟨#[]⟩, .string ⟨#[]⟩, .bool false] := by
      have h := Bx.new (w.alloc (.cells #[.string mc, .int .i64 ip, .int .i64 po, .int .i64 di, .int .i64 st, .int .i64 un, .int .i64 nx, .int .i64 wa, .string inn, .string out, .bool fin] 24)) #[.string ⟨#[]⟩, .int .i64 0, .int .i64 0, .int .i64 0, .int .i64 0, .int .i64 0, .int .i64 0, .int .i64 0, .string ⟨#[]⟩, .string ⟨#[]⟩, .bool false] 24
      rw [World.size_alloc] at h
      exact h
    have B0 : Hid (Below w.heap.size w ((w.alloc (.cells #[.string mc, .int .i64 ip, .int .i64 po, .int .i64 di, .int .i64 st, .int .i64 un, .int .i64 nx, .int .i64 wa, .string inn, .string out, .bool fin] 24)).alloc (.cells #[.string ⟨#[]⟩, .int .i64 0, .int .i64 0, .int .i64 0, .int .i64 0, .int .i64 0, .int .i64 0, .int .i64 0, .string ⟨#[]⟩, .string ⟨#[]⟩, .bool false] 24))) := (((Below.refl _ _).alloc (Nat.le_refl _) _).alloc (by simp) _)
    go_enter Try.func78, Try.ntmps78
    go_wp2_with fail
    refine (TQ.out _).mono ?_
    rintro e w1 ⟨rfl, hw⟩
    subst hw
    go_wp2_with (first | (refine wpl_get rfl _ rfl _ rfl (by assumption) rfl ?_) | fail)
    refine (TS.out _).mono ?_
    rintro e w1 ⟨rfl, g1⟩
    have b1 := g1.below
    have C1 : Bx w1 w.heap.size [.string mc, .int .i64 ip, .int .i64 po, .int .i64 di, .int .i64 st, .int .i64 un, .int .i64 nx, .int .i64 wa, .string inn, .string out, .bool fin] := C0.below b1
    have R1 : Bx w1 (w.heap.size + 1) [.string ⟨#[]⟩, .int .i64 0, .int .i64 0, .int .i64 0, .int .i64 0, .int .i64 0, .int .i64 0, .int .i64 0, .string ⟨#[]⟩, .string ⟨#[]⟩, .bool false] := R0.below b1
    have B1 : Hid (Below w.heap.size w w1) := B0.out.trans (b1.mono B0.out.size)
    clear b1 g1 C0 R0 B0
    go_wp2_with (first | (refine wpl_put rfl _ _ rfl (w.heap.size + 1) _ rfl rfl R1 rfl rfl rfl ?_; intro w5 hw5 R5; have B5 : Hid (Below w.heap.size w w5) := (by rw [hw5]; exact below_cells (by omega) _ _ _ B1.out); clear hw5) | (refine wpl_get rfl _ rfl _ rfl (by assumption) rfl ?_) | fail)
    have xx0 : w5.cell? ⟨w.heap.size + 1, 0, none⟩ = some (.string mc) := R5.cell 0 rfl
    have xx1 : w5.cell? ⟨w.heap.size + 1, 1, none⟩ = some (.int .i64 ip) := R5.cell 1 rfl
    have xx2 : w5.cell? ⟨w.heap.size + 1, 2, none⟩ = some (.int .i64 po) := R5.cell 2 rfl
    have xx3 : w5.cell? ⟨w.heap.size + 1, 3, none⟩ = some (.int .i64 di) := R5.cell 3 rfl
    have xx4 : w5.cell? ⟨w.heap.size + 1, 4, none⟩ = some (.int .i64 st) := R5.cell 4 rfl
    have xx5 : w5.cell? ⟨w.heap.size + 1, 5, none⟩ = some (.int .i64 un) := R5.cell 5 rfl
    have xx6 : w5.cell? ⟨w.heap.size + 1, 6, none⟩ = some (.int .i64 nx) := R5.cell 6 rfl
    have xx7 : w5.cell? ⟨w.heap.size + 1, 7, none⟩ = some (.int .i64 wa) := R5.cell 7 rfl
    have xx8 : w5.cell? ⟨w.heap.size + 1, 8, none⟩ = some (.string inn) := R5.cell 8 rfl
    have xx9 : w5.cell? ⟨w.heap.size + 1, 9, none⟩ = some (.string out) := R5.cell 9 rfl
    have xx10 : w5.cell? ⟨w.heap.size + 1, 10, none⟩ = some (.bool fin) := R5.cell 10 rfl
    (try simp only [Exit.inBlock, Exit.then])
    refine bodyPost_ret (v := .agg #[.string mc, .int .i64 ip, .int .i64 po, .int .i64 di, .int .i64 st, .int .i64 un, .int .i64 nx, .int .i64 wa, .string inn, .string out, .bool fin]) (by simp [results, Try.results78, go_sem, xx0, xx1, xx2, xx3, xx4, xx5, xx6, xx7, xx8, xx9, xx10]; try rfl) rfl ?_
    exact ⟨rfl, B5.out⟩
  have hle : ¬ m < (k : Int) := hgt
  rw [if_pos (by omega)] at EA
  by_cases h1 : st = 1
  · rw [if_pos h1] at EA
    rw [EA]
    have t1 : (st == 1) = true := by simp [h1]
    clear EA hop hb h1
    have C0 : Bx ((w.alloc (.cells #[.string mc, .int .i64 ip, .int .i64 po, .int .i64 di, .int .i64 st, .int .i64 un, .int .i64 nx, .int .i64 wa, .string inn, .string out, .bool fin] 24)).alloc (.cells #[.string ⟨#[]⟩, .int .i64 0, .int .i64 0, .int .i64 0, .int .i64 0, .int .i64 0, .int .i64 0, .int .i64 0, .string ⟨#[]⟩, .string ⟨#[]⟩, .bool false] 24)) w.heap.size [.string mc, .int .i64 ip, .int .i64 po, .int .i64 di, .int .i64 st, .int .i64 un, .int .i64 nx, .int .i64 wa, .string inn, .string out, .bool fin] := (Bx.new w _ _).below ((Below.refl _ _).alloc (Nat.le_refl _) _)
    have R0 : Bx ((w.alloc (.cells #[.string mc, .int .i64 ip, .int .i64 po, .int .i64 di, .int .i64 st, .int .i64 un, .int .i64 nx, .int .i64 wa, .string inn, .string out, .bool fin] 24)).alloc (.cells #[.string ⟨#[]⟩, .int .i64 0, .int .i64 0, .int .i64 0, .int .i64 0, .int .i64 0, .int .i64 0, .int .i64 0, .string ⟨#[]⟩, .string ⟨#[]⟩, .bool false] 24)) (w.heap.size + 1) [.string ⟨#[]⟩, .int .i64 0, .int .i64 0, .int .i64 0, .int .i64 0, .int .i64 0, .int .i64 0, .int .i64 0, .string ⟨#[]⟩, .string ⟨#[]⟩, .bool false] := by
      have h := Bx.new (w.alloc (.cells #[.string mc, .int .i64 ip, .int .i64 po, .int .i64 di, .int .i64 st, .int .i64 un, .int .i64 nx, .int .i64 wa, .string inn, .string out, .bool fin] 24)) #[.string ⟨#[]⟩, .int .i64 0, .int .i64 0, .int .i64 0, .int .i64 0, .int .i64 0, .int .i64 0, .int .i64 0, .string ⟨#[]⟩, .string ⟨#[]⟩, .bool false] 24
      rw [World.size_alloc] at h
      exact h
    have B0 : Hid (Below w.heap.size w ((w.alloc (.cells #[.string mc, .int .i64 ip, .int .i64 po, .int .i64 di, .int .i64 st, .int .i64 un, .int .i64 nx, .int .i64 wa, .string inn, .string out, .bool fin] 24)).alloc (.cells #[.string ⟨#[]⟩, .int .i64 0, .int .i64 0, .int .i64 0, .int .i64 0, .int .i64 0, .int .i64 0, .int .i64 0, .string ⟨#[]⟩, .string ⟨#[]⟩, .bool false] 24))) := (((Below.refl _ _).alloc (Nat.le_refl _) _).alloc (by simp) _)
    go_enter Try.func78, Try.ntmps78
    go_wp2_with fail
    refine (TQ.out _).mono ?_
    rintro e w1 ⟨rfl, hw⟩
    subst hw
    go_wp2_with (first | (refine wpl_get rfl _ rfl _ rfl (by assumption) rfl ?_) | fail)
    refine (TS.out _).mono ?_
    rintro e w1 ⟨rfl, g1⟩
    have b1 := g1.below
    have C1 : Bx w1 w.heap.size [.string mc, .int .i64 ip, .int .i64 po, .int .i64 di, .int .i64 st, .int .i64 un, .int .i64 nx, .int .i64 wa, .string inn, .string out, .bool fin] := C0.below b1
    have R1 : Bx w1 (w.heap.size + 1) [.string ⟨#[]⟩, .int .i64 0, .int .i64 0, .int .i64 0, .int .i64 0, .int .i64 0, .int .i64 0, .int .i64 0, .string ⟨#[]⟩, .string ⟨#[]⟩, .bool false] := R0.below b1
    have B1 : Hid (Below w.heap.size w w1) := B0.out.trans (b1.mono B0.out.size)
    clear b1 g1 C0 R0 B0
    have v4 : w1.cell? ⟨w.heap.size, 4, none⟩ = some (.int .i64 st) := C1.cell 4 rfl
    have f4 : w1.frozen? ⟨w.heap.size, 4, none⟩ = false := C1.thaw 4 (by simp)
    have v5 : w1.cell? ⟨w.heap.size, 5, none⟩ = some (.int .i64 un) := C1.cell 5 rfl
    have f5 : w1.frozen? ⟨w.heap.size, 5, none⟩ = false := C1.thaw 5 (by simp)
    have C4 : Bx ((w1.setCell ⟨w.heap.size, 4, none⟩ (.int .i64 2)).setCell ⟨w.heap.size, 5, none⟩ (.int .i64 a)) w.heap.size [.string mc, .int .i64 ip, .int .i64 po, .int .i64 di, .int .i64 2, .int .i64 a, .int .i64 nx, .int .i64 wa, .string inn, .string out, .bool fin] := ((C1.field 4 (.int .i64 2)).field 5 (.int .i64 a))
    have R4 : Bx ((w1.setCell ⟨w.heap.size, 4, none⟩ (.int .i64 2)).setCell ⟨w.heap.size, 5, none⟩ (.int .i64 a)) (w.heap.size + 1) [.string ⟨#[]⟩, .int .i64 0, .int .i64 0, .int .i64 0, .int .i64 0, .int .i64 0, .int .i64 0, .int .i64 0, .string ⟨#[]⟩, .string ⟨#[]⟩, .bool false] := ((R1.far ⟨w.heap.size, 4, none⟩ (.int .i64 2) (by dsimp only; omega)).far ⟨w.heap.size, 5, none⟩ (.int .i64 a) (by dsimp only; omega))
    have B4 : Hid (Below w.heap.size w ((w1.setCell ⟨w.heap.size, 4, none⟩ (.int .i64 2)).setCell ⟨w.heap.size, 5, none⟩ (.int .i64 a))) := ((B1.out.setCell (p := ⟨w.heap.size, 4, none⟩) (Nat.le_refl _) (.int .i64 2)).setCell (p := ⟨w.heap.size, 5, none⟩) (Nat.le_refl _) (.int .i64 a))
    go_wp2_with (first | (refine wpl_put rfl _ _ rfl (w.heap.size + 1) _ rfl rfl R4 rfl rfl rfl ?_; intro w5 hw5 R5; have B5 : Hid (Below w.heap.size w w5) := (by rw [hw5]; exact below_cells (by omega) _ _ _ B4.out); clear hw5) | (refine wpl_get rfl _ rfl _ rfl (by assumption) rfl ?_) | fail)
    have xx0 : w5.cell? ⟨w.heap.size + 1, 0, none⟩ = some (.string mc) := R5.cell 0 rfl
    have xx1 : w5.cell? ⟨w.heap.size + 1, 1, none⟩ = some (.int .i64 ip) := R5.cell 1 rfl
    have xx2 : w5.cell? ⟨w.heap.size + 1, 2, none⟩ = some (.int .i64 po) := R5.cell 2 rfl
    have xx3 : w5.cell? ⟨w.heap.size + 1, 3, none⟩ = some (.int .i64 di) := R5.cell 3 rfl
    have xx4 : w5.cell? ⟨w.heap.size + 1, 4, none⟩ = some (.int .i64 2) := R5.cell 4 rfl
    have xx5 : w5.cell? ⟨w.heap.size + 1, 5, none⟩ = some (.int .i64 a) := R5.cell 5 rfl
    have xx6 : w5.cell? ⟨w.heap.size + 1, 6, none⟩ = some (.int .i64 nx) := R5.cell 6 rfl
    have xx7 : w5.cell? ⟨w.heap.size + 1, 7, none⟩ = some (.int .i64 wa) := R5.cell 7 rfl
    have xx8 : w5.cell? ⟨w.heap.size + 1, 8, none⟩ = some (.string inn) := R5.cell 8 rfl
    have xx9 : w5.cell? ⟨w.heap.size + 1, 9, none⟩ = some (.string out) := R5.cell 9 rfl
    have xx10 : w5.cell? ⟨w.heap.size + 1, 10, none⟩ = some (.bool fin) := R5.cell 10 rfl
    (try simp only [Exit.inBlock, Exit.then])
    refine bodyPost_ret (v := .agg #[.string mc, .int .i64 ip, .int .i64 po, .int .i64 di, .int .i64 2, .int .i64 a, .int .i64 nx, .int .i64 wa, .string inn, .string out, .bool fin]) (by simp [results, Try.results78, go_sem, xx0, xx1, xx2, xx3, xx4, xx5, xx6, xx7, xx8, xx9, xx10]; try rfl) rfl ?_
    exact ⟨rfl, B5.out⟩
  rw [if_neg h1] at EA
  have h3 : st = 3 := by
    have : st ≠ 2 := fun h => by have := hop h; omega
    omega
  have t1 : (st == 1) = false := by simp [h1]
  have t3 : (st == 3) = true := by simp [h3]
  by_cases ho : k ≤ out.size
  · rw [if_pos ho] at EA
    rw [EA]
    have q1 : (k : Int) ≤ (out.size : Int) := by omega
    have q2 : ¬ (out.size : Int) < (k : Int) := by omega
    clear EA hop hb h1 h3
    have C0 : Bx ((w.alloc (.cells #[.string mc, .int .i64 ip, .int .i64 po, .int .i64 di, .int .i64 st, .int .i64 un, .int .i64 nx, .int .i64 wa, .string inn, .string out, .bool fin] 24)).alloc (.cells #[.string ⟨#[]⟩, .int .i64 0, .int .i64 0, .int .i64 0, .int .i64 0, .int .i64 0, .int .i64 0, .int .i64 0, .string ⟨#[]⟩, .string ⟨#[]⟩, .bool false] 24)) w.heap.size [.string mc, .int .i64 ip, .int .i64 po, .int .i64 di, .int .i64 st, .int .i64 un, .int .i64 nx, .int .i64 wa, .string inn, .string out, .bool fin] := (Bx.new w _ _).below ((Below.refl _ _).alloc (Nat.le_refl _) _)
    have R0 : Bx ((w.alloc (.cells #[.string mc, .int .i64 ip, .int .i64 po, .int .i64 di, .int .i64 st, .int .i64 un, .int .i64 nx, .int .i64 wa, .string inn, .string out, .bool fin] 24)).alloc (.cells #[.string ⟨#[]⟩, .int .i64 0, .int .i64 0, .int .i64 0, .int .i64 0, .int .i64 0, .int .i64 0, .int .i64 0, .string ⟨#[]⟩, .string ⟨#[]⟩, .bool false] 24)) (w.heap.size + 1) [.string ⟨#[]⟩, .int .i64 0, .int .i64 0, .int .i64 0, .int .i64 0, .int .i64 0, .int .i64 0, .int .i64 0, .string ⟨#[]⟩, .string ⟨#[]⟩, .bool false] := by
      have h := Bx.new (w.alloc (.cells #[.string mc, .int .i64 ip, .int .i64 po, .int .i64 di, .int .i64 st, .int .i64 un, .int .i64 nx, .int .i64 wa, .string inn, .string out, .bool fin] 24)) #[.string ⟨#[]⟩, .int .i64 0, .int .i64 0, .int .i64 0, .int .i64 0, .int .i64 0, .int .i64 0, .int .i64 0, .string ⟨#[]⟩, .string ⟨#[]⟩, .bool false] 24
      rw [World.size_alloc] at h
      exact h
    have B0 : Hid (Below w.heap.size w ((w.alloc (.cells #[.string mc, .int .i64 ip, .int .i64 po, .int .i64 di, .int .i64 st, .int .i64 un, .int .i64 nx, .int .i64 wa, .string inn, .string out, .bool fin] 24)).alloc (.cells #[.string ⟨#[]⟩, .int .i64 0, .int .i64 0, .int .i64 0, .int .i64 0, .int .i64 0, .int .i64 0, .int .i64 0, .string ⟨#[]⟩, .string ⟨#[]⟩, .bool false] 24))) := (((Below.refl _ _).alloc (Nat.le_refl _) _).alloc (by simp) _)
    go_enter Try.func78, Try.ntmps78
    go_wp2_with fail
    refine (TQ.out _).mono ?_
    rintro e w1 ⟨rfl, hw⟩
    subst hw
    go_wp2_with (first | (refine wpl_get rfl _ rfl _ rfl (by assumption) rfl ?_) | fail)
    refine (TS.out _).mono ?_
    rintro e w1 ⟨rfl, g1⟩
    have b1 := g1.below
    have C1 : Bx w1 w.heap.size [.string mc, .int .i64 ip, .int .i64 po, .int .i64 di, .int .i64 st, .int .i64 un, .int .i64 nx, .int .i64 wa, .string inn, .string out, .bool fin] := C0.below b1
    have R1 : Bx w1 (w.heap.size + 1) [.string ⟨#[]⟩, .int .i64 0, .int .i64 0, .int .i64 0, .int .i64 0, .int .i64 0, .int .i64 0, .int .i64 0, .string ⟨#[]⟩, .string ⟨#[]⟩, .bool false] := R0.below b1
    have B1 : Hid (Below w.heap.size w w1) := B0.out.trans (b1.mono B0.out.size)
    clear b1 g1 C0 R0 B0
    have v4 : w1.cell? ⟨w.heap.size, 4, none⟩ = some (.int .i64 st) := C1.cell 4 rfl
    have f4 : w1.frozen? ⟨w.heap.size, 4, none⟩ = false := C1.thaw 4 (by simp)
    have v5 : w1.cell? ⟨w.heap.size, 5, none⟩ = some (.int .i64 un) := C1.cell 5 rfl
    have f5 : w1.frozen? ⟨w.heap.size, 5, none⟩ = false := C1.thaw 5 (by simp)
    have v9 : w1.cell? ⟨w.heap.size, 9, none⟩ = some (.string out) := C1.cell 9 rfl
    have f9 : w1.frozen? ⟨w.heap.size, 9, none⟩ = false := C1.thaw 9 (by simp)
    have C4 : Bx ((w1.setCell ⟨w.heap.size, 9, none⟩ (.string (out.extract k out.size))).setCell ⟨w.heap.size, 5, none⟩ (.int .i64 a)) w.heap.size [.string mc, .int .i64 ip, .int .i64 po, .int .i64 di, .int .i64 st, .int .i64 a, .int .i64 nx, .int .i64 wa, .string inn, .string (out.extract k out.size), .bool fin] := ((C1.field 9 (.string (out.extract k out.size))).field 5 (.int .i64 a))
    have R4 : Bx ((w1.setCell ⟨w.heap.size, 9, none⟩ (.string (out.extract k out.size))).setCell ⟨w.heap.size, 5, none⟩ (.int .i64 a)) (w.heap.size + 1) [.string ⟨#[]⟩, .int .i64 0, .int .i64 0, .int .i64 0, .int .i64 0, .int .i64 0, .int .i64 0, .int .i64 0, .string ⟨#[]⟩, .string ⟨#[]⟩, .bool false] := ((R1.far ⟨w.heap.size, 9, none⟩ (.string (out.extract k out.size)) (by dsimp only; omega)).far ⟨w.heap.size, 5, none⟩ (.int .i64 a) (by dsimp only; omega))
    have B4 : Hid (Below w.heap.size w ((w1.setCell ⟨w.heap.size, 9, none⟩ (.string (out.extract k out.size))).setCell ⟨w.heap.size, 5, none⟩ (.int .i64 a))) := ((B1.out.setCell (p := ⟨w.heap.size, 9, none⟩) (Nat.le_refl _) (.string (out.extract k out.size))).setCell (p := ⟨w.heap.size, 5, none⟩) (Nat.le_refl _) (.int .i64 a))
    go_wp2_with (first | (refine wpl_put rfl _ _ rfl (w.heap.size + 1) _ rfl rfl R4 rfl rfl rfl ?_; intro w5 hw5 R5; have B5 : Hid (Below w.heap.size w w5) := (by rw [hw5]; exact below_cells (by omega) _ _ _ B4.out); clear hw5) | (refine wpl_get rfl _ rfl _ rfl (by assumption) rfl ?_) | fail)
    have xx0 : w5.cell? ⟨w.heap.size + 1, 0, none⟩ = some (.string mc) := R5.cell 0 rfl
    have xx1 : w5.cell? ⟨w.heap.size + 1, 1, none⟩ = some (.int .i64 ip) := R5.cell 1 rfl
    have xx2 : w5.cell? ⟨w.heap.size + 1, 2, none⟩ = some (.int .i64 po) := R5.cell 2 rfl
    have xx3 : w5.cell? ⟨w.heap.size + 1, 3, none⟩ = some (.int .i64 di) := R5.cell 3 rfl
    have xx4 : w5.cell? ⟨w.heap.size + 1, 4, none⟩ = some (.int .i64 st) := R5.cell 4 rfl
    have xx5 : w5.cell? ⟨w.heap.size + 1, 5, none⟩ = some (.int .i64 a) := R5.cell 5 rfl
    have xx6 : w5.cell? ⟨w.heap.size + 1, 6, none⟩ = some (.int .i64 nx) := R5.cell 6 rfl
    have xx7 : w5.cell? ⟨w.heap.size + 1, 7, none⟩ = some (.int .i64 wa) := R5.cell 7 rfl
    have xx8 : w5.cell? ⟨w.heap.size + 1, 8, none⟩ = some (.string inn) := R5.cell 8 rfl
    have xx9 : w5.cell? ⟨w.heap.size + 1, 9, none⟩ = some (.string (out.extract k out.size)) := R5.cell 9 rfl
    have xx10 : w5.cell? ⟨w.heap.size + 1, 10, none⟩ = some (.bool fin) := R5.cell 10 rfl
    (try simp only [Exit.inBlock, Exit.then])
    refine bodyPost_ret (v := .agg #[.string mc, .int .i64 ip, .int .i64 po, .int .i64 di, .int .i64 st, .int .i64 a, .int .i64 nx, .int .i64 wa, .string inn, .string (out.extract k out.size), .bool fin]) (by simp [results, Try.results78, go_sem, xx0, xx1, xx2, xx3, xx4, xx5, xx6, xx7, xx8, xx9, xx10]; try rfl) rfl ?_
    exact ⟨rfl, B5.out⟩
  · rw [if_neg ho] at EA
    rw [EA]
    have q1 : (out.size : Int) < (k : Int) := by omega
    clear EA hop hb h1 h3
    have C0 : Bx ((w.alloc (.cells #[.string mc, .int .i64 ip, .int .i64 po, .int .i64 di, .int .i64 st, .int .i64 un, .int .i64 nx, .int .i64 wa, .string inn, .string out, .bool fin] 24)).alloc (.cells #[.string ⟨#[]⟩, .int .i64 0, .int .i64 0, .int .i64 0, .int .i64 0, .int .i64 0, .int .i64 0, .int .i64 0, .string ⟨#[]⟩, .string ⟨#[]⟩, .bool false] 24)) w.heap.size [.string mc, .int .i64 ip, .int .i64 po, .int .i64 di, .int .i64 st, .int .i64 un, .int .i64 nx, .int .i64 wa, .string inn, .string out, .bool fin] := (Bx.new w _ _).below ((Below.refl _ _).alloc (Nat.le_refl _) _)
    have R0 : Bx ((w.alloc (.cells #[.string mc, .int .i64 ip, .int .i64 po, .int .i64 di, .int .i64 st, .int .i64 un, .int .i64 nx, .int .i64 wa, .string inn, .string out, .bool fin] 24)).alloc (.cells #[.string ⟨#[]⟩, .int .i64 0, .int .i64 0, .int .i64 0, .int .i64 0, .int .i64 0, .int .i64 0, .int .i64 0, .string ⟨#[]⟩, .string ⟨#[]⟩, .bool false] 24)) (w.heap.size + 1) [.string ⟨#[]⟩, .int .i64 0, .int .i64 0, .int .i64 0, .int .i64 0, .int .i64 0, .int .i64 0, .int .i64 0, .string ⟨#[]⟩, .string ⟨#[]⟩, .bool false] := by
      have h := Bx.new (w.alloc (.cells #[.string mc, .int .i64 ip, .int .i64 po, .int .i64 di, .int .i64 st, .int .i64 un, .int .i64 nx, .int .i64 wa, .string inn, .string out, .bool fin] 24)) #[.string ⟨#[]⟩, .int .i64 0, .int .i64 0, .int .i64 0, .int .i64 0, .int .i64 0, .int .i64 0, .int .i64 0, .string ⟨#[]⟩, .string ⟨#[]⟩, .bool false] 24
      rw [World.size_alloc] at h
      exact h
    have B0 : Hid (Below w.heap.size w ((w.alloc (.cells #[.string mc, .int .i64 ip, .int .i64 po, .int .i64 di, .int .i64 st, .int .i64 un, .int .i64 nx, .int .i64 wa, .string inn, .string out, .bool fin] 24)).alloc (.cells #[.string ⟨#[]⟩, .int .i64 0, .int .i64 0, .int .i64 0, .int .i64 0, .int .i64 0, .int .i64 0, .int .i64 0, .string ⟨#[]⟩, .string ⟨#[]⟩, .bool false] 24))) := (((Below.refl _ _).alloc (Nat.le_refl _) _).alloc (by simp) _)
    go_enter Try.func78, Try.ntmps78
    go_wp2_with fail
    refine (TQ.out _).mono ?_
    rintro e w1 ⟨rfl, hw⟩
    subst hw
    go_wp2_with (first | (refine wpl_get rfl _ rfl _ rfl (by assumption) rfl ?_) | fail)
    refine (TS.out _).mono ?_
    rintro e w1 ⟨rfl, g1⟩
    have b1 := g1.below
    have C1 : Bx w1 w.heap.size [.string mc, .int .i64 ip, .int .i64 po, .int .i64 di, .int .i64 st, .int .i64 un, .int .i64 nx, .int .i64 wa, .string inn, .string out, .bool fin] := C0.below b1
    have R1 : Bx w1 (w.heap.size + 1) [.string ⟨#[]⟩, .int .i64 0, .int .i64 0, .int .i64 0, .int .i64 0, .int .i64 0, .int .i64 0, .int .i64 0, .string ⟨#[]⟩, .string ⟨#[]⟩, .bool false] := R0.below b1
    have B1 : Hid (Below w.heap.size w w1) := B0.out.trans (b1.mono B0.out.size)
    clear b1 g1 C0 R0 B0
    have v4 : w1.cell? ⟨w.heap.size, 4, none⟩ = some (.int .i64 st) := C1.cell 4 rfl
    have f4 : w1.frozen? ⟨w.heap.size, 4, none⟩ = false := C1.thaw 4 (by simp)
    have v5 : w1.cell? ⟨w.heap.size, 5, none⟩ = some (.int .i64 un) := C1.cell 5 rfl
    have f5 : w1.frozen? ⟨w.heap.size, 5, none⟩ = false := C1.thaw 5 (by simp)
    have v9 : w1.cell? ⟨w.heap.size, 9, none⟩ = some (.string out) := C1.cell 9 rfl
    have f9 : w1.frozen? ⟨w.heap.size, 9, none⟩ = false := C1.thaw 9 (by simp)
    have v10 : w1.cell? ⟨w.heap.size, 10, none⟩ = some (.bool fin) := C1.cell 10 rfl
    have f10 : w1.frozen? ⟨w.heap.size, 10, none⟩ = false := C1.thaw 10 (by simp)
    have C4 : Bx ((((w1.setCell ⟨w.heap.size, 10, none⟩ (.bool false)).setCell ⟨w.heap.size, 4, none⟩ (.int .i64 4)).setCell ⟨w.heap.size, 9, none⟩ (.string ⟨#[]⟩)).setCell ⟨w.heap.size, 5, none⟩ (.int .i64 a)) w.heap.size [.string mc, .int .i64 ip, .int .i64 po, .int .i64 di, .int .i64 4, .int .i64 a, .int .i64 nx, .int .i64 wa, .string inn, .string ⟨#[]⟩, .bool false] := ((((C1.field 10 (.bool false)).field 4 (.int .i64 4)).field 9 (.string ⟨#[]⟩)).field 5 (.int .i64 a))
    have R4 : Bx ((((w1.setCell ⟨w.heap.size, 10, none⟩ (.bool false)).setCell ⟨w.heap.size, 4, none⟩ (.int .i64 4)).setCell ⟨w.heap.size, 9, none⟩ (.string ⟨#[]⟩)).setCell ⟨w.heap.size, 5, none⟩ (.int .i64 a)) (w.heap.size + 1) [.string ⟨#[]⟩, .int .i64 0, .int .i64 0, .int .i64 0, .int .i64 0, .int .i64 0, .int .i64 0, .int .i64 0, .string ⟨#[]⟩, .string ⟨#[]⟩, .bool false] := ((((R1.far ⟨w.heap.size, 10, none⟩ (.bool false) (by dsimp only; omega)).far ⟨w.heap.size, 4, none⟩ (.int .i64 4) (by dsimp only; omega)).far ⟨w.heap.size, 9, none⟩ (.string ⟨#[]⟩) (by dsimp only; omega)).far ⟨w.heap.size, 5, none⟩ (.int .i64 a) (by dsimp only; omega))
    have B4 : Hid (Below w.heap.size w ((((w1.setCell ⟨w.heap.size, 10, none⟩ (.bool false)).setCell ⟨w.heap.size, 4, none⟩ (.int .i64 4)).setCell ⟨w.heap.size, 9, none⟩ (.string ⟨#[]⟩)).setCell ⟨w.heap.size, 5, none⟩ (.int .i64 a))) := ((((B1.out.setCell (p := ⟨w.heap.size, 10, none⟩) (Nat.le_refl _) (.bool false)).setCell (p := ⟨w.heap.size, 4, none⟩) (Nat.le_refl _) (.int .i64 4)).setCell (p := ⟨w.heap.size, 9, none⟩) (Nat.le_refl _) (.string ⟨#[]⟩)).setCell (p := ⟨w.heap.size, 5, none⟩) (Nat.le_refl _) (.int .i64 a))
    go_wp2_with (first | (refine wpl_put rfl _ _ rfl (w.heap.size + 1) _ rfl rfl R4 rfl rfl rfl ?_; intro w5 hw5 R5; have B5 : Hid (Below w.heap.size w w5) := (by rw [hw5]; exact below_cells (by omega) _ _ _ B4.out); clear hw5) | (refine wpl_get rfl _ rfl _ rfl (by assumption) rfl ?_) | fail)
    have xx0 : w5.cell? ⟨w.heap.size + 1, 0, none⟩ = some (.string mc) := R5.cell 0 rfl
    have xx1 : w5.cell? ⟨w.heap.size + 1, 1, none⟩ = some (.int .i64 ip) := R5.cell 1 rfl
    have xx2 : w5.cell? ⟨w.heap.size + 1, 2, none⟩ = some (.int .i64 po) := R5.cell 2 rfl
    have xx3 : w5.cell? ⟨w.heap.size + 1, 3, none⟩ = some (.int .i64 di) := R5.cell 3 rfl
    have xx4 : w5.cell? ⟨w.heap.size + 1, 4, none⟩ = some (.int .i64 4) := R5.cell 4 rfl
    have xx5 : w5.cell? ⟨w.heap.size + 1, 5, none⟩ = some (.int .i64 a) := R5.cell 5 rfl
    have xx6 : w5.cell? ⟨w.heap.size + 1, 6, none⟩ = some (.int .i64 nx) := R5.cell 6 rfl
    have xx7 : w5.cell? ⟨w.heap.size + 1, 7, none⟩ = some (.int .i64 wa) := R5.cell 7 rfl
    have xx8 : w5.cell? ⟨w.heap.size + 1, 8, none⟩ = some (.string inn) := R5.cell 8 rfl
    have xx9 : w5.cell? ⟨w.heap.size + 1, 9, none⟩ = some (.string ⟨#[]⟩) := R5.cell 9 rfl
    have xx10 : w5.cell? ⟨w.heap.size + 1, 10, none⟩ = some (.bool false) := R5.cell 10 rfl
    (try simp only [Exit.inBlock, Exit.then])
    refine bodyPost_ret (v := .agg #[.string mc, .int .i64 ip, .int .i64 po, .int .i64 di, .int .i64 4, .int .i64 a, .int .i64 nx, .int .i64 wa, .string inn, .string ⟨#[]⟩, .bool false]) (by simp [results, Try.results78, go_sem, xx0, xx1, xx2, xx3, xx4, xx5, xx6, xx7, xx8, xx9, xx10]; try rfl) rfl ?_
    exact ⟨rfl, B5.out⟩

theorem ackS_any (mc : ByteArray) (ip po di st un nx wa : Int) (inn out : ByteArray) (fin : Bool) (sp dp sq ac fl wi : Int) (da : ByteArray) (w : World) (hok : okB ⟨mc, ip, po, di, st, un, nx, wa, inn, out, fin⟩ = true) (hst : st = 1) (ha : 0 ≤ ac ∧ ac ≤ 4294967295) :
    Calls Try.prog 86 #[.agg #[.string mc, .int .i64 ip, .int .i64 po, .int .i64 di, .int .i64 st, .int .i64 un, .int .i64 nx, .int .i64 wa, .string inn, .string out, .bool fin], .agg #[.int .i64 sp, .int .i64 dp, .int .i64 sq, .int .i64 ac, .int .i64 fl, .int .i64 wi, .string da], .func (.func 67) #[] #[]] w fun e w' => e = .returned (cvA (akV ⟨mc, ip, po, di, st, un, nx, wa, inn, out, fin⟩ ac)) ∧ Below w.heap.size w w' := by
  have hn := nuB_bd (okB_says hok).1
  have hx := txB_bd (okB_says hok).2
  dsimp only at hn hx
  refine (ackG_any mc ip po di st un nx wa inn out fin sp dp sq ac fl wi da mc ip po di 2 un nx wa inn out fin w (by omega) hn.2.2.2.2.1 ha (fun _ w => greetReached_any mc ip po di st un nx wa inn out fin _ w)).mono ?_
  rintro e w' ⟨rfl, hb⟩
  refine ⟨?_, hb⟩
  have EA : akV ⟨mc, ip, po, di, st, un, nx, wa, inn, out, fin⟩ ac = if 1 ≤ sqN (ac - un) ∧ sqN (ac - un) ≤ sentN ⟨mc, ip, po, di, st, un, nx, wa, inn, out, fin⟩ then (if st = 1 then ⟨mc, ip, po, di, 2, ac, nx, wa, inn, out, fin⟩ else if (sqN (ac - un)).toNat ≤ out.size then ⟨mc, ip, po, di, st, ac, nx, wa, inn, out.extract (sqN (ac - un)).toNat out.size, fin⟩ else ⟨mc, ip, po, di, 4, ac, nx, wa, inn, ⟨#[]⟩, false⟩) else ⟨mc, ip, po, di, st, un, nx, wa, inn, out, fin⟩ := rfl
  rw [EA, if_pos hst]
  split <;> rfl
theorem ackT_any (mc : ByteArray) (ip po di st un nx wa : Int) (inn out : ByteArray) (fin : Bool) (sp dp sq ac fl wi : Int) (da : ByteArray) (w : World) (hok : okB ⟨mc, ip, po, di, st, un, nx, wa, inn, out, fin⟩ = true) (hst : st ≠ 1) (ha : 0 ≤ ac ∧ ac ≤ 4294967295) :
    Calls Try.prog 86 #[.agg #[.string mc, .int .i64 ip, .int .i64 po, .int .i64 di, .int .i64 st, .int .i64 un, .int .i64 nx, .int .i64 wa, .string inn, .string out, .bool fin], .agg #[.int .i64 sp, .int .i64 dp, .int .i64 sq, .int .i64 ac, .int .i64 fl, .int .i64 wi, .string da], .func (.func 69) #[] #[]] w fun e w' => e = .returned (cvA (akV ⟨mc, ip, po, di, st, un, nx, wa, inn, out, fin⟩ ac)) ∧ Below w.heap.size w w' := by
  have hn := nuB_bd (okB_says hok).1
  have hx := txB_bd (okB_says hok).2
  have hm := sentN_bd ⟨mc, ip, po, di, st, un, nx, wa, inn, out, fin⟩
  dsimp only at hn hx hm
  have EA : akV ⟨mc, ip, po, di, st, un, nx, wa, inn, out, fin⟩ ac = if 1 ≤ sqN (ac - un) ∧ sqN (ac - un) ≤ sentN ⟨mc, ip, po, di, st, un, nx, wa, inn, out, fin⟩ then (if st = 1 then ⟨mc, ip, po, di, 2, ac, nx, wa, inn, out, fin⟩ else if (sqN (ac - un)).toNat ≤ out.size then ⟨mc, ip, po, di, st, ac, nx, wa, inn, out.extract (sqN (ac - un)).toNat out.size, fin⟩ else ⟨mc, ip, po, di, 4, ac, nx, wa, inn, ⟨#[]⟩, false⟩) else ⟨mc, ip, po, di, st, un, nx, wa, inn, out, fin⟩ := rfl
  rw [if_neg hst] at EA
  have hb := sqN_bd (ac - un)
  have HO : 1 ≤ sqN (ac - un) ∧ sqN (ac - un) ≤ sentN ⟨mc, ip, po, di, st, un, nx, wa, inn, out, fin⟩ → ∀ w, Calls Try.prog 69 #[.agg #[.string mc, .int .i64 ip, .int .i64 po, .int .i64 di, .int .i64 st, .int .i64 un, .int .i64 nx, .int .i64 wa, .string inn, .string out, .bool fin], .int .i64 (sqN (ac - un))] w fun e w' => e = .returned (cvA (orV ⟨mc, ip, po, di, st, un, nx, wa, inn, out, fin⟩ (sqN (ac - un)).toNat)) ∧ Below w.heap.size w w' := fun h w => by
    obtain ⟨k, hk⟩ := Int.eq_ofNat_of_zero_le hb.1
    rw [hk, Int.toNat_natCast]
    exact outReached_any mc ip po di st un nx wa inn out fin k w (by omega) (by omega)
  by_cases ho : (sqN (ac - un)).toNat ≤ out.size
  · rw [if_pos ho] at EA
    have EO : orV ⟨mc, ip, po, di, st, un, nx, wa, inn, out, fin⟩ (sqN (ac - un)).toNat = ⟨mc, ip, po, di, st, un, nx, wa, inn, out.extract (sqN (ac - un)).toNat out.size, fin⟩ := if_pos ho
    rw [EO] at HO
    refine (ackO_any mc ip po di st un nx wa inn out fin sp dp sq ac fl wi da mc ip po di st un nx wa inn (out.extract (sqN (ac - un)).toNat out.size) fin w (by omega) hn.2.2.2.2.1 ha HO).mono ?_
    rintro e w' ⟨rfl, hb⟩
    refine ⟨?_, hb⟩
    rw [EA]
    split <;> rfl
  · rw [if_neg ho] at EA
    have EO : orV ⟨mc, ip, po, di, st, un, nx, wa, inn, out, fin⟩ (sqN (ac - un)).toNat = ⟨mc, ip, po, di, 4, un, nx, wa, inn, ⟨#[]⟩, false⟩ := if_neg ho
    rw [EO] at HO
    refine (ackO_any mc ip po di st un nx wa inn out fin sp dp sq ac fl wi da mc ip po di 4 un nx wa inn ⟨#[]⟩ false w (by omega) hn.2.2.2.2.1 ha HO).mono ?_
    rintro e w' ⟨rfl, hb⟩
    refine ⟨?_, hb⟩
    rw [EA]
    split <;> rfl
end Go.Proofs.Ytfgghffgfefgpaa

namespace Go.Proofs.Ytfgghffgfefgpaa
open Go.RowKit Go.PlainAid Go.Proofs.Ytfgghffgfefgpaa.Bt Go.Sort
set_option linter.unusedVariables false
set_option maxRecDepth 20000
set_option maxHeartbeats 16000000 in
theorem tkA_any (mc : ByteArray) (ip po di st un nx wa : Int) (inn out : ByteArray) (fin : Bool) (sp dp sq ac fl wi : Int) (da : ByteArray) (w : World) (t4 : (st == 4) = true) :
    Calls Try.prog 37 #[.agg #[.string mc, .int .i64 ip, .int .i64 po, .int .i64 di, .int .i64 st, .int .i64 un, .int .i64 nx, .int .i64 wa, .string inn, .string out, .bool fin], .agg #[.int .i64 sp, .int .i64 dp, .int .i64 sq, .int .i64 ac, .int .i64 fl, .int .i64 wi, .string da]] w fun e w' => ∃ v, e = .returned (.tuple #[.agg #[.string mc, .int .i64 ip, .int .i64 po, .int .i64 di, .int .i64 st, .int .i64 un, .int .i64 nx, .int .i64 wa, .string inn, .string out, .bool fin], v]) ∧ OwnS sgG 7 27 w' w.heap.size v [] ∧ Below w.heap.size w w' := by
  go_enter Try.func37, Try.ntmps37
  go_wp2
  (try simp only [Exit.inBlock, Exit.then])
  refine bodyPost_ret (v := .tuple #[.agg #[.string mc, .int .i64 ip, .int .i64 po, .int .i64 di, .int .i64 st, .int .i64 un, .int .i64 nx, .int .i64 wa, .string inn, .string out, .bool fin], .slice (some ⟨w.heap.size + 1 + 1 + 1, 0, none⟩) 0 0]) (by simp [results, Try.results37, go_sem]; try rfl) rfl ?_
  exact ⟨_, rfl, lit_at (by omega) (by simp), (((((Below.refl _ _).alloc (Nat.le_refl _) _).alloc (by simp) _).alloc (by simp; omega) _).alloc (by simp; omega) _)⟩
set_option maxHeartbeats 16000000 in
theorem tkB_any (mc : ByteArray) (ip po di st un nx wa : Int) (inn out : ByteArray) (fin : Bool) (sp dp sq ac fl wi : Int) (da : ByteArray) (w : World) (t4 : (st == 4) = false) (f4 : (bits BinOp.and IntKind.i64 fl 4 != 0) = true) (q : (sq == wa) = true) :
    Calls Try.prog 37 #[.agg #[.string mc, .int .i64 ip, .int .i64 po, .int .i64 di, .int .i64 st, .int .i64 un, .int .i64 nx, .int .i64 wa, .string inn, .string out, .bool fin], .agg #[.int .i64 sp, .int .i64 dp, .int .i64 sq, .int .i64 ac, .int .i64 fl, .int .i64 wi, .string da]] w fun e w' => ∃ v, e = .returned (.tuple #[.agg #[.string mc, .int .i64 ip, .int .i64 po, .int .i64 di, .int .i64 4, .int .i64 nx, .int .i64 nx, .int .i64 wa, .string ⟨#[]⟩, .string ⟨#[]⟩, .bool false], v]) ∧ OwnS sgG 7 27 w' w.heap.size v [] ∧ Below w.heap.size w w' := by
  go_enter Try.func37, Try.ntmps37
  go_wp2
  (try simp only [Exit.inBlock, Exit.then])
  refine bodyPost_ret (v := .tuple #[.agg #[.string mc, .int .i64 ip, .int .i64 po, .int .i64 di, .int .i64 4, .int .i64 nx, .int .i64 nx, .int .i64 wa, .string ⟨#[]⟩, .string ⟨#[]⟩, .bool false], .slice (some ⟨w.heap.size + 1 + 1 + 1, 0, none⟩) 0 0]) (by simp [results, Try.results37, go_sem]; try rfl) rfl ?_
  exact ⟨_, rfl, lit_at (by omega) (by simp), (((((Below.refl _ _).alloc (Nat.le_refl _) _).alloc (by simp) _).alloc (by simp; omega) _).alloc (by simp; omega) _)⟩
set_option maxHeartbeats 16000000 in
theorem tkC_any (mc : ByteArray) (ip po di st un nx wa : Int) (inn out : ByteArray) (fin : Bool) (sp dp sq ac fl wi : Int) (da : ByteArray) (w : World) (t4 : (st == 4) = false) (f4 : (bits BinOp.and IntKind.i64 fl 4 != 0) = true) (q : (sq == wa) = false) :
    Calls Try.prog 37 #[.agg #[.string mc, .int .i64 ip, .int .i64 po, .int .i64 di, .int .i64 st, .int .i64 un, .int .i64 nx, .int .i64 wa, .string inn, .string out, .bool fin], .agg #[.int .i64 sp, .int .i64 dp, .int .i64 sq, .int .i64 ac, .int .i64 fl, .int .i64 wi, .string da]] w fun e w' => ∃ v, e = .returned (.tuple #[.agg #[.string mc, .int .i64 ip, .int .i64 po, .int .i64 di, .int .i64 st, .int .i64 un, .int .i64 nx, .int .i64 wa, .string inn, .string out, .bool fin], v]) ∧ OwnS sgG 7 27 w' w.heap.size v [] ∧ Below w.heap.size w w' := by
  go_enter Try.func37, Try.ntmps37
  go_wp2
  (try simp only [Exit.inBlock, Exit.then])
  refine bodyPost_ret (v := .tuple #[.agg #[.string mc, .int .i64 ip, .int .i64 po, .int .i64 di, .int .i64 st, .int .i64 un, .int .i64 nx, .int .i64 wa, .string inn, .string out, .bool fin], .slice (some ⟨w.heap.size + 1 + 1 + 1, 0, none⟩) 0 0]) (by simp [results, Try.results37, go_sem]; try rfl) rfl ?_
  exact ⟨_, rfl, lit_at (by omega) (by simp), (((((Below.refl _ _).alloc (Nat.le_refl _) _).alloc (by simp) _).alloc (by simp; omega) _).alloc (by simp; omega) _)⟩
set_option maxHeartbeats 16000000 in
theorem tkF_any (mc : ByteArray) (ip po di st un nx wa : Int) (inn out : ByteArray) (fin : Bool) (sp dp sq ac fl wi : Int) (da : ByteArray) (w : World) (t4 : (st == 4) = false) (f4 : (bits BinOp.and IntKind.i64 fl 4 != 0) = false) (f2 : (bits BinOp.and IntKind.i64 fl 2 != 0) = false) (f16 : (bits BinOp.and IntKind.i64 fl 16 == 0) = true) :
    Calls Try.prog 37 #[.agg #[.string mc, .int .i64 ip, .int .i64 po, .int .i64 di, .int .i64 st, .int .i64 un, .int .i64 nx, .int .i64 wa, .string inn, .string out, .bool fin], .agg #[.int .i64 sp, .int .i64 dp, .int .i64 sq, .int .i64 ac, .int .i64 fl, .int .i64 wi, .string da]] w fun e w' => ∃ v, e = .returned (.tuple #[.agg #[.string mc, .int .i64 ip, .int .i64 po, .int .i64 di, .int .i64 st, .int .i64 un, .int .i64 nx, .int .i64 wa, .string inn, .string out, .bool fin], v]) ∧ OwnS sgG 7 27 w' w.heap.size v [] ∧ Below w.heap.size w w' := by
  go_enter Try.func37, Try.ntmps37
  go_wp2
  (try simp only [Exit.inBlock, Exit.then])
  refine bodyPost_ret (v := .tuple #[.agg #[.string mc, .int .i64 ip, .int .i64 po, .int .i64 di, .int .i64 st, .int .i64 un, .int .i64 nx, .int .i64 wa, .string inn, .string out, .bool fin], .slice (some ⟨w.heap.size + 1 + 1 + 1, 0, none⟩) 0 0]) (by simp [results, Try.results37, go_sem]; try rfl) rfl ?_
  exact ⟨_, rfl, lit_at (by omega) (by simp), (((((Below.refl _ _).alloc (Nat.le_refl _) _).alloc (by simp) _).alloc (by simp; omega) _).alloc (by simp; omega) _)⟩
set_option maxHeartbeats 16000000 in
theorem tkG1_any (mc : ByteArray) (ip po di st un nx wa : Int) (inn out : ByteArray) (fin : Bool) (sp dp sq ac fl wi : Int) (da : ByteArray) (dm : ByteArray) (di1 dp1 dd ds du dn dw : Int) (dI dO : ByteArray) (dF : Bool) (w : World) (t4 : (st == 4) = false) (f4 : (bits BinOp.and IntKind.i64 fl 4 != 0) = false) (f2 : (bits BinOp.and IntKind.i64 fl 2 != 0) = false) (f16 : (bits BinOp.and IntKind.i64 fl 16 == 0) = false) (TK0 : ∀ w, Calls Try.prog 78 #[.agg #[.string mc, .int .i64 ip, .int .i64 po, .int .i64 di, .int .i64 st, .int .i64 un, .int .i64 nx, .int .i64 wa, .string inn, .string out, .bool fin], .int .i64 ac] w fun e w' => e = .returned (.agg #[.string dm, .int .i64 di1, .int .i64 dp1, .int .i64 dd, .int .i64 ds, .int .i64 du, .int .i64 dn, .int .i64 dw, .string dI, .string dO, .bool dF]) ∧ Below w.heap.size w w') (u1 : (ds == 1) = true) :
    Calls Try.prog 37 #[.agg #[.string mc, .int .i64 ip, .int .i64 po, .int .i64 di, .int .i64 st, .int .i64 un, .int .i64 nx, .int .i64 wa, .string inn, .string out, .bool fin], .agg #[.int .i64 sp, .int .i64 dp, .int .i64 sq, .int .i64 ac, .int .i64 fl, .int .i64 wi, .string da]] w fun e w' => ∃ v, e = .returned (.tuple #[.agg #[.string dm, .int .i64 di1, .int .i64 dp1, .int .i64 dd, .int .i64 ds, .int .i64 du, .int .i64 dn, .int .i64 dw, .string dI, .string dO, .bool dF], v]) ∧ OwnS sgG 7 27 w' w.heap.size v [] ∧ Below w.heap.size w w' := by
  have TK : Hid _ := TK0
  clear TK0
  have C9 : Bx (((w.alloc (.cells #[.string mc, .int .i64 ip, .int .i64 po, .int .i64 di, .int .i64 st, .int .i64 un, .int .i64 nx, .int .i64 wa, .string inn, .string out, .bool fin] 24)).alloc (.cells #[.int .i64 sp, .int .i64 dp, .int .i64 sq, .int .i64 ac, .int .i64 fl, .int .i64 wi, .string da] 27)).alloc (.cells #[.string ⟨#[]⟩, .int .i64 0, .int .i64 0, .int .i64 0, .int .i64 0, .int .i64 0, .int .i64 0, .int .i64 0, .string ⟨#[]⟩, .string ⟨#[]⟩, .bool false] 24)) w.heap.size [.string mc, .int .i64 ip, .int .i64 po, .int .i64 di, .int .i64 st, .int .i64 un, .int .i64 nx, .int .i64 wa, .string inn, .string out, .bool fin] := ((Bx.new w _ _).below ((Below.refl _ _).alloc (Nat.le_refl _) _)).below ((Below.refl _ _).alloc (Nat.le_refl _) _)
  have G9 : Bx (((w.alloc (.cells #[.string mc, .int .i64 ip, .int .i64 po, .int .i64 di, .int .i64 st, .int .i64 un, .int .i64 nx, .int .i64 wa, .string inn, .string out, .bool fin] 24)).alloc (.cells #[.int .i64 sp, .int .i64 dp, .int .i64 sq, .int .i64 ac, .int .i64 fl, .int .i64 wi, .string da] 27)).alloc (.cells #[.string ⟨#[]⟩, .int .i64 0, .int .i64 0, .int .i64 0, .int .i64 0, .int .i64 0, .int .i64 0, .int .i64 0, .string ⟨#[]⟩, .string ⟨#[]⟩, .bool false] 24)) (w.heap.size + 1) [.int .i64 sp, .int .i64 dp, .int .i64 sq, .int .i64 ac, .int .i64 fl, .int .i64 wi, .string da] := by
    have h := (Bx.new (w.alloc (.cells #[.string mc, .int .i64 ip, .int .i64 po, .int .i64 di, .int .i64 st, .int .i64 un, .int .i64 nx, .int .i64 wa, .string inn, .string out, .bool fin] 24)) #[.int .i64 sp, .int .i64 dp, .int .i64 sq, .int .i64 ac, .int .i64 fl, .int .i64 wi, .string da] 27).below ((Below.refl _ _).alloc (Nat.le_refl _) (.cells #[.string ⟨#[]⟩, .int .i64 0, .int .i64 0, .int .i64 0, .int .i64 0, .int .i64 0, .int .i64 0, .int .i64 0, .string ⟨#[]⟩, .string ⟨#[]⟩, .bool false] 24))
    rw [World.size_alloc] at h
    exact h
  have R9 : Bx (((w.alloc (.cells #[.string mc, .int .i64 ip, .int .i64 po, .int .i64 di, .int .i64 st, .int .i64 un, .int .i64 nx, .int .i64 wa, .string inn, .string out, .bool fin] 24)).alloc (.cells #[.int .i64 sp, .int .i64 dp, .int .i64 sq, .int .i64 ac, .int .i64 fl, .int .i64 wi, .string da] 27)).alloc (.cells #[.string ⟨#[]⟩, .int .i64 0, .int .i64 0, .int .i64 0, .int .i64 0, .int .i64 0, .int .i64 0, .int .i64 0, .string ⟨#[]⟩, .string ⟨#[]⟩, .bool false] 24)) (w.heap.size + 1 + 1) [.string ⟨#[]⟩, .int .i64 0, .int .i64 0, .int .i64 0, .int .i64 0, .int .i64 0, .int .i64 0, .int .i64 0, .string ⟨#[]⟩, .string ⟨#[]⟩, .bool false] := by
    have h := Bx.new ((w.alloc (.cells #[.string mc, .int .i64 ip, .int .i64 po, .int .i64 di, .int .i64 st, .int .i64 un, .int .i64 nx, .int .i64 wa, .string inn, .string out, .bool fin] 24)).alloc (.cells #[.int .i64 sp, .int .i64 dp, .int .i64 sq, .int .i64 ac, .int .i64 fl, .int .i64 wi, .string da] 27)) #[.string ⟨#[]⟩, .int .i64 0, .int .i64 0, .int .i64 0, .int .i64 0, .int .i64 0, .int .i64 0, .int .i64 0, .string ⟨#[]⟩, .string ⟨#[]⟩, .bool false] 24
    rw [World.size_alloc, World.size_alloc] at h
    exact h
  have B9 : Hid (Below w.heap.size w (((w.alloc (.cells #[.string mc, .int .i64 ip, .int .i64 po, .int .i64 di, .int .i64 st, .int .i64 un, .int .i64 nx, .int .i64 wa, .string inn, .string out, .bool fin] 24)).alloc (.cells #[.int .i64 sp, .int .i64 dp, .int .i64 sq, .int .i64 ac, .int .i64 fl, .int .i64 wi, .string da] 27)).alloc (.cells #[.string ⟨#[]⟩, .int .i64 0, .int .i64 0, .int .i64 0, .int .i64 0, .int .i64 0, .int .i64 0, .int .i64 0, .string ⟨#[]⟩, .string ⟨#[]⟩, .bool false] 24))) := ((((Below.refl _ _).alloc (Nat.le_refl _) _).alloc (by simp) _).alloc (by simp; omega) _)
  have C0 : Bx ((((w.alloc (.cells #[.string mc, .int .i64 ip, .int .i64 po, .int .i64 di, .int .i64 st, .int .i64 un, .int .i64 nx, .int .i64 wa, .string inn, .string out, .bool fin] 24)).alloc (.cells #[.int .i64 sp, .int .i64 dp, .int .i64 sq, .int .i64 ac, .int .i64 fl, .int .i64 wi, .string da] 27)).alloc (.cells #[.string ⟨#[]⟩, .int .i64 0, .int .i64 0, .int .i64 0, .int .i64 0, .int .i64 0, .int .i64 0, .int .i64 0, .string ⟨#[]⟩, .string ⟨#[]⟩, .bool false] 24)).alloc (.cells #[] 27)) w.heap.size [.string mc, .int .i64 ip, .int .i64 po, .int .i64 di, .int .i64 st, .int .i64 un, .int .i64 nx, .int .i64 wa, .string inn, .string out, .bool fin] := C9.below ((Below.refl _ _).alloc (Nat.le_refl _) _)
  have G0 : Bx ((((w.alloc (.cells #[.string mc, .int .i64 ip, .int .i64 po, .int .i64 di, .int .i64 st, .int .i64 un, .int .i64 nx, .int .i64 wa, .string inn, .string out, .bool fin] 24)).alloc (.cells #[.int .i64 sp, .int .i64 dp, .int .i64 sq, .int .i64 ac, .int .i64 fl, .int .i64 wi, .string da] 27)).alloc (.cells #[.string ⟨#[]⟩, .int .i64 0, .int .i64 0, .int .i64 0, .int .i64 0, .int .i64 0, .int .i64 0, .int .i64 0, .string ⟨#[]⟩, .string ⟨#[]⟩, .bool false] 24)).alloc (.cells #[] 27)) (w.heap.size + 1) [.int .i64 sp, .int .i64 dp, .int .i64 sq, .int .i64 ac, .int .i64 fl, .int .i64 wi, .string da] := G9.below ((Below.refl _ _).alloc (Nat.le_refl _) _)
  have R0 : Bx ((((w.alloc (.cells #[.string mc, .int .i64 ip, .int .i64 po, .int .i64 di, .int .i64 st, .int .i64 un, .int .i64 nx, .int .i64 wa, .string inn, .string out, .bool fin] 24)).alloc (.cells #[.int .i64 sp, .int .i64 dp, .int .i64 sq, .int .i64 ac, .int .i64 fl, .int .i64 wi, .string da] 27)).alloc (.cells #[.string ⟨#[]⟩, .int .i64 0, .int .i64 0, .int .i64 0, .int .i64 0, .int .i64 0, .int .i64 0, .int .i64 0, .string ⟨#[]⟩, .string ⟨#[]⟩, .bool false] 24)).alloc (.cells #[] 27)) (w.heap.size + 1 + 1) [.string ⟨#[]⟩, .int .i64 0, .int .i64 0, .int .i64 0, .int .i64 0, .int .i64 0, .int .i64 0, .int .i64 0, .string ⟨#[]⟩, .string ⟨#[]⟩, .bool false] := R9.below ((Below.refl _ _).alloc (Nat.le_refl _) _)
  have B0 : Hid (Below w.heap.size w ((((w.alloc (.cells #[.string mc, .int .i64 ip, .int .i64 po, .int .i64 di, .int .i64 st, .int .i64 un, .int .i64 nx, .int .i64 wa, .string inn, .string out, .bool fin] 24)).alloc (.cells #[.int .i64 sp, .int .i64 dp, .int .i64 sq, .int .i64 ac, .int .i64 fl, .int .i64 wi, .string da] 27)).alloc (.cells #[.string ⟨#[]⟩, .int .i64 0, .int .i64 0, .int .i64 0, .int .i64 0, .int .i64 0, .int .i64 0, .int .i64 0, .string ⟨#[]⟩, .string ⟨#[]⟩, .bool false] 24)).alloc (.cells #[] 27))) := (((((Below.refl _ _).alloc (Nat.le_refl _) _).alloc (by simp) _).alloc (by simp; omega) _).alloc (by simp; omega) _)
  have O0 : OwnS sgG 7 27 ((((w.alloc (.cells #[.string mc, .int .i64 ip, .int .i64 po, .int .i64 di, .int .i64 st, .int .i64 un, .int .i64 nx, .int .i64 wa, .string inn, .string out, .bool fin] 24)).alloc (.cells #[.int .i64 sp, .int .i64 dp, .int .i64 sq, .int .i64 ac, .int .i64 fl, .int .i64 wi, .string da] 27)).alloc (.cells #[.string ⟨#[]⟩, .int .i64 0, .int .i64 0, .int .i64 0, .int .i64 0, .int .i64 0, .int .i64 0, .int .i64 0, .string ⟨#[]⟩, .string ⟨#[]⟩, .bool false] 24)).alloc (.cells #[] 27)) (w.heap.size + 3) (.slice (some ⟨w.heap.size + 1 + 1 + 1, 0, none⟩) 0 0) [] := lit_at (by omega) (by simp)
  clear C9 G9 R9 B9
  go_enter Try.func37, Try.ntmps37
  go_wp2_with fail
  refine (TK.out _).mono ?_
  rintro e w1 ⟨rfl, b1⟩
  have C1 : Bx w1 w.heap.size [.string mc, .int .i64 ip, .int .i64 po, .int .i64 di, .int .i64 st, .int .i64 un, .int .i64 nx, .int .i64 wa, .string inn, .string out, .bool fin] := C0.below b1
  have G1 : Bx w1 (w.heap.size + 1) [.int .i64 sp, .int .i64 dp, .int .i64 sq, .int .i64 ac, .int .i64 fl, .int .i64 wi, .string da] := G0.below b1
  have R1 : Bx w1 (w.heap.size + 1 + 1) [.string ⟨#[]⟩, .int .i64 0, .int .i64 0, .int .i64 0, .int .i64 0, .int .i64 0, .int .i64 0, .int .i64 0, .string ⟨#[]⟩, .string ⟨#[]⟩, .bool false] := R0.below b1
  have B1 : Hid (Below w.heap.size w w1) := B0.out.trans (b1.mono B0.out.size)
  have O1 : OwnS sgG 7 27 w1 (w.heap.size + 3) (.slice (some ⟨w.heap.size + 1 + 1 + 1, 0, none⟩) 0 0) [] := O0.now b1
  clear b1 C0 G0 R0 B0 O0 TK
  go_wp2_with (first | (refine wpl_put rfl _ _ rfl (w.heap.size) _ rfl rfl C1 rfl rfl rfl ?_; intro w3 hw3 C3; have G3 : Bx w3 (w.heap.size + 1) [.int .i64 sp, .int .i64 dp, .int .i64 sq, .int .i64 ac, .int .i64 fl, .int .i64 wi, .string da] := (by rw [hw3]; exact G1.apart _ (by omega)); have R3 : Bx w3 (w.heap.size + 1 + 1) [.string ⟨#[]⟩, .int .i64 0, .int .i64 0, .int .i64 0, .int .i64 0, .int .i64 0, .int .i64 0, .int .i64 0, .string ⟨#[]⟩, .string ⟨#[]⟩, .bool false] := (by rw [hw3]; exact R1.apart _ (by omega)); have B3 : Hid (Below w.heap.size w w3) := (by rw [hw3]; exact below_cells (Nat.le_refl _) _ _ _ B1.out); have O3 : Hid (OwnS sgG 7 27 w3 (w.heap.size + 3) (.slice (some ⟨w.heap.size + 1 + 1 + 1, 0, none⟩) 0 0) []) := (by rw [hw3]; exact own_cells (by omega) _ _ _ O1); have v4 : w3.cell? ⟨w.heap.size, 4, none⟩ = some (.int .i64 ds) := C3.cell 4 rfl; have v7 : w3.cell? ⟨w.heap.size, 7, none⟩ = some (.int .i64 dw) := C3.cell 7 rfl; have v8 : w3.cell? ⟨w.heap.size, 8, none⟩ = some (.string dI) := C3.cell 8 rfl; have z7 : w3.frozen? ⟨w.heap.size, 7, none⟩ = false := C3.thaw 7 (by simp); have z8 : w3.frozen? ⟨w.heap.size, 8, none⟩ = false := C3.thaw 8 (by simp); have k2 : w3.cell? ⟨w.heap.size + 1, 2, none⟩ = some (.int .i64 sq) := G3.cell 2 rfl; have k4 : w3.cell? ⟨w.heap.size + 1, 4, none⟩ = some (.int .i64 fl) := G3.cell 4 rfl; have k6 : w3.cell? ⟨w.heap.size + 1, 6, none⟩ = some (.string da) := G3.cell 6 rfl; clear hw3 C1 G1 R1 B1 O1) | (refine wpl_put rfl _ _ rfl (w.heap.size + 1 + 1) _ rfl rfl R3 rfl rfl rfl ?_; intro w5 hw5 R5; have B5 : Hid (Below w.heap.size w w5) := (by rw [hw5]; exact below_cells (by omega) _ _ _ B3.out); have O5 : Hid (OwnS sgG 7 27 w5 (w.heap.size + 3) (.slice (some ⟨w.heap.size + 1 + 1 + 1, 0, none⟩) 0 0) []) := (by rw [hw5]; exact own_cells (by omega) _ _ _ O3.out); clear hw5) | (refine wpl_get rfl _ rfl _ rfl (by assumption) rfl ?_) | fail)
  have xx0 : w5.cell? ⟨w.heap.size + 1 + 1, 0, none⟩ = some (.string dm) := R5.cell 0 rfl
  have xx1 : w5.cell? ⟨w.heap.size + 1 + 1, 1, none⟩ = some (.int .i64 di1) := R5.cell 1 rfl
  have xx2 : w5.cell? ⟨w.heap.size + 1 + 1, 2, none⟩ = some (.int .i64 dp1) := R5.cell 2 rfl
  have xx3 : w5.cell? ⟨w.heap.size + 1 + 1, 3, none⟩ = some (.int .i64 dd) := R5.cell 3 rfl
  have xx4 : w5.cell? ⟨w.heap.size + 1 + 1, 4, none⟩ = some (.int .i64 ds) := R5.cell 4 rfl
  have xx5 : w5.cell? ⟨w.heap.size + 1 + 1, 5, none⟩ = some (.int .i64 du) := R5.cell 5 rfl
  have xx6 : w5.cell? ⟨w.heap.size + 1 + 1, 6, none⟩ = some (.int .i64 dn) := R5.cell 6 rfl
  have xx7 : w5.cell? ⟨w.heap.size + 1 + 1, 7, none⟩ = some (.int .i64 dw) := R5.cell 7 rfl
  have xx8 : w5.cell? ⟨w.heap.size + 1 + 1, 8, none⟩ = some (.string dI) := R5.cell 8 rfl
  have xx9 : w5.cell? ⟨w.heap.size + 1 + 1, 9, none⟩ = some (.string dO) := R5.cell 9 rfl
  have xx10 : w5.cell? ⟨w.heap.size + 1 + 1, 10, none⟩ = some (.bool dF) := R5.cell 10 rfl
  (try simp only [Exit.inBlock, Exit.then])
  refine bodyPost_ret (v := .tuple #[.agg #[.string dm, .int .i64 di1, .int .i64 dp1, .int .i64 dd, .int .i64 ds, .int .i64 du, .int .i64 dn, .int .i64 dw, .string dI, .string dO, .bool dF], .slice (some ⟨w.heap.size + 1 + 1 + 1, 0, none⟩) 0 0]) (by simp [results, Try.results37, go_sem, xx0, xx1, xx2, xx3, xx4, xx5, xx6, xx7, xx8, xx9, xx10]; try rfl) rfl ?_
  exact ⟨_, rfl, O5.out.lower (by omega), B5.out⟩
set_option maxHeartbeats 16000000 in
theorem tkG4_any (mc : ByteArray) (ip po di st un nx wa : Int) (inn out : ByteArray) (fin : Bool) (sp dp sq ac fl wi : Int) (da : ByteArray) (dm : ByteArray) (di1 dp1 dd ds du dn dw : Int) (dI dO : ByteArray) (dF : Bool) (w : World) (t4 : (st == 4) = false) (f4 : (bits BinOp.and IntKind.i64 fl 4 != 0) = false) (f2 : (bits BinOp.and IntKind.i64 fl 2 != 0) = false) (f16 : (bits BinOp.and IntKind.i64 fl 16 == 0) = false) (TK0 : ∀ w, Calls Try.prog 78 #[.agg #[.string mc, .int .i64 ip, .int .i64 po, .int .i64 di, .int .i64 st, .int .i64 un, .int .i64 nx, .int .i64 wa, .string inn, .string out, .bool fin], .int .i64 ac] w fun e w' => e = .returned (.agg #[.string dm, .int .i64 di1, .int .i64 dp1, .int .i64 dd, .int .i64 ds, .int .i64 du, .int .i64 dn, .int .i64 dw, .string dI, .string dO, .bool dF]) ∧ Below w.heap.size w w') (u1 : (ds == 1) = false) (u4 : (ds == 4) = true) :
    Calls Try.prog 37 #[.agg #[.string mc, .int .i64 ip, .int .i64 po, .int .i64 di, .int .i64 st, .int .i64 un, .int .i64 nx, .int .i64 wa, .string inn, .string out, .bool fin], .agg #[.int .i64 sp, .int .i64 dp, .int .i64 sq, .int .i64 ac, .int .i64 fl, .int .i64 wi, .string da]] w fun e w' => ∃ v, e = .returned (.tuple #[.agg #[.string dm, .int .i64 di1, .int .i64 dp1, .int .i64 dd, .int .i64 ds, .int .i64 du, .int .i64 dn, .int .i64 dw, .string dI, .string dO, .bool dF], v]) ∧ OwnS sgG 7 27 w' w.heap.size v [] ∧ Below w.heap.size w w' := by
  have TK : Hid _ := TK0
  clear TK0
  have C9 : Bx (((w.alloc (.cells #[.string mc, .int .i64 ip, .int .i64 po, .int .i64 di, .int .i64 st, .int .i64 un, .int .i64 nx, .int .i64 wa, .string inn, .string out, .bool fin] 24)).alloc (.cells #[.int .i64 sp, .int .i64 dp, .int .i64 sq, .int .i64 ac, .int .i64 fl, .int .i64 wi, .string da] 27)).alloc (.cells #[.string ⟨#[]⟩, .int .i64 0, .int .i64 0, .int .i64 0, .int .i64 0, .int .i64 0, .int .i64 0, .int .i64 0, .string ⟨#[]⟩, .string ⟨#[]⟩, .bool false] 24)) w.heap.size [.string mc, .int .i64 ip, .int .i64 po, .int .i64 di, .int .i64 st, .int .i64 un, .int .i64 nx, .int .i64 wa, .string inn, .string out, .bool fin] := ((Bx.new w _ _).below ((Below.refl _ _).alloc (Nat.le_refl _) _)).below ((Below.refl _ _).alloc (Nat.le_refl _) _)
  have G9 : Bx (((w.alloc (.cells #[.string mc, .int .i64 ip, .int .i64 po, .int .i64 di, .int .i64 st, .int .i64 un, .int .i64 nx, .int .i64 wa, .string inn, .string out, .bool fin] 24)).alloc (.cells #[.int .i64 sp, .int .i64 dp, .int .i64 sq, .int .i64 ac, .int .i64 fl, .int .i64 wi, .string da] 27)).alloc (.cells #[.string ⟨#[]⟩, .int .i64 0, .int .i64 0, .int .i64 0, .int .i64 0, .int .i64 0, .int .i64 0, .int .i64 0, .string ⟨#[]⟩, .string ⟨#[]⟩, .bool false] 24)) (w.heap.size + 1) [.int .i64 sp, .int .i64 dp, .int .i64 sq, .int .i64 ac, .int .i64 fl, .int .i64 wi, .string da] := by
    have h := (Bx.new (w.alloc (.cells #[.string mc, .int .i64 ip, .int .i64 po, .int .i64 di, .int .i64 st, .int .i64 un, .int .i64 nx, .int .i64 wa, .string inn, .string out, .bool fin] 24)) #[.int .i64 sp, .int .i64 dp, .int .i64 sq, .int .i64 ac, .int .i64 fl, .int .i64 wi, .string da] 27).below ((Below.refl _ _).alloc (Nat.le_refl _) (.cells #[.string ⟨#[]⟩, .int .i64 0, .int .i64 0, .int .i64 0, .int .i64 0, .int .i64 0, .int .i64 0, .int .i64 0, .string ⟨#[]⟩, .string ⟨#[]⟩, .bool false] 24))
    rw [World.size_alloc] at h
    exact h
  have R9 : Bx (((w.alloc (.cells #[.string mc, .int .i64 ip, .int .i64 po, .int .i64 di, .int .i64 st, .int .i64 un, .int .i64 nx, .int .i64 wa, .string inn, .string out, .bool fin] 24)).alloc (.cells #[.int .i64 sp, .int .i64 dp, .int .i64 sq, .int .i64 ac, .int .i64 fl, .int .i64 wi, .string da] 27)).alloc (.cells #[.string ⟨#[]⟩, .int .i64 0, .int .i64 0, .int .i64 0, .int .i64 0, .int .i64 0, .int .i64 0, .int .i64 0, .string ⟨#[]⟩, .string ⟨#[]⟩, .bool false] 24)) (w.heap.size + 1 + 1) [.string ⟨#[]⟩, .int .i64 0, .int .i64 0, .int .i64 0, .int .i64 0, .int .i64 0, .int .i64 0, .int .i64 0, .string ⟨#[]⟩, .string ⟨#[]⟩, .bool false] := by
    have h := Bx.new ((w.alloc (.cells #[.string mc, .int .i64 ip, .int .i64 po, .int .i64 di, .int .i64 st, .int .i64 un, .int .i64 nx, .int .i64 wa, .string inn, .string out, .bool fin] 24)).alloc (.cells #[.int .i64 sp, .int .i64 dp, .int .i64 sq, .int .i64 ac, .int .i64 fl, .int .i64 wi, .string da] 27)) #[.string ⟨#[]⟩, .int .i64 0, .int .i64 0, .int .i64 0, .int .i64 0, .int .i64 0, .int .i64 0, .int .i64 0, .string ⟨#[]⟩, .string ⟨#[]⟩, .bool false] 24
    rw [World.size_alloc, World.size_alloc] at h
    exact h
  have B9 : Hid (Below w.heap.size w (((w.alloc (.cells #[.string mc, .int .i64 ip, .int .i64 po, .int .i64 di, .int .i64 st, .int .i64 un, .int .i64 nx, .int .i64 wa, .string inn, .string out, .bool fin] 24)).alloc (.cells #[.int .i64 sp, .int .i64 dp, .int .i64 sq, .int .i64 ac, .int .i64 fl, .int .i64 wi, .string da] 27)).alloc (.cells #[.string ⟨#[]⟩, .int .i64 0, .int .i64 0, .int .i64 0, .int .i64 0, .int .i64 0, .int .i64 0, .int .i64 0, .string ⟨#[]⟩, .string ⟨#[]⟩, .bool false] 24))) := ((((Below.refl _ _).alloc (Nat.le_refl _) _).alloc (by simp) _).alloc (by simp; omega) _)
  have C0 : Bx ((((w.alloc (.cells #[.string mc, .int .i64 ip, .int .i64 po, .int .i64 di, .int .i64 st, .int .i64 un, .int .i64 nx, .int .i64 wa, .string inn, .string out, .bool fin] 24)).alloc (.cells #[.int .i64 sp, .int .i64 dp, .int .i64 sq, .int .i64 ac, .int .i64 fl, .int .i64 wi, .string da] 27)).alloc (.cells #[.string ⟨#[]⟩, .int .i64 0, .int .i64 0, .int .i64 0, .int .i64 0, .int .i64 0, .int .i64 0, .int .i64 0, .string ⟨#[]⟩, .string ⟨#[]⟩, .bool false] 24)).alloc (.cells #[] 27)) w.heap.size [.string mc, .int .i64 ip, .int .i64 po, .int .i64 di, .int .i64 st, .int .i64 un, .int .i64 nx, .int .i64 wa, .string inn, .string out, .bool fin] := C9.below ((Below.refl _ _).alloc (Nat.le_refl _) _)
  have G0 : Bx ((((w.alloc (.cells #[.string mc, .int .i64 ip, .int .i64 po, .int .i64 di, .int .i64 st, .int .i64 un, .int .i64 nx, .int .i64 wa, .string inn, .string out, .bool fin] 24)).alloc (.cells #[.int .i64 sp, .int .i64 dp, .int .i64 sq, .int .i64 ac, .int .i64 fl, .int .i64 wi, .string da] 27)).alloc (.cells #[.string ⟨#[]⟩, .int .i64 0, .int .i64 0, .int .i64 0, .int .i64 0, .int .i64 0, .int .i64 0, .int .i64 0, .string ⟨#[]⟩, .string ⟨#[]⟩, .bool false] 24)).alloc (.cells #[] 27)) (w.heap.size + 1) [.int .i64 sp, .int .i64 dp, .int .i64 sq, .int .i64 ac, .int .i64 fl, .int .i64 wi, .string da] := G9.below ((Below.refl _ _).alloc (Nat.le_refl _) _)
  have R0 : Bx ((((w.alloc (.cells #[.string mc, .int .i64 ip, .int .i64 po, .int .i64 di, .int .i64 st, .int .i64 un, .int .i64 nx, .int .i64 wa, .string inn, .string out, .bool fin] 24)).alloc (.cells #[.int .i64 sp, .int .i64 dp, .int .i64 sq, .int .i64 ac, .int .i64 fl, .int .i64 wi, .string da] 27)).alloc (.cells #[.string ⟨#[]⟩, .int .i64 0, .int .i64 0, .int .i64 0, .int .i64 0, .int .i64 0, .int .i64 0, .int .i64 0, .string ⟨#[]⟩, .string ⟨#[]⟩, .bool false] 24)).alloc (.cells #[] 27)) (w.heap.size + 1 + 1) [.string ⟨#[]⟩, .int .i64 0, .int .i64 0, .int .i64 0, .int .i64 0, .int .i64 0, .int .i64 0, .int .i64 0, .string ⟨#[]⟩, .string ⟨#[]⟩, .bool false] := R9.below ((Below.refl _ _).alloc (Nat.le_refl _) _)
  have B0 : Hid (Below w.heap.size w ((((w.alloc (.cells #[.string mc, .int .i64 ip, .int .i64 po, .int .i64 di, .int .i64 st, .int .i64 un, .int .i64 nx, .int .i64 wa, .string inn, .string out, .bool fin] 24)).alloc (.cells #[.int .i64 sp, .int .i64 dp, .int .i64 sq, .int .i64 ac, .int .i64 fl, .int .i64 wi, .string da] 27)).alloc (.cells #[.string ⟨#[]⟩, .int .i64 0, .int .i64 0, .int .i64 0, .int .i64 0, .int .i64 0, .int .i64 0, .int .i64 0, .string ⟨#[]⟩, .string ⟨#[]⟩, .bool false] 24)).alloc (.cells #[] 27))) := (((((Below.refl _ _).alloc (Nat.le_refl _) _).alloc (by simp) _).alloc (by simp; omega) _).alloc (by simp; omega) _)
  have O0 : OwnS sgG 7 27 ((((w.alloc (.cells #[.string mc, .int .i64 ip, .int .i64 po, .int .i64 di, .int .i64 st, .int .i64 un, .int .i64 nx, .int .i64 wa, .string inn, .string out, .bool fin] 24)).alloc (.cells #[.int .i64 sp, .int .i64 dp, .int .i64 sq, .int .i64 ac, .int .i64 fl, .int .i64 wi, .string da] 27)).alloc (.cells #[.string ⟨#[]⟩, .int .i64 0, .int .i64 0, .int .i64 0, .int .i64 0, .int .i64 0, .int .i64 0, .int .i64 0, .string ⟨#[]⟩, .string ⟨#[]⟩, .bool false] 24)).alloc (.cells #[] 27)) (w.heap.size + 3) (.slice (some ⟨w.heap.size + 1 + 1 + 1, 0, none⟩) 0 0) [] := lit_at (by omega) (by simp)
  clear C9 G9 R9 B9
  go_enter Try.func37, Try.ntmps37
  go_wp2_with fail
  refine (TK.out _).mono ?_
  rintro e w1 ⟨rfl, b1⟩
  have C1 : Bx w1 w.heap.size [.string mc, .int .i64 ip, .int .i64 po, .int .i64 di, .int .i64 st, .int .i64 un, .int .i64 nx, .int .i64 wa, .string inn, .string out, .bool fin] := C0.below b1
  have G1 : Bx w1 (w.heap.size + 1) [.int .i64 sp, .int .i64 dp, .int .i64 sq, .int .i64 ac, .int .i64 fl, .int .i64 wi, .string da] := G0.below b1
  have R1 : Bx w1 (w.heap.size + 1 + 1) [.string ⟨#[]⟩, .int .i64 0, .int .i64 0, .int .i64 0, .int .i64 0, .int .i64 0, .int .i64 0, .int .i64 0, .string ⟨#[]⟩, .string ⟨#[]⟩, .bool false] := R0.below b1
  have B1 : Hid (Below w.heap.size w w1) := B0.out.trans (b1.mono B0.out.size)
  have O1 : OwnS sgG 7 27 w1 (w.heap.size + 3) (.slice (some ⟨w.heap.size + 1 + 1 + 1, 0, none⟩) 0 0) [] := O0.now b1
  clear b1 C0 G0 R0 B0 O0 TK
  go_wp2_with (first | (refine wpl_put rfl _ _ rfl (w.heap.size) _ rfl rfl C1 rfl rfl rfl ?_; intro w3 hw3 C3; have G3 : Bx w3 (w.heap.size + 1) [.int .i64 sp, .int .i64 dp, .int .i64 sq, .int .i64 ac, .int .i64 fl, .int .i64 wi, .string da] := (by rw [hw3]; exact G1.apart _ (by omega)); have R3 : Bx w3 (w.heap.size + 1 + 1) [.string ⟨#[]⟩, .int .i64 0, .int .i64 0, .int .i64 0, .int .i64 0, .int .i64 0, .int .i64 0, .int .i64 0, .string ⟨#[]⟩, .string ⟨#[]⟩, .bool false] := (by rw [hw3]; exact R1.apart _ (by omega)); have B3 : Hid (Below w.heap.size w w3) := (by rw [hw3]; exact below_cells (Nat.le_refl _) _ _ _ B1.out); have O3 : Hid (OwnS sgG 7 27 w3 (w.heap.size + 3) (.slice (some ⟨w.heap.size + 1 + 1 + 1, 0, none⟩) 0 0) []) := (by rw [hw3]; exact own_cells (by omega) _ _ _ O1); have v4 : w3.cell? ⟨w.heap.size, 4, none⟩ = some (.int .i64 ds) := C3.cell 4 rfl; have v7 : w3.cell? ⟨w.heap.size, 7, none⟩ = some (.int .i64 dw) := C3.cell 7 rfl; have v8 : w3.cell? ⟨w.heap.size, 8, none⟩ = some (.string dI) := C3.cell 8 rfl; have z7 : w3.frozen? ⟨w.heap.size, 7, none⟩ = false := C3.thaw 7 (by simp); have z8 : w3.frozen? ⟨w.heap.size, 8, none⟩ = false := C3.thaw 8 (by simp); have k2 : w3.cell? ⟨w.heap.size + 1, 2, none⟩ = some (.int .i64 sq) := G3.cell 2 rfl; have k4 : w3.cell? ⟨w.heap.size + 1, 4, none⟩ = some (.int .i64 fl) := G3.cell 4 rfl; have k6 : w3.cell? ⟨w.heap.size + 1, 6, none⟩ = some (.string da) := G3.cell 6 rfl; clear hw3 C1 G1 R1 B1 O1) | (refine wpl_put rfl _ _ rfl (w.heap.size + 1 + 1) _ rfl rfl R3 rfl rfl rfl ?_; intro w5 hw5 R5; have B5 : Hid (Below w.heap.size w w5) := (by rw [hw5]; exact below_cells (by omega) _ _ _ B3.out); have O5 : Hid (OwnS sgG 7 27 w5 (w.heap.size + 3) (.slice (some ⟨w.heap.size + 1 + 1 + 1, 0, none⟩) 0 0) []) := (by rw [hw5]; exact own_cells (by omega) _ _ _ O3.out); clear hw5) | (refine wpl_get rfl _ rfl _ rfl (by assumption) rfl ?_) | fail)
  have xx0 : w5.cell? ⟨w.heap.size + 1 + 1, 0, none⟩ = some (.string dm) := R5.cell 0 rfl
  have xx1 : w5.cell? ⟨w.heap.size + 1 + 1, 1, none⟩ = some (.int .i64 di1) := R5.cell 1 rfl
  have xx2 : w5.cell? ⟨w.heap.size + 1 + 1, 2, none⟩ = some (.int .i64 dp1) := R5.cell 2 rfl
  have xx3 : w5.cell? ⟨w.heap.size + 1 + 1, 3, none⟩ = some (.int .i64 dd) := R5.cell 3 rfl
  have xx4 : w5.cell? ⟨w.heap.size + 1 + 1, 4, none⟩ = some (.int .i64 ds) := R5.cell 4 rfl
  have xx5 : w5.cell? ⟨w.heap.size + 1 + 1, 5, none⟩ = some (.int .i64 du) := R5.cell 5 rfl
  have xx6 : w5.cell? ⟨w.heap.size + 1 + 1, 6, none⟩ = some (.int .i64 dn) := R5.cell 6 rfl
  have xx7 : w5.cell? ⟨w.heap.size + 1 + 1, 7, none⟩ = some (.int .i64 dw) := R5.cell 7 rfl
  have xx8 : w5.cell? ⟨w.heap.size + 1 + 1, 8, none⟩ = some (.string dI) := R5.cell 8 rfl
  have xx9 : w5.cell? ⟨w.heap.size + 1 + 1, 9, none⟩ = some (.string dO) := R5.cell 9 rfl
  have xx10 : w5.cell? ⟨w.heap.size + 1 + 1, 10, none⟩ = some (.bool dF) := R5.cell 10 rfl
  (try simp only [Exit.inBlock, Exit.then])
  refine bodyPost_ret (v := .tuple #[.agg #[.string dm, .int .i64 di1, .int .i64 dp1, .int .i64 dd, .int .i64 ds, .int .i64 du, .int .i64 dn, .int .i64 dw, .string dI, .string dO, .bool dF], .slice (some ⟨w.heap.size + 1 + 1 + 1, 0, none⟩) 0 0]) (by simp [results, Try.results37, go_sem, xx0, xx1, xx2, xx3, xx4, xx5, xx6, xx7, xx8, xx9, xx10]; try rfl) rfl ?_
  exact ⟨_, rfl, O5.out.lower (by omega), B5.out⟩
set_option maxHeartbeats 16000000 in
theorem tkG2_any (mc : ByteArray) (ip po di st un nx wa : Int) (inn out : ByteArray) (fin : Bool) (sp dp sq ac fl wi : Int) (da : ByteArray) (dm : ByteArray) (di1 dp1 dd ds du dn dw : Int) (dI dO : ByteArray) (dF : Bool) (w : World) (t4 : (st == 4) = false) (f4 : (bits BinOp.and IntKind.i64 fl 4 != 0) = false) (f2 : (bits BinOp.and IntKind.i64 fl 2 != 0) = false) (f16 : (bits BinOp.and IntKind.i64 fl 16 == 0) = false) (TK0 : ∀ w, Calls Try.prog 78 #[.agg #[.string mc, .int .i64 ip, .int .i64 po, .int .i64 di, .int .i64 st, .int .i64 un, .int .i64 nx, .int .i64 wa, .string inn, .string out, .bool fin], .int .i64 ac] w fun e w' => e = .returned (.agg #[.string dm, .int .i64 di1, .int .i64 dp1, .int .i64 dd, .int .i64 ds, .int .i64 du, .int .i64 dn, .int .i64 dw, .string dI, .string dO, .bool dF]) ∧ Below w.heap.size w w') (u1 : (ds == 1) = false) (u4 : (ds == 4) = false) (ed : (da.toList == []) = true) (f1 : (bits BinOp.and IntKind.i64 fl 1 == 0) = true) :
    Calls Try.prog 37 #[.agg #[.string mc, .int .i64 ip, .int .i64 po, .int .i64 di, .int .i64 st, .int .i64 un, .int .i64 nx, .int .i64 wa, .string inn, .string out, .bool fin], .agg #[.int .i64 sp, .int .i64 dp, .int .i64 sq, .int .i64 ac, .int .i64 fl, .int .i64 wi, .string da]] w fun e w' => ∃ v, e = .returned (.tuple #[.agg #[.string dm, .int .i64 di1, .int .i64 dp1, .int .i64 dd, .int .i64 ds, .int .i64 du, .int .i64 dn, .int .i64 dw, .string dI, .string dO, .bool dF], v]) ∧ OwnS sgG 7 27 w' w.heap.size v [] ∧ Below w.heap.size w w' := by
  have TK : Hid _ := TK0
  clear TK0
  have C9 : Bx (((w.alloc (.cells #[.string mc, .int .i64 ip, .int .i64 po, .int .i64 di, .int .i64 st, .int .i64 un, .int .i64 nx, .int .i64 wa, .string inn, .string out, .bool fin] 24)).alloc (.cells #[.int .i64 sp, .int .i64 dp, .int .i64 sq, .int .i64 ac, .int .i64 fl, .int .i64 wi, .string da] 27)).alloc (.cells #[.string ⟨#[]⟩, .int .i64 0, .int .i64 0, .int .i64 0, .int .i64 0, .int .i64 0, .int .i64 0, .int .i64 0, .string ⟨#[]⟩, .string ⟨#[]⟩, .bool false] 24)) w.heap.size [.string mc, .int .i64 ip, .int .i64 po, .int .i64 di, .int .i64 st, .int .i64 un, .int .i64 nx, .int .i64 wa, .string inn, .string out, .bool fin] := ((Bx.new w _ _).below ((Below.refl _ _).alloc (Nat.le_refl _) _)).below ((Below.refl _ _).alloc (Nat.le_refl _) _)
  have G9 : Bx (((w.alloc (.cells #[.string mc, .int .i64 ip, .int .i64 po, .int .i64 di, .int .i64 st, .int .i64 un, .int .i64 nx, .int .i64 wa, .string inn, .string out, .bool fin] 24)).alloc (.cells #[.int .i64 sp, .int .i64 dp, .int .i64 sq, .int .i64 ac, .int .i64 fl, .int .i64 wi, .string da] 27)).alloc (.cells #[.string ⟨#[]⟩, .int .i64 0, .int .i64 0, .int .i64 0, .int .i64 0, .int .i64 0, .int .i64 0, .int .i64 0, .string ⟨#[]⟩, .string ⟨#[]⟩, .bool false] 24)) (w.heap.size + 1) [.int .i64 sp, .int .i64 dp, .int .i64 sq, .int .i64 ac, .int .i64 fl, .int .i64 wi, .string da] := by
    have h := (Bx.new (w.alloc (.cells #[.string mc, .int .i64 ip, .int .i64 po, .int .i64 di, .int .i64 st, .int .i64 un, .int .i64 nx, .int .i64 wa, .string inn, .string out, .bool fin] 24)) #[.int .i64 sp, .int .i64 dp, .int .i64 sq, .int .i64 ac, .int .i64 fl, .int .i64 wi, .string da] 27).below ((Below.refl _ _).alloc (Nat.le_refl _) (.cells #[.string ⟨#[]⟩, .int .i64 0, .int .i64 0, .int .i64 0, .int .i64 0, .int .i64 0, .int .i64 0, .int .i64 0, .string ⟨#[]⟩, .string ⟨#[]⟩, .bool false] 24))
    rw [World.size_alloc] at h
    exact h
  have R9 : Bx (((w.alloc (.cells #[.string mc, .int .i64 ip, .int .i64 po, .int .i64 di, .int .i64 st, .int .i64 un, .int .i64 nx, .int .i64 wa, .string inn, .string out, .bool fin] 24)).alloc (.cells #[.int .i64 sp, .int .i64 dp, .int .i64 sq, .int .i64 ac, .int .i64 fl, .int .i64 wi, .string da] 27)).alloc (.cells #[.string ⟨#[]⟩, .int .i64 0, .int .i64 0, .int .i64 0, .int .i64 0, .int .i64 0, .int .i64 0, .int .i64 0, .string ⟨#[]⟩, .string ⟨#[]⟩, .bool false] 24)) (w.heap.size + 1 + 1) [.string ⟨#[]⟩, .int .i64 0, .int .i64 0, .int .i64 0, .int .i64 0, .int .i64 0, .int .i64 0, .int .i64 0, .string ⟨#[]⟩, .string ⟨#[]⟩, .bool false] := by
    have h := Bx.new ((w.alloc (.cells #[.string mc, .int .i64 ip, .int .i64 po, .int .i64 di, .int .i64 st, .int .i64 un, .int .i64 nx, .int .i64 wa, .string inn, .string out, .bool fin] 24)).alloc (.cells #[.int .i64 sp, .int .i64 dp, .int .i64 sq, .int .i64 ac, .int .i64 fl, .int .i64 wi, .string da] 27)) #[.string ⟨#[]⟩, .int .i64 0, .int .i64 0, .int .i64 0, .int .i64 0, .int .i64 0, .int .i64 0, .int .i64 0, .string ⟨#[]⟩, .string ⟨#[]⟩, .bool false] 24
    rw [World.size_alloc, World.size_alloc] at h
    exact h
  have B9 : Hid (Below w.heap.size w (((w.alloc (.cells #[.string mc, .int .i64 ip, .int .i64 po, .int .i64 di, .int .i64 st, .int .i64 un, .int .i64 nx, .int .i64 wa, .string inn, .string out, .bool fin] 24)).alloc (.cells #[.int .i64 sp, .int .i64 dp, .int .i64 sq, .int .i64 ac, .int .i64 fl, .int .i64 wi, .string da] 27)).alloc (.cells #[.string ⟨#[]⟩, .int .i64 0, .int .i64 0, .int .i64 0, .int .i64 0, .int .i64 0, .int .i64 0, .int .i64 0, .string ⟨#[]⟩, .string ⟨#[]⟩, .bool false] 24))) := ((((Below.refl _ _).alloc (Nat.le_refl _) _).alloc (by simp) _).alloc (by simp; omega) _)
  have C0 : Bx ((((w.alloc (.cells #[.string mc, .int .i64 ip, .int .i64 po, .int .i64 di, .int .i64 st, .int .i64 un, .int .i64 nx, .int .i64 wa, .string inn, .string out, .bool fin] 24)).alloc (.cells #[.int .i64 sp, .int .i64 dp, .int .i64 sq, .int .i64 ac, .int .i64 fl, .int .i64 wi, .string da] 27)).alloc (.cells #[.string ⟨#[]⟩, .int .i64 0, .int .i64 0, .int .i64 0, .int .i64 0, .int .i64 0, .int .i64 0, .int .i64 0, .string ⟨#[]⟩, .string ⟨#[]⟩, .bool false] 24)).alloc (.cells #[] 27)) w.heap.size [.string mc, .int .i64 ip, .int .i64 po, .int .i64 di, .int .i64 st, .int .i64 un, .int .i64 nx, .int .i64 wa, .string inn, .string out, .bool fin] := C9.below ((Below.refl _ _).alloc (Nat.le_refl _) _)
  have G0 : Bx ((((w.alloc (.cells #[.string mc, .int .i64 ip, .int .i64 po, .int .i64 di, .int .i64 st, .int .i64 un, .int .i64 nx, .int .i64 wa, .string inn, .string out, .bool fin] 24)).alloc (.cells #[.int .i64 sp, .int .i64 dp, .int .i64 sq, .int .i64 ac, .int .i64 fl, .int .i64 wi, .string da] 27)).alloc (.cells #[.string ⟨#[]⟩, .int .i64 0, .int .i64 0, .int .i64 0, .int .i64 0, .int .i64 0, .int .i64 0, .int .i64 0, .string ⟨#[]⟩, .string ⟨#[]⟩, .bool false] 24)).alloc (.cells #[] 27)) (w.heap.size + 1) [.int .i64 sp, .int .i64 dp, .int .i64 sq, .int .i64 ac, .int .i64 fl, .int .i64 wi, .string da] := G9.below ((Below.refl _ _).alloc (Nat.le_refl _) _)
  have R0 : Bx ((((w.alloc (.cells #[.string mc, .int .i64 ip, .int .i64 po, .int .i64 di, .int .i64 st, .int .i64 un, .int .i64 nx, .int .i64 wa, .string inn, .string out, .bool fin] 24)).alloc (.cells #[.int .i64 sp, .int .i64 dp, .int .i64 sq, .int .i64 ac, .int .i64 fl, .int .i64 wi, .string da] 27)).alloc (.cells #[.string ⟨#[]⟩, .int .i64 0, .int .i64 0, .int .i64 0, .int .i64 0, .int .i64 0, .int .i64 0, .int .i64 0, .string ⟨#[]⟩, .string ⟨#[]⟩, .bool false] 24)).alloc (.cells #[] 27)) (w.heap.size + 1 + 1) [.string ⟨#[]⟩, .int .i64 0, .int .i64 0, .int .i64 0, .int .i64 0, .int .i64 0, .int .i64 0, .int .i64 0, .string ⟨#[]⟩, .string ⟨#[]⟩, .bool false] := R9.below ((Below.refl _ _).alloc (Nat.le_refl _) _)
  have B0 : Hid (Below w.heap.size w ((((w.alloc (.cells #[.string mc, .int .i64 ip, .int .i64 po, .int .i64 di, .int .i64 st, .int .i64 un, .int .i64 nx, .int .i64 wa, .string inn, .string out, .bool fin] 24)).alloc (.cells #[.int .i64 sp, .int .i64 dp, .int .i64 sq, .int .i64 ac, .int .i64 fl, .int .i64 wi, .string da] 27)).alloc (.cells #[.string ⟨#[]⟩, .int .i64 0, .int .i64 0, .int .i64 0, .int .i64 0, .int .i64 0, .int .i64 0, .int .i64 0, .string ⟨#[]⟩, .string ⟨#[]⟩, .bool false] 24)).alloc (.cells #[] 27))) := (((((Below.refl _ _).alloc (Nat.le_refl _) _).alloc (by simp) _).alloc (by simp; omega) _).alloc (by simp; omega) _)
  have O0 : OwnS sgG 7 27 ((((w.alloc (.cells #[.string mc, .int .i64 ip, .int .i64 po, .int .i64 di, .int .i64 st, .int .i64 un, .int .i64 nx, .int .i64 wa, .string inn, .string out, .bool fin] 24)).alloc (.cells #[.int .i64 sp, .int .i64 dp, .int .i64 sq, .int .i64 ac, .int .i64 fl, .int .i64 wi, .string da] 27)).alloc (.cells #[.string ⟨#[]⟩, .int .i64 0, .int .i64 0, .int .i64 0, .int .i64 0, .int .i64 0, .int .i64 0, .int .i64 0, .string ⟨#[]⟩, .string ⟨#[]⟩, .bool false] 24)).alloc (.cells #[] 27)) (w.heap.size + 3) (.slice (some ⟨w.heap.size + 1 + 1 + 1, 0, none⟩) 0 0) [] := lit_at (by omega) (by simp)
  clear C9 G9 R9 B9
  go_enter Try.func37, Try.ntmps37
  go_wp2_with fail
  refine (TK.out _).mono ?_
  rintro e w1 ⟨rfl, b1⟩
  have C1 : Bx w1 w.heap.size [.string mc, .int .i64 ip, .int .i64 po, .int .i64 di, .int .i64 st, .int .i64 un, .int .i64 nx, .int .i64 wa, .string inn, .string out, .bool fin] := C0.below b1
  have G1 : Bx w1 (w.heap.size + 1) [.int .i64 sp, .int .i64 dp, .int .i64 sq, .int .i64 ac, .int .i64 fl, .int .i64 wi, .string da] := G0.below b1
  have R1 : Bx w1 (w.heap.size + 1 + 1) [.string ⟨#[]⟩, .int .i64 0, .int .i64 0, .int .i64 0, .int .i64 0, .int .i64 0, .int .i64 0, .int .i64 0, .string ⟨#[]⟩, .string ⟨#[]⟩, .bool false] := R0.below b1
  have B1 : Hid (Below w.heap.size w w1) := B0.out.trans (b1.mono B0.out.size)
  have O1 : OwnS sgG 7 27 w1 (w.heap.size + 3) (.slice (some ⟨w.heap.size + 1 + 1 + 1, 0, none⟩) 0 0) [] := O0.now b1
  clear b1 C0 G0 R0 B0 O0 TK
  go_wp2_with (first | (refine wpl_put rfl _ _ rfl (w.heap.size) _ rfl rfl C1 rfl rfl rfl ?_; intro w3 hw3 C3; have G3 : Bx w3 (w.heap.size + 1) [.int .i64 sp, .int .i64 dp, .int .i64 sq, .int .i64 ac, .int .i64 fl, .int .i64 wi, .string da] := (by rw [hw3]; exact G1.apart _ (by omega)); have R3 : Bx w3 (w.heap.size + 1 + 1) [.string ⟨#[]⟩, .int .i64 0, .int .i64 0, .int .i64 0, .int .i64 0, .int .i64 0, .int .i64 0, .int .i64 0, .string ⟨#[]⟩, .string ⟨#[]⟩, .bool false] := (by rw [hw3]; exact R1.apart _ (by omega)); have B3 : Hid (Below w.heap.size w w3) := (by rw [hw3]; exact below_cells (Nat.le_refl _) _ _ _ B1.out); have O3 : Hid (OwnS sgG 7 27 w3 (w.heap.size + 3) (.slice (some ⟨w.heap.size + 1 + 1 + 1, 0, none⟩) 0 0) []) := (by rw [hw3]; exact own_cells (by omega) _ _ _ O1); have v4 : w3.cell? ⟨w.heap.size, 4, none⟩ = some (.int .i64 ds) := C3.cell 4 rfl; have v7 : w3.cell? ⟨w.heap.size, 7, none⟩ = some (.int .i64 dw) := C3.cell 7 rfl; have v8 : w3.cell? ⟨w.heap.size, 8, none⟩ = some (.string dI) := C3.cell 8 rfl; have z7 : w3.frozen? ⟨w.heap.size, 7, none⟩ = false := C3.thaw 7 (by simp); have z8 : w3.frozen? ⟨w.heap.size, 8, none⟩ = false := C3.thaw 8 (by simp); have k2 : w3.cell? ⟨w.heap.size + 1, 2, none⟩ = some (.int .i64 sq) := G3.cell 2 rfl; have k4 : w3.cell? ⟨w.heap.size + 1, 4, none⟩ = some (.int .i64 fl) := G3.cell 4 rfl; have k6 : w3.cell? ⟨w.heap.size + 1, 6, none⟩ = some (.string da) := G3.cell 6 rfl; clear hw3 C1 G1 R1 B1 O1) | (refine wpl_put rfl _ _ rfl (w.heap.size + 1 + 1) _ rfl rfl R3 rfl rfl rfl ?_; intro w5 hw5 R5; have B5 : Hid (Below w.heap.size w w5) := (by rw [hw5]; exact below_cells (by omega) _ _ _ B3.out); have O5 : Hid (OwnS sgG 7 27 w5 (w.heap.size + 3) (.slice (some ⟨w.heap.size + 1 + 1 + 1, 0, none⟩) 0 0) []) := (by rw [hw5]; exact own_cells (by omega) _ _ _ O3.out); clear hw5) | (refine wpl_get rfl _ rfl _ rfl (by assumption) rfl ?_) | fail)
  have xx0 : w5.cell? ⟨w.heap.size + 1 + 1, 0, none⟩ = some (.string dm) := R5.cell 0 rfl
  have xx1 : w5.cell? ⟨w.heap.size + 1 + 1, 1, none⟩ = some (.int .i64 di1) := R5.cell 1 rfl
  have xx2 : w5.cell? ⟨w.heap.size + 1 + 1, 2, none⟩ = some (.int .i64 dp1) := R5.cell 2 rfl
  have xx3 : w5.cell? ⟨w.heap.size + 1 + 1, 3, none⟩ = some (.int .i64 dd) := R5.cell 3 rfl
  have xx4 : w5.cell? ⟨w.heap.size + 1 + 1, 4, none⟩ = some (.int .i64 ds) := R5.cell 4 rfl
  have xx5 : w5.cell? ⟨w.heap.size + 1 + 1, 5, none⟩ = some (.int .i64 du) := R5.cell 5 rfl
  have xx6 : w5.cell? ⟨w.heap.size + 1 + 1, 6, none⟩ = some (.int .i64 dn) := R5.cell 6 rfl
  have xx7 : w5.cell? ⟨w.heap.size + 1 + 1, 7, none⟩ = some (.int .i64 dw) := R5.cell 7 rfl
  have xx8 : w5.cell? ⟨w.heap.size + 1 + 1, 8, none⟩ = some (.string dI) := R5.cell 8 rfl
  have xx9 : w5.cell? ⟨w.heap.size + 1 + 1, 9, none⟩ = some (.string dO) := R5.cell 9 rfl
  have xx10 : w5.cell? ⟨w.heap.size + 1 + 1, 10, none⟩ = some (.bool dF) := R5.cell 10 rfl
  (try simp only [Exit.inBlock, Exit.then])
  refine bodyPost_ret (v := .tuple #[.agg #[.string dm, .int .i64 di1, .int .i64 dp1, .int .i64 dd, .int .i64 ds, .int .i64 du, .int .i64 dn, .int .i64 dw, .string dI, .string dO, .bool dF], .slice (some ⟨w.heap.size + 1 + 1 + 1, 0, none⟩) 0 0]) (by simp [results, Try.results37, go_sem, xx0, xx1, xx2, xx3, xx4, xx5, xx6, xx7, xx8, xx9, xx10]; try rfl) rfl ?_
  exact ⟨_, rfl, O5.out.lower (by omega), B5.out⟩
end Go.Proofs.Ytfgghffgfefgpaa
