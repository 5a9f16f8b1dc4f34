/- The walk of laws.FnExactConnTake. -/
import Derived.Test.YtfgghffgfefgpaaJ6
namespace Go.Proofs.Ytfgghffgfefgpaa
open Go.RowKit Go.PlainAid Go.Proofs.Ytfgghffgfefgpaa.Bt Go.Sort
set_option linter.unusedVariables false
set_option maxRecDepth 20000

def SgS (q : Nat) (sp dp sq ac fl wi : Int) (da : ByteArray) (W wx : World) : Prop := wx.cell? ⟨q, 0, none⟩ = some (.int .i64 sp) ∧ wx.cell? ⟨q, 1, none⟩ = some (.int .i64 dp) ∧ wx.cell? ⟨q, 2, none⟩ = some (.int .i64 sq) ∧ wx.cell? ⟨q, 3, none⟩ = some (.int .i64 ac) ∧ wx.cell? ⟨q, 4, none⟩ = some (.int .i64 fl) ∧ wx.cell? ⟨q, 5, none⟩ = some (.int .i64 wi) ∧ wx.cell? ⟨q, 6, none⟩ = some (.string da) ∧ KpC W wx
theorem SgS.below {q : Nat} {sp dp sq ac fl wi : Int} {da : ByteArray} {W wx wy : World} (h : SgS q sp dp sq ac fl wi da W wx) (hb : Below wx.heap.size wx wy) : SgS q sp dp sq ac fl wi da W wy :=
  ⟨bkeep hb h.1, bkeep hb h.2.1, bkeep hb h.2.2.1, bkeep hb h.2.2.2.1, bkeep hb h.2.2.2.2.1, bkeep hb h.2.2.2.2.2.1, bkeep hb h.2.2.2.2.2.2.1, ⟨h.2.2.2.2.2.2.2.out.trans (hb.mono h.2.2.2.2.2.2.2.out.size)⟩⟩
theorem SgS.row {q : Nat} {r : Option Nat} {sp dp sq ac fl wi : Int} {da : ByteArray} {W wx wy : World} (h : SgS q sp dp sq ac fl wi da W wx) (hg : wx.grownBy wy r) (hb : Below W.heap.size wx wy) (hne : some q ≠ r) : SgS q sp dp sq ac fl wi da W wy :=
  ⟨hg.cell (a := ⟨q, 0, none⟩) h.1 hne, hg.cell (a := ⟨q, 1, none⟩) h.2.1 hne, hg.cell (a := ⟨q, 2, none⟩) h.2.2.1 hne, hg.cell (a := ⟨q, 3, none⟩) h.2.2.2.1 hne, hg.cell (a := ⟨q, 4, none⟩) h.2.2.2.2.1 hne, hg.cell (a := ⟨q, 5, none⟩) h.2.2.2.2.2.1 hne, hg.cell (a := ⟨q, 6, none⟩) h.2.2.2.2.2.2.1 hne, ⟨h.2.2.2.2.2.2.2.out.trans hb⟩⟩
/-- Both arguments in their boxes. -/
structure ArT (mc : ByteArray) (ip po di st un nx wa : Int) (inn out : ByteArray) (fin : Bool) (sp dp sq ac fl wi : Int) (da : ByteArray) (w wx : World) : Prop where
  c : CnS w.heap.size mc ip po di st un nx wa inn out fin w wx
  g : SgS (w.heap.size + 1) sp dp sq ac fl wi da w wx
theorem ArT.below {mc : ByteArray} {ip po di st un nx wa : Int} {inn out : ByteArray} {fin : Bool} {sp dp sq ac fl wi : Int} {da : ByteArray} {w wx wy : World} (h : ArT mc ip po di st un nx wa inn out fin sp dp sq ac fl wi da w wx) (hb : Below wx.heap.size wx wy) : ArT mc ip po di st un nx wa inn out fin sp dp sq ac fl wi da w wy := ⟨h.c.below hb, h.g.below hb⟩
theorem ArT.row {r : Option Nat} {mc : ByteArray} {ip po di st un nx wa : Int} {inn out : ByteArray} {fin : Bool} {sp dp sq ac fl wi : Int} {da : ByteArray} {w wx wy : World} (h : ArT mc ip po di st un nx wa inn out fin sp dp sq ac fl wi da w wx) (hg : wx.grownBy wy r) (hb : Below w.heap.size wx wy) (h1 : some w.heap.size ≠ r) (h2 : some (w.heap.size + 1) ≠ r) : ArT mc ip po di st un nx wa inn out fin sp dp sq ac fl wi da w wy := ⟨h.c.row hg hb h1, h.g.row hg hb h2⟩
theorem rwS {w : World} {B n cap : Nat} {a : Option Addr} {L : List SegV} (h : OwnS sgG 7 27 w B (.slice a n cap) L) (hok : ∀ x, x ∈ L → SgRok x) : Rw SgR 7 w a L := h.rw sgG_len hok
theorem specTk_any (mc : ByteArray) (ip po di st un nx wa : Int) (inn out : ByteArray) (fin : Bool) (sp dp sq ac fl wi : Int) (da : ByteArray) (w : World) (hmc : mc.size ≤ 1048576) (hi : inn.size ≤ 1048576) (ho : out.size ≤ 1048576) (hda : da.size ≤ 9223372036854775807) :
    Calls Try.prog 9 #[.agg #[.string mc, .int .i64 ip, .int .i64 po, .int .i64 di, .int .i64 st, .int .i64 un, .int .i64 nx, .int .i64 wa, .string inn, .string out, .bool fin], .agg #[.int .i64 sp, .int .i64 dp, .int .i64 sq, .int .i64 ac, .int .i64 fl, .int .i64 wi, .string da]] w fun e w' => ∃ v, e = .returned (.tuple #[cvA (tkW ⟨mc, ip, po, di, st, un, nx, wa, inn, out, fin⟩ ⟨sp, dp, sq, ac, fl, wi, da⟩), v, .int .i64 (tkC ⟨mc, ip, po, di, st, un, nx, wa, inn, out, fin⟩ ⟨sp, dp, sq, ac, fl, wi, da⟩)]) ∧ OwnS sgG 7 27 w' w.heap.size v (tkM ⟨mc, ip, po, di, st, un, nx, wa, inn, out, fin⟩ ⟨sp, dp, sq, ac, fl, wi, da⟩) ∧ Below w.heap.size w w' := by
  cases hok : okB ⟨mc, ip, po, di, st, un, nx, wa, inn, out, fin⟩ with
  | false =>
    have e1 : tkC ⟨mc, ip, po, di, st, un, nx, wa, inn, out, fin⟩ ⟨sp, dp, sq, ac, fl, wi, da⟩ = 1 := if_neg (by simp [hok])
    have e2 : tkW ⟨mc, ip, po, di, st, un, nx, wa, inn, out, fin⟩ ⟨sp, dp, sq, ac, fl, wi, da⟩ = cnZ := if_neg (by simp [hok])
    have e3 : tkM ⟨mc, ip, po, di, st, un, nx, wa, inn, out, fin⟩ ⟨sp, dp, sq, ac, fl, wi, da⟩ = [] := if_neg (by simp [hok])
    rw [e1, e2, e3]
    exact specTk_bad1 mc ip po di st un nx wa inn out fin sp dp sq ac fl wi da w hmc hi ho hda hok
  | true =>
  cases hsg : sgB ⟨sp, dp, sq, ac, fl, wi, da⟩ with
  | false =>
    have e1 : tkC ⟨mc, ip, po, di, st, un, nx, wa, inn, out, fin⟩ ⟨sp, dp, sq, ac, fl, wi, da⟩ = 1 := if_neg (by simp [hsg])
    have e2 : tkW ⟨mc, ip, po, di, st, un, nx, wa, inn, out, fin⟩ ⟨sp, dp, sq, ac, fl, wi, da⟩ = cnZ := if_neg (by simp [hsg])
    have e3 : tkM ⟨mc, ip, po, di, st, un, nx, wa, inn, out, fin⟩ ⟨sp, dp, sq, ac, fl, wi, da⟩ = [] := if_neg (by simp [hsg])
    rw [e1, e2, e3]
    exact specTk_bad2 mc ip po di st un nx wa inn out fin sp dp sq ac fl wi da w hmc hi ho hda hok hsg
  | true =>
    have e1 : tkC ⟨mc, ip, po, di, st, un, nx, wa, inn, out, fin⟩ ⟨sp, dp, sq, ac, fl, wi, da⟩ = 0 := if_pos ⟨hok, hsg⟩
    have e2 : tkW ⟨mc, ip, po, di, st, un, nx, wa, inn, out, fin⟩ ⟨sp, dp, sq, ac, fl, wi, da⟩ = tkV ⟨mc, ip, po, di, st, un, nx, wa, inn, out, fin⟩ ⟨sp, dp, sq, ac, fl, wi, da⟩ := if_pos ⟨hok, hsg⟩
    have e3 : tkM ⟨mc, ip, po, di, st, un, nx, wa, inn, out, fin⟩ ⟨sp, dp, sq, ac, fl, wi, da⟩ = tkL ⟨mc, ip, po, di, st, un, nx, wa, inn, out, fin⟩ ⟨sp, dp, sq, ac, fl, wi, da⟩ := if_pos ⟨hok, hsg⟩
    rw [e1, e2, e3]
    have TT0 : ∀ w, Calls Try.prog 37 #[.agg #[.string mc, .int .i64 ip, .int .i64 po, .int .i64 di, .int .i64 st, .int .i64 un, .int .i64 nx, .int .i64 wa, .string inn, .string out, .bool fin], .agg #[.int .i64 sp, .int .i64 dp, .int .i64 sq, .int .i64 ac, .int .i64 fl, .int .i64 wi, .string da]] w fun e w' => ∃ v, e = .returned (.tuple #[cvA (tkV ⟨mc, ip, po, di, st, un, nx, wa, inn, out, fin⟩ ⟨sp, dp, sq, ac, fl, wi, da⟩), v]) ∧ OwnS sgG 7 27 w' w.heap.size v (tkL ⟨mc, ip, po, di, st, un, nx, wa, inn, out, fin⟩ ⟨sp, dp, sq, ac, fl, wi, da⟩) ∧ Below w.heap.size w w' := fun w => l10Take_any mc ip po di st un nx wa inn out fin sp dp sq ac fl wi da w hok hsg
    generalize tkV ⟨mc, ip, po, di, st, un, nx, wa, inn, out, fin⟩ ⟨sp, dp, sq, ac, fl, wi, da⟩ = X at TT0 ⊢
    generalize tkL ⟨mc, ip, po, di, st, un, nx, wa, inn, out, fin⟩ ⟨sp, dp, sq, ac, fl, wi, da⟩ = XL at TT0 ⊢
    obtain ⟨xm, xi, xp, xd, xs, xu, xn, xw, xI, xO, xF⟩ := X
    exact specTk_ok mc ip po di st un nx wa inn out fin sp dp sq ac fl wi da xm xi xp xd xs xu xn xw xI xO xF XL w hmc hi ho hda hok hsg TT0
theorem tkM_len (c : ConnV) (g : SegV) : (tkM c g).length ≤ 1 := by
  unfold tkM tkL
  repeat' split
  all_goals simp
theorem akV_po (c : ConnV) (a : Int) : (akV c a).po = c.po ∧ (akV c a).nx = c.nx := by
  unfold akV
  repeat' split
  all_goals exact ⟨rfl, rfl⟩
theorem tdV_po (c : ConnV) (g : SegV) (hw : 0 ≤ c.wa ∧ c.wa ≤ 4294967295) : (tdV c g).po = c.po ∧ (tdV c g).nx = c.nx ∧ (0 ≤ (tdV c g).wa ∧ (tdV c g).wa ≤ 4294967295) := by
  unfold tdV
  split
  · refine ⟨rfl, rfl, ?_⟩
    dsimp only
    split <;> exact sqN_bd _
  · exact ⟨rfl, rfl, hw⟩
theorem sg9_ok {po sq wa fl : Int} (h1 : 0 ≤ po ∧ po ≤ 65535) (h2 : 0 ≤ sq ∧ sq ≤ 4294967295) (h3 : 0 ≤ wa ∧ wa ≤ 4294967295) (h4 : 0 ≤ fl ∧ fl ≤ 31) : SgRok ⟨80, po, sq, wa, fl, 1000, ⟨#[]⟩⟩ :=
  ⟨rfl, wf64 (n := po) h1.1 (by omega), wf64 (n := sq) h2.1 h2.2, wf64 (n := wa) h3.1 h3.2, wf64 (n := fl) h4.1 (by omega), rfl, Nat.zero_le _⟩
theorem tkM_ok (c : ConnV) (g : SegV) : ∀ x, x ∈ tkM c g → SgRok x := by
  intro x hx
  unfold tkM at hx
  split at hx
  · rename_i h
    have hn := nuB_bd (okB_says h.1).1
    have hk := akV_keep c g.ac
    have hp := akV_po c g.ac
    have ht := tdV_po (akV c g.ac) g (by rw [hk.2]; exact hn.2.2.2.2.2.2)
    unfold tkL at hx
    split at hx
    · simp at hx
    split at hx
    · simp at hx
    split at hx
    · simp only [List.mem_singleton] at hx
      subst hx
      unfold syS
      split
      · exact sg9_ok hn.2.1 hn.2.2.2.2.1 hn.2.2.2.2.2.2 (by decide)
      · exact sg9_ok hn.2.1 hn.2.2.2.2.2.1 hn.2.2.2.2.2.2 (by decide)
    split at hx
    · simp at hx
    split at hx
    · simp at hx
    · simp only [List.mem_singleton] at hx
      subst hx
      unfold agS
      rw [ht.1, ht.2.1, hp.1, hp.2]
      exact sg9_ok hn.2.1 hn.2.2.2.2.2.1 ht.2.2 (by decide)
  · simp at hx
set_option maxHeartbeats 8000000 in
theorem lawConnTake_any (mc : ByteArray) (ip po di st un nx wa : Int) (inn out : ByteArray) (fin : Bool) (sp dp sq ac fl wi : Int) (da : ByteArray) (w : World) (hmc : mc.size ≤ maxLen) (hinn : inn.size ≤ maxLen) (hout : out.size ≤ maxLen) (hda : da.size ≤ maxLen) (wpo : po ≤ 9223372036854775807) (hs : sp ≤ 9223372036854775807) (hd : dp ≤ 9223372036854775807) (hq : sq ≤ 9223372036854775807) (ha : ac ≤ 9223372036854775807) (hw : wi ≤ 9223372036854775807) :
    Calls Try.prog 5 #[.agg #[.string mc, .int .i64 ip, .int .i64 po, .int .i64 di, .int .i64 st, .int .i64 un, .int .i64 nx, .int .i64 wa, .string inn, .string out, .bool fin], .agg #[.int .i64 sp, .int .i64 dp, .int .i64 sq, .int .i64 ac, .int .i64 fl, .int .i64 wi, .string da]] w fun e w' => e = .returned (.bool true) ∧ Below w.heap.size w w' := by
  unfold maxLen at hmc hinn hout hda
  have HZ : Hid (∀ w, Calls Try.prog 22 #[.agg #[.string mc, .int .i64 ip, .int .i64 po, .int .i64 di, .int .i64 st, .int .i64 un, .int .i64 nx, .int .i64 wa, .string inn, .string out, .bool fin], .int .i64 1048576] w fun e w' => ∃ r : Int, e = .returned (.int .i64 r) ∧ (0 ≤ r → r ≤ 1048576 ∧ (mc.size : Int) ≤ 1048576 ∧ (inn.size : Int) ≤ 1048576 ∧ (out.size : Int) ≤ 1048576) ∧ -1 ≤ r ∧ r ≤ 1048576 ∧ Grw w w') := fun w => szConn_any mc ip po di st un nx wa inn out fin 1048576 w (by omega) (by omega) (by omega) (by omega) (by omega)
  have HZ2 : Hid (∀ (l : Int) w, 0 ≤ l → l ≤ 1048576 → Calls Try.prog 23 #[.agg #[.int .i64 sp, .int .i64 dp, .int .i64 sq, .int .i64 ac, .int .i64 fl, .int .i64 wi, .string da], .int .i64 l] w fun e w' => ∃ r : Int, e = .returned (.int .i64 r) ∧ (0 ≤ r → r ≤ l ∧ (da.size : Int) ≤ l) ∧ -1 ≤ r ∧ r ≤ 1048576 ∧ Grw w w') := fun l w h0 h1 => szSegment_any sp dp sq ac fl wi da l w (by omega) h0 h1
  have HT : Hid (∀ w, Calls Try.prog 24 #[.agg #[.string mc, .int .i64 ip, .int .i64 po, .int .i64 di, .int .i64 st, .int .i64 un, .int .i64 nx, .int .i64 wa, .string inn, .string out, .bool fin]] w fun e w' => e = .returned (.agg #[.string mc, .int .i64 ip, .int .i64 po, .int .i64 di, .int .i64 st, .int .i64 un, .int .i64 nx, .int .i64 wa, .string inn, .string out, .bool fin]) ∧ Grw w w') := fun w => toConn_any mc ip po di st un nx wa inn out fin w
  have HG : Hid (∀ w, Calls Try.prog 25 #[.agg #[.int .i64 sp, .int .i64 dp, .int .i64 sq, .int .i64 ac, .int .i64 fl, .int .i64 wi, .string da]] w fun e w' => e = .returned (.agg #[.int .i64 sp, .int .i64 dp, .int .i64 sq, .int .i64 ac, .int .i64 fl, .int .i64 wi, .string da]) ∧ Grw w w') := fun w => toSegment_any sp dp sq ac fl wi da w
  have HS : Hid (mc.size ≤ 1048576 → inn.size ≤ 1048576 → out.size ≤ 1048576 → da.size ≤ 1048576 → ∀ w, Calls Try.prog 9 #[.agg #[.string mc, .int .i64 ip, .int .i64 po, .int .i64 di, .int .i64 st, .int .i64 un, .int .i64 nx, .int .i64 wa, .string inn, .string out, .bool fin], .agg #[.int .i64 sp, .int .i64 dp, .int .i64 sq, .int .i64 ac, .int .i64 fl, .int .i64 wi, .string da]] w fun e w' => ∃ v, e = .returned (.tuple #[cvA (tkW ⟨mc, ip, po, di, st, un, nx, wa, inn, out, fin⟩ ⟨sp, dp, sq, ac, fl, wi, da⟩), v, .int .i64 (tkC ⟨mc, ip, po, di, st, un, nx, wa, inn, out, fin⟩ ⟨sp, dp, sq, ac, fl, wi, da⟩)]) ∧ OwnS sgG 7 27 w' w.heap.size v (tkM ⟨mc, ip, po, di, st, un, nx, wa, inn, out, fin⟩ ⟨sp, dp, sq, ac, fl, wi, da⟩) ∧ Below w.heap.size w w') := fun h1 h2 h3 h4 w => specTk_any mc ip po di st un nx wa inn out fin sp dp sq ac fl wi da w h1 h2 h3 (by omega)
  have HI : Hid (mc.size ≤ 1048576 → inn.size ≤ 1048576 → out.size ≤ 1048576 → da.size ≤ 1048576 → ∀ w, Calls Try.prog 8 #[.agg #[.string mc, .int .i64 ip, .int .i64 po, .int .i64 di, .int .i64 st, .int .i64 un, .int .i64 nx, .int .i64 wa, .string inn, .string out, .bool fin], .agg #[.int .i64 sp, .int .i64 dp, .int .i64 sq, .int .i64 ac, .int .i64 fl, .int .i64 wi, .string da]] w fun e w' => ∃ v, e = .returned (.tuple #[cvA (tkW ⟨mc, ip, po, di, st, un, nx, wa, inn, out, fin⟩ ⟨sp, dp, sq, ac, fl, wi, da⟩), v, .int .i64 (tkC ⟨mc, ip, po, di, st, un, nx, wa, inn, out, fin⟩ ⟨sp, dp, sq, ac, fl, wi, da⟩)]) ∧ OwnS sgG 7 27 w' w.heap.size v (tkM ⟨mc, ip, po, di, st, un, nx, wa, inn, out, fin⟩ ⟨sp, dp, sq, ac, fl, wi, da⟩) ∧ Below w.heap.size w w') := fun h1 h2 h3 h4 w => implTk_any mc ip po di st un nx wa inn out fin sp dp sq ac fl wi da w wpo h1 h2 h3 hs hd hq ha hw (by omega)
  have hLb : (tkM ⟨mc, ip, po, di, st, un, nx, wa, inn, out, fin⟩ ⟨sp, dp, sq, ac, fl, wi, da⟩).length ≤ 1048576 := Nat.le_trans (tkM_len _ _) (by omega)
  have OKO : Hid (∀ x, x ∈ (tkM ⟨mc, ip, po, di, st, un, nx, wa, inn, out, fin⟩ ⟨sp, dp, sq, ac, fl, wi, da⟩) → SgRok x) := tkM_ok _ _
  generalize tkC ⟨mc, ip, po, di, st, un, nx, wa, inn, out, fin⟩ ⟨sp, dp, sq, ac, fl, wi, da⟩ = c at HS HI
  generalize tkM ⟨mc, ip, po, di, st, un, nx, wa, inn, out, fin⟩ ⟨sp, dp, sq, ac, fl, wi, da⟩ = O at HS HI hLb OKO
  generalize tkW ⟨mc, ip, po, di, st, un, nx, wa, inn, out, fin⟩ ⟨sp, dp, sq, ac, fl, wi, da⟩ = V at HS HI
  obtain ⟨vm, vi, vp, vd, vs, vu, vn, va, vI, vO, vF⟩ := V
  replace HS : Hid (mc.size ≤ 1048576 → inn.size ≤ 1048576 → out.size ≤ 1048576 → da.size ≤ 1048576 → ∀ w, Calls Try.prog 9 #[.agg #[.string mc, .int .i64 ip, .int .i64 po, .int .i64 di, .int .i64 st, .int .i64 un, .int .i64 nx, .int .i64 wa, .string inn, .string out, .bool fin], .agg #[.int .i64 sp, .int .i64 dp, .int .i64 sq, .int .i64 ac, .int .i64 fl, .int .i64 wi, .string da]] w fun e w' => ∃ v, e = .returned (.tuple #[.agg #[.string vm, .int .i64 vi, .int .i64 vp, .int .i64 vd, .int .i64 vs, .int .i64 vu, .int .i64 vn, .int .i64 va, .string vI, .string vO, .bool vF], v, .int .i64 c]) ∧ OwnS sgG 7 27 w' w.heap.size v O ∧ Below w.heap.size w w') := HS
  replace HI : Hid (mc.size ≤ 1048576 → inn.size ≤ 1048576 → out.size ≤ 1048576 → da.size ≤ 1048576 → ∀ w, Calls Try.prog 8 #[.agg #[.string mc, .int .i64 ip, .int .i64 po, .int .i64 di, .int .i64 st, .int .i64 un, .int .i64 nx, .int .i64 wa, .string inn, .string out, .bool fin], .agg #[.int .i64 sp, .int .i64 dp, .int .i64 sq, .int .i64 ac, .int .i64 fl, .int .i64 wi, .string da]] w fun e w' => ∃ v, e = .returned (.tuple #[.agg #[.string vm, .int .i64 vi, .int .i64 vp, .int .i64 vd, .int .i64 vs, .int .i64 vu, .int .i64 vn, .int .i64 va, .string vI, .string vO, .bool vF], v, .int .i64 c]) ∧ OwnS sgG 7 27 w' w.heap.size v O ∧ Below w.heap.size w w') := HI
  have OKM : Hid (∀ x, x ∈ mk7 O.length → SgRok x) := mk7_ok _ hLb
  have HQ : Hid (∀ w, Calls Try.prog 26 #[.agg #[.string vm, .int .i64 vi, .int .i64 vp, .int .i64 vd, .int .i64 vs, .int .i64 vu, .int .i64 vn, .int .i64 va, .string vI, .string vO, .bool vF], .agg #[.string vm, .int .i64 vi, .int .i64 vp, .int .i64 vd, .int .i64 vs, .int .i64 vu, .int .i64 vn, .int .i64 va, .string vI, .string vO, .bool vF]] w fun e w' => e = .returned (.bool true) ∧ Grw w w') := fun w => eqConn_any vm vi vp vd vs vu vn va vI vO vF w
  have HE : Hid (∀ (a a' : Option Addr) (cap cap' : Nat) w, Rw SgR 7 w a O → Rw SgR 7 w a' O → Calls Try.prog 27 #[.slice a O.length cap, .slice a' O.length cap'] w fun e w' => e = .returned (.bool true) ∧ Grw w w') := fun a a' cap cap' w h h' => eqSegmentS_yes a a' O.length cap cap' O w h h' rfl (by omega)
  have hnc : (c != c) = false := by simp
  have hmm : ((1 + 7 * (O.length : Int)) != (1 + 7 * (O.length : Int))) = false := by simp
  have C0 : Hid (ArT mc ip po di st un nx wa inn out fin sp dp sq ac fl wi da w ((w.alloc (.cells #[.string mc, .int .i64 ip, .int .i64 po, .int .i64 di, .int .i64 st, .int .i64 un, .int .i64 nx, .int .i64 wa, .string inn, .string out, .bool fin] 47)).alloc (.cells #[.int .i64 sp, .int .i64 dp, .int .i64 sq, .int .i64 ac, .int .i64 fl, .int .i64 wi, .string da] 48))) := ⟨⟨by simp [go_sem], by simp [go_sem], by simp [go_sem], by simp [go_sem], by simp [go_sem], by simp [go_sem], by simp [go_sem], by simp [go_sem], by simp [go_sem], by simp [go_sem], by simp [go_sem], ⟨(((Below.refl _ _).alloc (Nat.le_refl _) _).alloc (by simp) _)⟩⟩, ⟨by simp [go_sem], by simp [go_sem], by simp [go_sem], by simp [go_sem], by simp [go_sem], by simp [go_sem], by simp [go_sem], ⟨(((Below.refl _ _).alloc (Nat.le_refl _) _).alloc (by simp) _)⟩⟩⟩
  have NB : Hid (∀ W : World, Below w.heap.size w W → CnS W.heap.size vm vi vp vd vs vu vn va vI vO vF w (W.alloc (.cells #[.string vm, .int .i64 vi, .int .i64 vp, .int .i64 vd, .int .i64 vs, .int .i64 vu, .int .i64 vn, .int .i64 va, .string vI, .string vO, .bool vF] 24))) := fun W hW => ⟨by simp [go_sem], by simp [go_sem], by simp [go_sem], by simp [go_sem], by simp [go_sem], by simp [go_sem], by simp [go_sem], by simp [go_sem], by simp [go_sem], by simp [go_sem], by simp [go_sem], ⟨hW.alloc hW.size _⟩⟩
  clear hs hd hq ha hw wpo
  go_enter Try.func5, Try.ntmps5
  go_wp2_with fail
  refine (HZ.out _).mono ?_
  rintro e w0 ⟨r0, rfl, hr0, hr1, hr2, g0⟩
  have X0 : Hid (ArT mc ip po di st un nx wa inn out fin sp dp sq ac fl wi da w w0) := C0.out.below g0.below
  clear g0 C0
  by_cases hz0 : r0 < 0
  · go_wp2
    go_ret
    exact ⟨rfl, X0.out.c.2.2.2.2.2.2.2.2.2.2.2.out⟩
  have hszc := (hr0 (by omega)).2
  have CY := X0.out.g
  have p0 : w0.cell? ⟨w.heap.size + 1, 0, none⟩ = some (.int .i64 sp) := CY.1
  have p1 : w0.cell? ⟨w.heap.size + 1, 1, none⟩ = some (.int .i64 dp) := CY.2.1
  have p2 : w0.cell? ⟨w.heap.size + 1, 2, none⟩ = some (.int .i64 sq) := CY.2.2.1
  have p3 : w0.cell? ⟨w.heap.size + 1, 3, none⟩ = some (.int .i64 ac) := CY.2.2.2.1
  have p4 : w0.cell? ⟨w.heap.size + 1, 4, none⟩ = some (.int .i64 fl) := CY.2.2.2.2.1
  have p5 : w0.cell? ⟨w.heap.size + 1, 5, none⟩ = some (.int .i64 wi) := CY.2.2.2.2.2.1
  have p6 : w0.cell? ⟨w.heap.size + 1, 6, none⟩ = some (.string da) := CY.2.2.2.2.2.2.1
  clear CY hr0
  go_wp2_with fail
  refine (HZ2.out r0 _ (by omega) hr2).mono ?_
  rintro e w1 ⟨r, rfl, hr, hr3, hr4, g1⟩
  have X1 : Hid (ArT mc ip po di st un nx wa inn out fin sp dp sq ac fl wi da w w1) := X0.out.below g1.below
  clear g1 X0 p0 p1 p2 p3 p4 p5 p6
  by_cases hrz : r < 0
  · go_wp2
    go_ret
    exact ⟨rfl, X1.out.c.2.2.2.2.2.2.2.2.2.2.2.out⟩
  have hszg := (hr (by omega)).2
  have HS2 := HS.out (by omega) (by omega) (by omega) (by omega)
  have HI2 := HI.out (by omega) (by omega) (by omega) (by omega)
  replace HS : Hid _ := HS2
  replace HI : Hid _ := HI2
  clear HS2 HI2 hr hszc hszg HZ HZ2
  go_wp2_with fail
  refine Rel.wp_region_rel (w := w1) [Rel.valR 0 [] (.agg #[.string mc, .int .i64 ip, .int .i64 po, .int .i64 di, .int .i64 st, .int .i64 un, .int .i64 nx, .int .i64 wa, .string inn, .string out, .bool fin]), Rel.valR 1 [0] (.agg #[.string mc, .int .i64 ip, .int .i64 po, .int .i64 di, .int .i64 st, .int .i64 un, .int .i64 nx, .int .i64 wa, .string inn, .string out, .bool fin]), Rel.valR 2 [] (.agg #[.int .i64 sp, .int .i64 dp, .int .i64 sq, .int .i64 ac, .int .i64 fl, .int .i64 wi, .string da]), Rel.valR 3 [2] (.agg #[.int .i64 sp, .int .i64 dp, .int .i64 sq, .int .i64 ac, .int .i64 fl, .int .i64 wi, .string da]), Rel.retR 4 [1, 3] (fun v w => ∃ s, v = .tuple #[.agg #[.string vm, .int .i64 vi, .int .i64 vp, .int .i64 vd, .int .i64 vs, .int .i64 vu, .int .i64 vn, .int .i64 va, .string vI, .string vO, .bool vF], s, .int .i64 c] ∧ OwnS sgG 7 27 w w1.heap.size s O) (fun v b => ∃ s, v = .tuple #[.agg #[.string vm, .int .i64 vi, .int .i64 vp, .int .i64 vd, .int .i64 vs, .int .i64 vu, .int .i64 vn, .int .i64 va, .string vI, .string vO, .bool vF], s, .int .i64 c] ∧ s.ownBlock = some b), Rel.twoR 5 4 [4] (fun x y => x = y ∧ ∃ s, x = .tuple #[.agg #[.string vm, .int .i64 vi, .int .i64 vp, .int .i64 vd, .int .i64 vs, .int .i64 vu, .int .i64 vn, .int .i64 va, .string vI, .string vO, .bool vF], s, .int .i64 c]), Rel.valR 6 [5] (.agg #[.string vm, .int .i64 vi, .int .i64 vp, .int .i64 vd, .int .i64 vs, .int .i64 vu, .int .i64 vn, .int .i64 va, .string vI, .string vO, .bool vF]), Rel.twoR 7 5 [5] (fun x y => y = .tuple #[.agg #[.string vm, .int .i64 vi, .int .i64 vp, .int .i64 vd, .int .i64 vs, .int .i64 vu, .int .i64 vn, .int .i64 va, .string vI, .string vO, .bool vF], x, .int .i64 c]), Rel.valR 8 [5] (.int .i64 c), Rel.boxR 9 [] [.string ⟨#[]⟩, .int .i64 0, .int .i64 0, .int .i64 0, .int .i64 0, .int .i64 0, .int .i64 0, .int .i64 0, .string ⟨#[]⟩, .string ⟨#[]⟩, .bool false], Rel.putR 9 [6] [.string vm, .int .i64 vi, .int .i64 vp, .int .i64 vd, .int .i64 vs, .int .i64 vu, .int .i64 vn, .int .i64 va, .string vI, .string vO, .bool vF], Rel.eqR 11 7 [7], Rel.valR 12 [8] (.int .i64 c)] [] [0, 1, 2, 3, 4, 5, 6, 7, 8, 10, 11, 12] (fun b => b < w1.heap.size) (by kernel_rfl) (by kernel_rfl) (by kernel_rfl) ?_ (fun b h => h) (fun k r hk => by cases hk) (fun j k rj rk hj => by cases hj) ?_ ?_
  · exact List.forall_mem_cons.2 ⟨Rel.valR_ok _ _ _, List.forall_mem_cons.2 ⟨Rel.valR_ok _ _ _, List.forall_mem_cons.2 ⟨Rel.valR_ok _ _ _, List.forall_mem_cons.2 ⟨Rel.valR_ok _ _ _, List.forall_mem_cons.2 ⟨Rel.retR_ok _ _ _ _ (fun v w w' ⟨s, hs, ho⟩ hk => ⟨s, hs, Rel.own_loc ho (fun k hk' => hk.block k (.inr ⟨s, hs, hk'⟩))⟩), List.forall_mem_cons.2 ⟨Rel.twoR_ok _ _ _ _, List.forall_mem_cons.2 ⟨Rel.valR_ok _ _ _, List.forall_mem_cons.2 ⟨Rel.twoR_ok _ _ _ _, List.forall_mem_cons.2 ⟨Rel.valR_ok _ _ _, List.forall_mem_cons.2 ⟨Rel.boxR_ok _ _ _, List.forall_mem_cons.2 ⟨Rel.putR_ok _ _ _, List.forall_mem_cons.2 ⟨Rel.eqR_ok _ _ _, List.forall_mem_cons.2 ⟨Rel.valR_ok _ _ _, List.forall_mem_nil _⟩⟩⟩⟩⟩⟩⟩⟩⟩⟩⟩⟩⟩
  · refine (Rel.walk_cons ?s0 (Rel.walk_cons ?s1 (Rel.walk_cons ?s2 (Rel.walk_cons ?s3 (Rel.walk_cons ?s4 (Rel.walk_cons ?s5 (Rel.walk_cons ?s6 (Rel.walk_cons ?s7 (Rel.walk_cons ?s8 (Rel.walk_cons ?s9 (Rel.walk_cons ?s10 (Rel.walk_cons ?s11 (Rel.walk_cons ?s12 Rel.walk_nil)))))))))))))
    case s0 =>
      refine Rel.step_want ?_ ?_
      · rfl
      intro σ wx hK hF post hp
      have AX := (X1.out).below (Rel.keep_below hK)
      have q0 : wx.cell? ⟨w.heap.size, 0, none⟩ = some (.string mc) := AX.c.1
      have q1 : wx.cell? ⟨w.heap.size, 1, none⟩ = some (.int .i64 ip) := AX.c.2.1
      have q2 : wx.cell? ⟨w.heap.size, 2, none⟩ = some (.int .i64 po) := AX.c.2.2.1
      have q3 : wx.cell? ⟨w.heap.size, 3, none⟩ = some (.int .i64 di) := AX.c.2.2.2.1
      have q4 : wx.cell? ⟨w.heap.size, 4, none⟩ = some (.int .i64 st) := AX.c.2.2.2.2.1
      have q5 : wx.cell? ⟨w.heap.size, 5, none⟩ = some (.int .i64 un) := AX.c.2.2.2.2.2.1
      have q6 : wx.cell? ⟨w.heap.size, 6, none⟩ = some (.int .i64 nx) := AX.c.2.2.2.2.2.2.1
      have q7 : wx.cell? ⟨w.heap.size, 7, none⟩ = some (.int .i64 wa) := AX.c.2.2.2.2.2.2.2.1
      have q8 : wx.cell? ⟨w.heap.size, 8, none⟩ = some (.string inn) := AX.c.2.2.2.2.2.2.2.2.1
      have q9 : wx.cell? ⟨w.heap.size, 9, none⟩ = some (.string out) := AX.c.2.2.2.2.2.2.2.2.2.1
      have q10 : wx.cell? ⟨w.heap.size, 10, none⟩ = some (.bool fin) := AX.c.2.2.2.2.2.2.2.2.2.2.1
      clear AX
      go_simp
      refine Rel.yld_val ?_
      exact hp _ _ Rel.left_val
    case s1 =>
      refine Rel.step_want ?_ ?_
      · rfl
      intro σ wx hK hF post hp
      have f0 : σ 0 = .agg #[.string mc, .int .i64 ip, .int .i64 po, .int .i64 di, .int .i64 st, .int .i64 un, .int .i64 nx, .int .i64 wa, .string inn, .string out, .bool fin] := Rel.fact_of hF (j := 0) rfl rfl
      go_simp
      refine Rel.yld_call ?_
      refine (HT.out _).mono ?_
      rintro e w2 ⟨rfl, g2⟩
      exact ⟨_, rfl, hp _ _ (Rel.left_valB g2.below)⟩
    case s2 =>
      refine Rel.step_want ?_ ?_
      · rfl
      intro σ wx hK hF post hp
      have AX := (X1.out).below (Rel.keep_below hK)
      have q0 : wx.cell? ⟨w.heap.size + 1, 0, none⟩ = some (.int .i64 sp) := AX.g.1
      have q1 : wx.cell? ⟨w.heap.size + 1, 1, none⟩ = some (.int .i64 dp) := AX.g.2.1
      have q2 : wx.cell? ⟨w.heap.size + 1, 2, none⟩ = some (.int .i64 sq) := AX.g.2.2.1
      have q3 : wx.cell? ⟨w.heap.size + 1, 3, none⟩ = some (.int .i64 ac) := AX.g.2.2.2.1
      have q4 : wx.cell? ⟨w.heap.size + 1, 4, none⟩ = some (.int .i64 fl) := AX.g.2.2.2.2.1
      have q5 : wx.cell? ⟨w.heap.size + 1, 5, none⟩ = some (.int .i64 wi) := AX.g.2.2.2.2.2.1
      have q6 : wx.cell? ⟨w.heap.size + 1, 6, none⟩ = some (.string da) := AX.g.2.2.2.2.2.2.1
      clear AX
      go_simp
      refine Rel.yld_val ?_
      exact hp _ _ Rel.left_val
    case s3 =>
      refine Rel.step_want ?_ ?_
      · rfl
      intro σ wx hK hF post hp
      have f2 : σ 2 = .agg #[.int .i64 sp, .int .i64 dp, .int .i64 sq, .int .i64 ac, .int .i64 fl, .int .i64 wi, .string da] := Rel.fact_of hF (j := 2) rfl rfl
      go_simp
      refine Rel.yld_call ?_
      refine (HG.out _).mono ?_
      rintro e w2 ⟨rfl, g2⟩
      exact ⟨_, rfl, hp _ _ (Rel.left_valB g2.below)⟩
    case s4 =>
      refine Rel.step_want ?_ ?_
      · rfl
      intro σ wx hK hF post hp
      have f1 : σ 1 = .agg #[.string mc, .int .i64 ip, .int .i64 po, .int .i64 di, .int .i64 st, .int .i64 un, .int .i64 nx, .int .i64 wa, .string inn, .string out, .bool fin] := Rel.fact_of hF (j := 1) rfl rfl
      have f3 : σ 3 = .agg #[.int .i64 sp, .int .i64 dp, .int .i64 sq, .int .i64 ac, .int .i64 fl, .int .i64 wi, .string da] := Rel.fact_of hF (j := 3) rfl rfl
      go_simp
      refine Rel.yld_call ?_
      refine (HS.out _).mono ?_
      rintro e w2 ⟨v, rfl, o2, b2⟩
      refine ⟨_, rfl, hp _ _ (Rel.left_ret ⟨v, rfl, o2.lower (Rel.keep_below hK).size⟩ (fun b hb => ?_) b2)⟩
      obtain ⟨s, hs, hb⟩ := hb
      rw [← Rel.tup3 hs] at hb
      exact o2.lt b hb
    case s5 =>
      refine Rel.step_want ?_ ?_
      · rfl
      intro σ wx hK hF post hp
      have f4 : ∃ s, σ 4 = .tuple #[.agg #[.string vm, .int .i64 vi, .int .i64 vp, .int .i64 vd, .int .i64 vs, .int .i64 vu, .int .i64 vn, .int .i64 va, .string vI, .string vO, .bool vF], s, .int .i64 c] ∧ OwnS sgG 7 27 wx w1.heap.size s O := Rel.fact_of hF (j := 4) rfl rfl
      obtain ⟨s, hs, -⟩ := f4
      go_simp
      refine Rel.yld_val ?_
      refine hp _ _ (Rel.left_below ?_ (fun b h => h.elim) (Below.refl _ _))
      exact ⟨by simp [Rel.upd, hs], s, by simp [Rel.upd]⟩
    case s6 =>
      refine Rel.step_want ?_ ?_
      · rfl
      intro σ wx hK hF post hp
      have f5 : σ 5 = σ 4 ∧ ∃ s, σ 5 = .tuple #[.agg #[.string vm, .int .i64 vi, .int .i64 vp, .int .i64 vd, .int .i64 vs, .int .i64 vu, .int .i64 vn, .int .i64 va, .string vI, .string vO, .bool vF], s, .int .i64 c] := Rel.fact_of hF (j := 5) rfl rfl
      obtain ⟨-, s, hs⟩ := f5
      go_simp
      refine Rel.yld_val ?_
      exact hp _ _ Rel.left_val
    case s7 =>
      refine Rel.step_want ?_ ?_
      · rfl
      intro σ wx hK hF post hp
      have f5 : σ 5 = σ 4 ∧ ∃ s, σ 5 = .tuple #[.agg #[.string vm, .int .i64 vi, .int .i64 vp, .int .i64 vd, .int .i64 vs, .int .i64 vu, .int .i64 vn, .int .i64 va, .string vI, .string vO, .bool vF], s, .int .i64 c] := Rel.fact_of hF (j := 5) rfl rfl
      obtain ⟨-, s, hs⟩ := f5
      go_simp
      refine Rel.yld_val ?_
      refine hp _ _ (Rel.left_below ?_ (fun b h => h.elim) (Below.refl _ _))
      show Rel.upd _ _ _ 5 = _
      simp [Rel.upd, hs]
    case s8 =>
      refine Rel.step_want ?_ ?_
      · rfl
      intro σ wx hK hF post hp
      have f5 : σ 5 = σ 4 ∧ ∃ s, σ 5 = .tuple #[.agg #[.string vm, .int .i64 vi, .int .i64 vp, .int .i64 vd, .int .i64 vs, .int .i64 vu, .int .i64 vn, .int .i64 va, .string vI, .string vO, .bool vF], s, .int .i64 c] := Rel.fact_of hF (j := 5) rfl rfl
      obtain ⟨-, s, hs⟩ := f5
      go_simp
      refine Rel.yld_val ?_
      exact hp _ _ Rel.left_val
    case s9 =>
      refine Rel.step_want ?_ ?_
      · rfl
      intro σ wx hK hF post hp
      go_simp
      refine Rel.yld_val ?_
      exact hp _ _ (Rel.left_box #[.string ⟨#[]⟩, .int .i64 0, .int .i64 0, .int .i64 0, .int .i64 0, .int .i64 0, .int .i64 0, .int .i64 0, .string ⟨#[]⟩, .string ⟨#[]⟩, .bool false] _)
    case s10 =>
      refine Rel.step_want ?_ ?_
      · rfl
      intro σ wx hK hF post hp
      have f9 : Rel.boxF [.string ⟨#[]⟩, .int .i64 0, .int .i64 0, .int .i64 0, .int .i64 0, .int .i64 0, .int .i64 0, .int .i64 0, .string ⟨#[]⟩, .string ⟨#[]⟩, .bool false] (σ 9) wx := Rel.fact_of hF (j := 9) rfl rfl
      have f6 : σ 6 = .agg #[.string vm, .int .i64 vi, .int .i64 vp, .int .i64 vd, .int .i64 vs, .int .i64 vu, .int .i64 vn, .int .i64 va, .string vI, .string vO, .bool vF] := Rel.fact_of hF (j := 6) rfl rfl
      obtain ⟨q, hq, hb⟩ := f9
      refine Rel.yld_put 24 _ _ rfl (q := q) (cells := #[.string vm, .int .i64 vi, .int .i64 vp, .int .i64 vd, .int .i64 vs, .int .i64 vu, .int .i64 vn, .int .i64 va, .string vI, .string vO, .bool vF]) ?_ ?_ hb rfl (by rfl) rfl ?_
      · go_simp
      · go_simp
      exact hp _ _ (Rel.left_put (j := 9) rfl (by decide) hq hb rfl)
    case s11 =>
      refine Rel.step_want ?_ ?_
      · rfl
      intro σ wx hK hF post hp
      go_simp
      refine Rel.yld_val ?_
      exact hp _ _ (Rel.left_below (by show Rel.upd _ _ _ 11 = Rel.upd _ _ _ 7; simp [Rel.upd]) (fun b h => h.elim) (Below.refl _ _))
    case s12 =>
      refine Rel.step_want ?_ ?_
      · rfl
      intro σ wx hK hF post hp
      have f8 : σ 8 = .int .i64 c := Rel.fact_of hF (j := 8) rfl rfl
      go_simp
      refine Rel.yld_val ?_
      exact hp _ _ Rel.left_val
  · intro σ w3 hK hF hA
    have B3 : Below w1.heap.size w1 w3 := Rel.keep_below hK
    have f0 : σ 0 = .agg #[.string mc, .int .i64 ip, .int .i64 po, .int .i64 di, .int .i64 st, .int .i64 un, .int .i64 nx, .int .i64 wa, .string inn, .string out, .bool fin] := Rel.fact_of hF (j := 0) rfl rfl
    have f1 : σ 1 = .agg #[.string mc, .int .i64 ip, .int .i64 po, .int .i64 di, .int .i64 st, .int .i64 un, .int .i64 nx, .int .i64 wa, .string inn, .string out, .bool fin] := Rel.fact_of hF (j := 1) rfl rfl
    have f2 : σ 2 = .agg #[.int .i64 sp, .int .i64 dp, .int .i64 sq, .int .i64 ac, .int .i64 fl, .int .i64 wi, .string da] := Rel.fact_of hF (j := 2) rfl rfl
    have f3 : σ 3 = .agg #[.int .i64 sp, .int .i64 dp, .int .i64 sq, .int .i64 ac, .int .i64 fl, .int .i64 wi, .string da] := Rel.fact_of hF (j := 3) rfl rfl
    have f4 : ∃ s, σ 4 = .tuple #[.agg #[.string vm, .int .i64 vi, .int .i64 vp, .int .i64 vd, .int .i64 vs, .int .i64 vu, .int .i64 vn, .int .i64 va, .string vI, .string vO, .bool vF], s, .int .i64 c] ∧ OwnS sgG 7 27 w3 w1.heap.size s O := Rel.fact_of hF (j := 4) rfl rfl
    have f5 : σ 5 = σ 4 ∧ ∃ s, σ 5 = .tuple #[.agg #[.string vm, .int .i64 vi, .int .i64 vp, .int .i64 vd, .int .i64 vs, .int .i64 vu, .int .i64 vn, .int .i64 va, .string vI, .string vO, .bool vF], s, .int .i64 c] := Rel.fact_of hF (j := 5) rfl rfl
    have f6 : σ 6 = .agg #[.string vm, .int .i64 vi, .int .i64 vp, .int .i64 vd, .int .i64 vs, .int .i64 vu, .int .i64 vn, .int .i64 va, .string vI, .string vO, .bool vF] := Rel.fact_of hF (j := 6) rfl rfl
    have f7 : σ 5 = .tuple #[.agg #[.string vm, .int .i64 vi, .int .i64 vp, .int .i64 vd, .int .i64 vs, .int .i64 vu, .int .i64 vn, .int .i64 va, .string vI, .string vO, .bool vF], (σ 7), .int .i64 c] := Rel.fact_of hF (j := 7) rfl rfl
    have f8 : σ 8 = .int .i64 c := Rel.fact_of hF (j := 8) rfl rfl
    have f10 : Rel.boxF [.string vm, .int .i64 vi, .int .i64 vp, .int .i64 vd, .int .i64 vs, .int .i64 vu, .int .i64 vn, .int .i64 va, .string vI, .string vO, .bool vF] (σ 9) w3 := Rel.fact_of hF (j := 10) rfl rfl
    have f11 : σ 11 = σ 7 := Rel.fact_of hF (j := 11) rfl rfl
    have f12 : σ 12 = .int .i64 c := Rel.fact_of hF (j := 12) rfl rfl
    have i9 := Rel.owns_of hF (j := 10) rfl rfl
    clear hF hA hK
    obtain ⟨n3, f9, N3⟩ := f10
    have j3 : ¬ n3 < w1.heap.size := (i9 n3 f9).2
    have k3 : n3 < w3.heap.size := (i9 n3 f9).1
    clear i9
    obtain ⟨s, e4, o3⟩ := f4
    have e7 := Rel.tup3 (e4.symm.trans (f5.1.symm.trans f7))
    have f5b := f5.1
    clear f5
    rw [e4] at f5b
    clear f7
    generalize σ 7 = z at *
    subst e7
    obtain ⟨s3, c3, rfl, -⟩ := o3.slice
    simp only [Rel.putAll, Nat.zero_add, Nat.reduceAdd, f0, f1, f2, f3, e4, f5b, f6, f8, f9, f11, f12]
    clear f0 f1 f2 f3 e4 f5b f6 f8 f9 f11 f12
    have Y3 : Hid (ArT mc ip po di st un nx wa inn out fin sp dp sq ac fl wi da w w3) := (X1.out).below B3
    clear X1
    go_wp2_with fail
    refine Rel.wp_region_rel (w := w3) [Rel.valR 0 [] (.agg #[.string mc, .int .i64 ip, .int .i64 po, .int .i64 di, .int .i64 st, .int .i64 un, .int .i64 nx, .int .i64 wa, .string inn, .string out, .bool fin]), Rel.valR 1 [0] (.agg #[.string mc, .int .i64 ip, .int .i64 po, .int .i64 di, .int .i64 st, .int .i64 un, .int .i64 nx, .int .i64 wa, .string inn, .string out, .bool fin]), Rel.valR 2 [] (.agg #[.int .i64 sp, .int .i64 dp, .int .i64 sq, .int .i64 ac, .int .i64 fl, .int .i64 wi, .string da]), Rel.valR 3 [2] (.agg #[.int .i64 sp, .int .i64 dp, .int .i64 sq, .int .i64 ac, .int .i64 fl, .int .i64 wi, .string da]), Rel.retR 4 [1, 3] (fun v w => ∃ s, v = .tuple #[.agg #[.string vm, .int .i64 vi, .int .i64 vp, .int .i64 vd, .int .i64 vs, .int .i64 vu, .int .i64 vn, .int .i64 va, .string vI, .string vO, .bool vF], s, .int .i64 c] ∧ OwnS sgG 7 27 w w3.heap.size s O) (fun v b => ∃ s, v = .tuple #[.agg #[.string vm, .int .i64 vi, .int .i64 vp, .int .i64 vd, .int .i64 vs, .int .i64 vu, .int .i64 vn, .int .i64 va, .string vI, .string vO, .bool vF], s, .int .i64 c] ∧ s.ownBlock = some b), Rel.twoR 5 4 [4] (fun x y => x = y ∧ ∃ s, x = .tuple #[.agg #[.string vm, .int .i64 vi, .int .i64 vp, .int .i64 vd, .int .i64 vs, .int .i64 vu, .int .i64 vn, .int .i64 va, .string vI, .string vO, .bool vF], s, .int .i64 c]), Rel.valR 6 [5] (.agg #[.string vm, .int .i64 vi, .int .i64 vp, .int .i64 vd, .int .i64 vs, .int .i64 vu, .int .i64 vn, .int .i64 va, .string vI, .string vO, .bool vF]), Rel.twoR 7 5 [5] (fun x y => y = .tuple #[.agg #[.string vm, .int .i64 vi, .int .i64 vp, .int .i64 vd, .int .i64 vs, .int .i64 vu, .int .i64 vn, .int .i64 va, .string vI, .string vO, .bool vF], x, .int .i64 c]), Rel.valR 8 [5] (.int .i64 c), Rel.boxR 9 [] [.string ⟨#[]⟩, .int .i64 0, .int .i64 0, .int .i64 0, .int .i64 0, .int .i64 0, .int .i64 0, .int .i64 0, .string ⟨#[]⟩, .string ⟨#[]⟩, .bool false], Rel.putR 9 [6] [.string vm, .int .i64 vi, .int .i64 vp, .int .i64 vd, .int .i64 vs, .int .i64 vu, .int .i64 vn, .int .i64 va, .string vI, .string vO, .bool vF], Rel.eqR 11 7 [7], Rel.valR 12 [8] (.int .i64 c)] [] [0, 1, 2, 3, 4, 5, 6, 7, 8, 10, 11, 12] (fun b => b < w3.heap.size) (by kernel_rfl) (by kernel_rfl) (by kernel_rfl) ?_ (fun b h => h) (fun k r hk => by cases hk) (fun j k rj rk hj => by cases hj) ?_ ?_
    · exact List.forall_mem_cons.2 ⟨Rel.valR_ok _ _ _, List.forall_mem_cons.2 ⟨Rel.valR_ok _ _ _, List.forall_mem_cons.2 ⟨Rel.valR_ok _ _ _, List.forall_mem_cons.2 ⟨Rel.valR_ok _ _ _, List.forall_mem_cons.2 ⟨Rel.retR_ok _ _ _ _ (fun v w w' ⟨s, hs, ho⟩ hk => ⟨s, hs, Rel.own_loc ho (fun k hk' => hk.block k (.inr ⟨s, hs, hk'⟩))⟩), List.forall_mem_cons.2 ⟨Rel.twoR_ok _ _ _ _, List.forall_mem_cons.2 ⟨Rel.valR_ok _ _ _, List.forall_mem_cons.2 ⟨Rel.twoR_ok _ _ _ _, List.forall_mem_cons.2 ⟨Rel.valR_ok _ _ _, List.forall_mem_cons.2 ⟨Rel.boxR_ok _ _ _, List.forall_mem_cons.2 ⟨Rel.putR_ok _ _ _, List.forall_mem_cons.2 ⟨Rel.eqR_ok _ _ _, List.forall_mem_cons.2 ⟨Rel.valR_ok _ _ _, List.forall_mem_nil _⟩⟩⟩⟩⟩⟩⟩⟩⟩⟩⟩⟩⟩
    · refine (Rel.walk_cons ?s0 (Rel.walk_cons ?s1 (Rel.walk_cons ?s2 (Rel.walk_cons ?s3 (Rel.walk_cons ?s4 (Rel.walk_cons ?s5 (Rel.walk_cons ?s6 (Rel.walk_cons ?s7 (Rel.walk_cons ?s8 (Rel.walk_cons ?s9 (Rel.walk_cons ?s10 (Rel.walk_cons ?s11 (Rel.walk_cons ?s12 Rel.walk_nil)))))))))))))
      case s0 =>
        refine Rel.step_want ?_ ?_
        · rfl
        intro σ wx hK hF post hp
        have AX := (Y3.out).below (Rel.keep_below hK)
        have q0 : wx.cell? ⟨w.heap.size, 0, none⟩ = some (.string mc) := AX.c.1
        have q1 : wx.cell? ⟨w.heap.size, 1, none⟩ = some (.int .i64 ip) := AX.c.2.1
        have q2 : wx.cell? ⟨w.heap.size, 2, none⟩ = some (.int .i64 po) := AX.c.2.2.1
        have q3 : wx.cell? ⟨w.heap.size, 3, none⟩ = some (.int .i64 di) := AX.c.2.2.2.1
        have q4 : wx.cell? ⟨w.heap.size, 4, none⟩ = some (.int .i64 st) := AX.c.2.2.2.2.1
        have q5 : wx.cell? ⟨w.heap.size, 5, none⟩ = some (.int .i64 un) := AX.c.2.2.2.2.2.1
        have q6 : wx.cell? ⟨w.heap.size, 6, none⟩ = some (.int .i64 nx) := AX.c.2.2.2.2.2.2.1
        have q7 : wx.cell? ⟨w.heap.size, 7, none⟩ = some (.int .i64 wa) := AX.c.2.2.2.2.2.2.2.1
        have q8 : wx.cell? ⟨w.heap.size, 8, none⟩ = some (.string inn) := AX.c.2.2.2.2.2.2.2.2.1
        have q9 : wx.cell? ⟨w.heap.size, 9, none⟩ = some (.string out) := AX.c.2.2.2.2.2.2.2.2.2.1
        have q10 : wx.cell? ⟨w.heap.size, 10, none⟩ = some (.bool fin) := AX.c.2.2.2.2.2.2.2.2.2.2.1
        clear AX
        go_simp
        refine Rel.yld_val ?_
        exact hp _ _ Rel.left_val
      case s1 =>
        refine Rel.step_want ?_ ?_
        · rfl
        intro σ wx hK hF post hp
        have f0 : σ 0 = .agg #[.string mc, .int .i64 ip, .int .i64 po, .int .i64 di, .int .i64 st, .int .i64 un, .int .i64 nx, .int .i64 wa, .string inn, .string out, .bool fin] := Rel.fact_of hF (j := 0) rfl rfl
        go_simp
        refine Rel.yld_call ?_
        refine (HT.out _).mono ?_
        rintro e w2 ⟨rfl, g2⟩
        exact ⟨_, rfl, hp _ _ (Rel.left_valB g2.below)⟩
      case s2 =>
        refine Rel.step_want ?_ ?_
        · rfl
        intro σ wx hK hF post hp
        have AX := (Y3.out).below (Rel.keep_below hK)
        have q0 : wx.cell? ⟨w.heap.size + 1, 0, none⟩ = some (.int .i64 sp) := AX.g.1
        have q1 : wx.cell? ⟨w.heap.size + 1, 1, none⟩ = some (.int .i64 dp) := AX.g.2.1
        have q2 : wx.cell? ⟨w.heap.size + 1, 2, none⟩ = some (.int .i64 sq) := AX.g.2.2.1
        have q3 : wx.cell? ⟨w.heap.size + 1, 3, none⟩ = some (.int .i64 ac) := AX.g.2.2.2.1
        have q4 : wx.cell? ⟨w.heap.size + 1, 4, none⟩ = some (.int .i64 fl) := AX.g.2.2.2.2.1
        have q5 : wx.cell? ⟨w.heap.size + 1, 5, none⟩ = some (.int .i64 wi) := AX.g.2.2.2.2.2.1
        have q6 : wx.cell? ⟨w.heap.size + 1, 6, none⟩ = some (.string da) := AX.g.2.2.2.2.2.2.1
        clear AX
        go_simp
        refine Rel.yld_val ?_
        exact hp _ _ Rel.left_val
      case s3 =>
        refine Rel.step_want ?_ ?_
        · rfl
        intro σ wx hK hF post hp
        have f2 : σ 2 = .agg #[.int .i64 sp, .int .i64 dp, .int .i64 sq, .int .i64 ac, .int .i64 fl, .int .i64 wi, .string da] := Rel.fact_of hF (j := 2) rfl rfl
        go_simp
        refine Rel.yld_call ?_
        refine (HG.out _).mono ?_
        rintro e w2 ⟨rfl, g2⟩
        exact ⟨_, rfl, hp _ _ (Rel.left_valB g2.below)⟩
      case s4 =>
        refine Rel.step_want ?_ ?_
        · rfl
        intro σ wx hK hF post hp
        have f1 : σ 1 = .agg #[.string mc, .int .i64 ip, .int .i64 po, .int .i64 di, .int .i64 st, .int .i64 un, .int .i64 nx, .int .i64 wa, .string inn, .string out, .bool fin] := Rel.fact_of hF (j := 1) rfl rfl
        have f3 : σ 3 = .agg #[.int .i64 sp, .int .i64 dp, .int .i64 sq, .int .i64 ac, .int .i64 fl, .int .i64 wi, .string da] := Rel.fact_of hF (j := 3) rfl rfl
        go_simp
        refine Rel.yld_call ?_
        refine (HI.out _).mono ?_
        rintro e w2 ⟨v, rfl, o2, b2⟩
        refine ⟨_, rfl, hp _ _ (Rel.left_ret ⟨v, rfl, o2.lower (Rel.keep_below hK).size⟩ (fun b hb => ?_) b2)⟩
        obtain ⟨s, hs, hb⟩ := hb
        rw [← Rel.tup3 hs] at hb
        exact o2.lt b hb
      case s5 =>
        refine Rel.step_want ?_ ?_
        · rfl
        intro σ wx hK hF post hp
        have f4 : ∃ s, σ 4 = .tuple #[.agg #[.string vm, .int .i64 vi, .int .i64 vp, .int .i64 vd, .int .i64 vs, .int .i64 vu, .int .i64 vn, .int .i64 va, .string vI, .string vO, .bool vF], s, .int .i64 c] ∧ OwnS sgG 7 27 wx w3.heap.size s O := Rel.fact_of hF (j := 4) rfl rfl
        obtain ⟨s, hs, -⟩ := f4
        go_simp
        refine Rel.yld_val ?_
        refine hp _ _ (Rel.left_below ?_ (fun b h => h.elim) (Below.refl _ _))
        exact ⟨by simp [Rel.upd, hs], s, by simp [Rel.upd]⟩
      case s6 =>
        refine Rel.step_want ?_ ?_
        · rfl
        intro σ wx hK hF post hp
        have f5 : σ 5 = σ 4 ∧ ∃ s, σ 5 = .tuple #[.agg #[.string vm, .int .i64 vi, .int .i64 vp, .int .i64 vd, .int .i64 vs, .int .i64 vu, .int .i64 vn, .int .i64 va, .string vI, .string vO, .bool vF], s, .int .i64 c] := Rel.fact_of hF (j := 5) rfl rfl
        obtain ⟨-, s, hs⟩ := f5
        go_simp
        refine Rel.yld_val ?_
        exact hp _ _ Rel.left_val
      case s7 =>
        refine Rel.step_want ?_ ?_
        · rfl
        intro σ wx hK hF post hp
        have f5 : σ 5 = σ 4 ∧ ∃ s, σ 5 = .tuple #[.agg #[.string vm, .int .i64 vi, .int .i64 vp, .int .i64 vd, .int .i64 vs, .int .i64 vu, .int .i64 vn, .int .i64 va, .string vI, .string vO, .bool vF], s, .int .i64 c] := Rel.fact_of hF (j := 5) rfl rfl
        obtain ⟨-, s, hs⟩ := f5
        go_simp
        refine Rel.yld_val ?_
        refine hp _ _ (Rel.left_below ?_ (fun b h => h.elim) (Below.refl _ _))
        show Rel.upd _ _ _ 5 = _
        simp [Rel.upd, hs]
      case s8 =>
        refine Rel.step_want ?_ ?_
        · rfl
        intro σ wx hK hF post hp
        have f5 : σ 5 = σ 4 ∧ ∃ s, σ 5 = .tuple #[.agg #[.string vm, .int .i64 vi, .int .i64 vp, .int .i64 vd, .int .i64 vs, .int .i64 vu, .int .i64 vn, .int .i64 va, .string vI, .string vO, .bool vF], s, .int .i64 c] := Rel.fact_of hF (j := 5) rfl rfl
        obtain ⟨-, s, hs⟩ := f5
        go_simp
        refine Rel.yld_val ?_
        exact hp _ _ Rel.left_val
      case s9 =>
        refine Rel.step_want ?_ ?_
        · rfl
        intro σ wx hK hF post hp
        go_simp
        refine Rel.yld_val ?_
        exact hp _ _ (Rel.left_box #[.string ⟨#[]⟩, .int .i64 0, .int .i64 0, .int .i64 0, .int .i64 0, .int .i64 0, .int .i64 0, .int .i64 0, .string ⟨#[]⟩, .string ⟨#[]⟩, .bool false] _)
      case s10 =>
        refine Rel.step_want ?_ ?_
        · rfl
        intro σ wx hK hF post hp
        have f9 : Rel.boxF [.string ⟨#[]⟩, .int .i64 0, .int .i64 0, .int .i64 0, .int .i64 0, .int .i64 0, .int .i64 0, .int .i64 0, .string ⟨#[]⟩, .string ⟨#[]⟩, .bool false] (σ 9) wx := Rel.fact_of hF (j := 9) rfl rfl
        have f6 : σ 6 = .agg #[.string vm, .int .i64 vi, .int .i64 vp, .int .i64 vd, .int .i64 vs, .int .i64 vu, .int .i64 vn, .int .i64 va, .string vI, .string vO, .bool vF] := Rel.fact_of hF (j := 6) rfl rfl
        obtain ⟨q, hq, hb⟩ := f9
        refine Rel.yld_put 24 _ _ rfl (q := q) (cells := #[.string vm, .int .i64 vi, .int .i64 vp, .int .i64 vd, .int .i64 vs, .int .i64 vu, .int .i64 vn, .int .i64 va, .string vI, .string vO, .bool vF]) ?_ ?_ hb rfl (by rfl) rfl ?_
        · go_simp
        · go_simp
        exact hp _ _ (Rel.left_put (j := 9) rfl (by decide) hq hb rfl)
      case s11 =>
        refine Rel.step_want ?_ ?_
        · rfl
        intro σ wx hK hF post hp
        go_simp
        refine Rel.yld_val ?_
        exact hp _ _ (Rel.left_below (by show Rel.upd _ _ _ 11 = Rel.upd _ _ _ 7; simp [Rel.upd]) (fun b h => h.elim) (Below.refl _ _))
      case s12 =>
        refine Rel.step_want ?_ ?_
        · rfl
        intro σ wx hK hF post hp
        have f8 : σ 8 = .int .i64 c := Rel.fact_of hF (j := 8) rfl rfl
        go_simp
        refine Rel.yld_val ?_
        exact hp _ _ Rel.left_val
    · intro σ w5 hK hF hA
      have B5 : Below w3.heap.size w3 w5 := Rel.keep_below hK
      have f0 : σ 0 = .agg #[.string mc, .int .i64 ip, .int .i64 po, .int .i64 di, .int .i64 st, .int .i64 un, .int .i64 nx, .int .i64 wa, .string inn, .string out, .bool fin] := Rel.fact_of hF (j := 0) rfl rfl
      have f1 : σ 1 = .agg #[.string mc, .int .i64 ip, .int .i64 po, .int .i64 di, .int .i64 st, .int .i64 un, .int .i64 nx, .int .i64 wa, .string inn, .string out, .bool fin] := Rel.fact_of hF (j := 1) rfl rfl
      have f2 : σ 2 = .agg #[.int .i64 sp, .int .i64 dp, .int .i64 sq, .int .i64 ac, .int .i64 fl, .int .i64 wi, .string da] := Rel.fact_of hF (j := 2) rfl rfl
      have f3 : σ 3 = .agg #[.int .i64 sp, .int .i64 dp, .int .i64 sq, .int .i64 ac, .int .i64 fl, .int .i64 wi, .string da] := Rel.fact_of hF (j := 3) rfl rfl
      have f4 : ∃ s, σ 4 = .tuple #[.agg #[.string vm, .int .i64 vi, .int .i64 vp, .int .i64 vd, .int .i64 vs, .int .i64 vu, .int .i64 vn, .int .i64 va, .string vI, .string vO, .bool vF], s, .int .i64 c] ∧ OwnS sgG 7 27 w5 w3.heap.size s O := Rel.fact_of hF (j := 4) rfl rfl
      have f5 : σ 5 = σ 4 ∧ ∃ s, σ 5 = .tuple #[.agg #[.string vm, .int .i64 vi, .int .i64 vp, .int .i64 vd, .int .i64 vs, .int .i64 vu, .int .i64 vn, .int .i64 va, .string vI, .string vO, .bool vF], s, .int .i64 c] := Rel.fact_of hF (j := 5) rfl rfl
      have f6 : σ 6 = .agg #[.string vm, .int .i64 vi, .int .i64 vp, .int .i64 vd, .int .i64 vs, .int .i64 vu, .int .i64 vn, .int .i64 va, .string vI, .string vO, .bool vF] := Rel.fact_of hF (j := 6) rfl rfl
      have f7 : σ 5 = .tuple #[.agg #[.string vm, .int .i64 vi, .int .i64 vp, .int .i64 vd, .int .i64 vs, .int .i64 vu, .int .i64 vn, .int .i64 va, .string vI, .string vO, .bool vF], (σ 7), .int .i64 c] := Rel.fact_of hF (j := 7) rfl rfl
      have f8 : σ 8 = .int .i64 c := Rel.fact_of hF (j := 8) rfl rfl
      have f10 : Rel.boxF [.string vm, .int .i64 vi, .int .i64 vp, .int .i64 vd, .int .i64 vs, .int .i64 vu, .int .i64 vn, .int .i64 va, .string vI, .string vO, .bool vF] (σ 9) w5 := Rel.fact_of hF (j := 10) rfl rfl
      have f11 : σ 11 = σ 7 := Rel.fact_of hF (j := 11) rfl rfl
      have f12 : σ 12 = .int .i64 c := Rel.fact_of hF (j := 12) rfl rfl
      have i9 := Rel.owns_of hF (j := 10) rfl rfl
      clear hF hA hK
      obtain ⟨n5, f9, N5⟩ := f10
      have j5 : ¬ n5 < w3.heap.size := (i9 n5 f9).2
      have k5 : n5 < w5.heap.size := (i9 n5 f9).1
      clear i9
      obtain ⟨s, e4, o5⟩ := f4
      have e7 := Rel.tup3 (e4.symm.trans (f5.1.symm.trans f7))
      have f5b := f5.1
      clear f5
      rw [e4] at f5b
      clear f7
      generalize σ 7 = z at *
      subst e7
      obtain ⟨s5, c5, rfl, -⟩ := o5.slice
      simp only [Rel.putAll, Nat.zero_add, Nat.reduceAdd, f0, f1, f2, f3, e4, f5b, f6, f8, f9, f11, f12]
      clear f0 f1 f2 f3 e4 f5b f6 f8 f9 f11 f12
      have Y5 : Hid (ArT mc ip po di st un nx wa inn out fin sp dp sq ac fl wi da w w5) := (Y3.out).below B5
      have N3b := N3.below B5
      have O3b : Hid (OwnS sgG 7 27 w5 w1.heap.size (.slice s3 O.length c3) O) := o3.now B5
      have h35 : Hid (w3.heap.size ≤ w5.heap.size) := B5.size
      have Z3 : Hid (w.heap.size + 1 < w3.heap.size) := World.block_lt_of_cell? w3 ⟨w.heap.size + 1, 0, none⟩ Y3.out.g.1
      have L3 : Hid (∀ k, (Value.slice s3 O.length c3).ownBlock = some k → k < w3.heap.size) := fun k hk => (o3.lt k hk).2
      have K3 : Hid (n3 < w3.heap.size) := k3
      clear B5 Y3 N3 o3 j3 k3 j5 k5 h35
      have q0 : w5.cell? ⟨n5, 0, none⟩ = some (.string vm) := N5.cell 0 rfl
      have q1 : w5.cell? ⟨n5, 1, none⟩ = some (.int .i64 vi) := N5.cell 1 rfl
      have q2 : w5.cell? ⟨n5, 2, none⟩ = some (.int .i64 vp) := N5.cell 2 rfl
      have q3 : w5.cell? ⟨n5, 3, none⟩ = some (.int .i64 vd) := N5.cell 3 rfl
      have q4 : w5.cell? ⟨n5, 4, none⟩ = some (.int .i64 vs) := N5.cell 4 rfl
      have q5 : w5.cell? ⟨n5, 5, none⟩ = some (.int .i64 vu) := N5.cell 5 rfl
      have q6 : w5.cell? ⟨n5, 6, none⟩ = some (.int .i64 vn) := N5.cell 6 rfl
      have q7 : w5.cell? ⟨n5, 7, none⟩ = some (.int .i64 va) := N5.cell 7 rfl
      have q8 : w5.cell? ⟨n5, 8, none⟩ = some (.string vI) := N5.cell 8 rfl
      have q9 : w5.cell? ⟨n5, 9, none⟩ = some (.string vO) := N5.cell 9 rfl
      have q10 : w5.cell? ⟨n5, 10, none⟩ = some (.bool vF) := N5.cell 10 rfl
      have r0 : w5.cell? ⟨n3, 0, none⟩ = some (.string vm) := N3b.cell 0 rfl
      have r1 : w5.cell? ⟨n3, 1, none⟩ = some (.int .i64 vi) := N3b.cell 1 rfl
      have r2 : w5.cell? ⟨n3, 2, none⟩ = some (.int .i64 vp) := N3b.cell 2 rfl
      have r3 : w5.cell? ⟨n3, 3, none⟩ = some (.int .i64 vd) := N3b.cell 3 rfl
      have r4 : w5.cell? ⟨n3, 4, none⟩ = some (.int .i64 vs) := N3b.cell 4 rfl
      have r5 : w5.cell? ⟨n3, 5, none⟩ = some (.int .i64 vu) := N3b.cell 5 rfl
      have r6 : w5.cell? ⟨n3, 6, none⟩ = some (.int .i64 vn) := N3b.cell 6 rfl
      have r7 : w5.cell? ⟨n3, 7, none⟩ = some (.int .i64 va) := N3b.cell 7 rfl
      have r8 : w5.cell? ⟨n3, 8, none⟩ = some (.string vI) := N3b.cell 8 rfl
      have r9 : w5.cell? ⟨n3, 9, none⟩ = some (.string vO) := N3b.cell 9 rfl
      have r10 : w5.cell? ⟨n3, 10, none⟩ = some (.bool vF) := N3b.cell 10 rfl
      go_wp2_with fail
      refine (HQ.out _).mono ?_
      rintro e w6 ⟨rfl, g6⟩
      have Y6 : Hid (ArT mc ip po di st un nx wa inn out fin sp dp sq ac fl wi da w w6) := Y5.out.below g6.below
      have N6 := N3b.below g6.below
      have O6 : Hid (OwnS sgG 7 27 w6 w1.heap.size (.slice s3 O.length c3) O) := O3b.out.now g6.below
      have M6 : Hid (OwnS sgG 7 27 w6 w3.heap.size (.slice s5 O.length c5) O) := o5.now g6.below
      clear g6 o5 O3b Y5 N5 N3b q0 r0 q1 r1 q2 r2 q3 r3 q4 r4 q5 r5 q6 r6 q7 r7 q8 r8 q9 r9 q10 r10
      have oa := rwS M6.out OKO.out
      have ob := rwS O6.out OKO.out
      go_wp2_with fail
      refine (HE.out _ _ _ _ _ oa ob).mono ?_
      rintro e w7 ⟨rfl, g7⟩
      have Y7 : Hid (ArT mc ip po di st un nx wa inn out fin sp dp sq ac fl wi da w w7) := Y6.out.below g7.below
      have N7 := N6.below g7.below
      have O7 : Hid (OwnS sgG 7 27 w7 w1.heap.size (.slice s3 O.length c3) O) := O6.out.now g7.below
      have M7 : Hid (OwnS sgG 7 27 w7 w3.heap.size (.slice s5 O.length c5) O) := M6.out.now g7.below
      clear oa ob Y6 N6 O6 M6 g7
      go_wp2_with fail
      refine (markSegmentS_any _ _ _ _ _ _ M7.out hLb).mono ?_
      rintro e w8 ⟨rfl, o8, g8⟩
      have hB : Below w.heap.size w7 w8 := (Below.refl _ _).grown g8 Y7.out.c.2.2.2.2.2.2.2.2.2.2.2.out.size (fun k hk => by have := (M7.out.lt k hk).1; have := Z3.out; omega)
      have Y8 : Hid (ArT mc ip po di st un nx wa inn out fin sp dp sq ac fl wi da w w8) := Y7.out.row g8 hB (fun he => by have := (M7.out.lt _ he.symm).1; have := Z3.out; omega) (fun he => by have := (M7.out.lt _ he.symm).1; have := Z3.out; omega)
      have N8 : Bx w8 n3 [.string vm, .int .i64 vi, .int .i64 vp, .int .i64 vd, .int .i64 vs, .int .i64 vu, .int .i64 vn, .int .i64 va, .string vI, .string vO, .bool vF] := Rel.bx_loc N7 (g8.block n3 (World.block_lt_of_cell? w7 _ (N7.cell 0 rfl)) (fun he => by have := (M7.out.lt _ he.symm).1; have := K3.out; omega))
      have O8 : Hid (OwnS sgG 7 27 w8 w1.heap.size (.slice s3 O.length c3) O) := O7.out.kept g8 (by
        cases hb3 : (Value.slice s3 O.length c3).ownBlock with
        | none => exact Or.inl rfl
        | some k => exact Or.inr (fun he => by have h1 := L3.out k hb3; have h2 := (M7.out.lt k he.symm).1; omega))
      have M8 : Hid (OwnS sgG 7 27 w8 w3.heap.size (.slice s5 O.length c5) (mk7 O.length)) := o8
      clear o8 g8 hB Y7 N7 O7 M7
      go_wp2_with fail
      refine (heldSegmentS_any _ _ _ _ (rwS M8.out OKM.out) hLb).mono ?_
      rintro e w9 ⟨rfl, g9⟩
      have Y9 : Hid (ArT mc ip po di st un nx wa inn out fin sp dp sq ac fl wi da w w9) := Y8.out.below g9.below
      have N9 := N8.below g9.below
      have O9 : Hid (OwnS sgG 7 27 w9 w1.heap.size (.slice s3 O.length c3) O) := O8.out.now g9.below
      have M9 : Hid (OwnS sgG 7 27 w9 w3.heap.size (.slice s5 O.length c5) (mk7 O.length)) := M8.out.now g9.below
      clear Y8 N8 O8 M8 g9
      go_wp2_with fail
      refine Rel.wp_region_rel (w := w9) [Rel.valR 0 [] (.agg #[.string mc, .int .i64 ip, .int .i64 po, .int .i64 di, .int .i64 st, .int .i64 un, .int .i64 nx, .int .i64 wa, .string inn, .string out, .bool fin]), Rel.valR 1 [0] (.agg #[.string mc, .int .i64 ip, .int .i64 po, .int .i64 di, .int .i64 st, .int .i64 un, .int .i64 nx, .int .i64 wa, .string inn, .string out, .bool fin]), Rel.valR 2 [] (.agg #[.int .i64 sp, .int .i64 dp, .int .i64 sq, .int .i64 ac, .int .i64 fl, .int .i64 wi, .string da]), Rel.valR 3 [2] (.agg #[.int .i64 sp, .int .i64 dp, .int .i64 sq, .int .i64 ac, .int .i64 fl, .int .i64 wi, .string da]), Rel.retR 4 [1, 3] (fun v w => ∃ s, v = .tuple #[.agg #[.string vm, .int .i64 vi, .int .i64 vp, .int .i64 vd, .int .i64 vs, .int .i64 vu, .int .i64 vn, .int .i64 va, .string vI, .string vO, .bool vF], s, .int .i64 c] ∧ OwnS sgG 7 27 w w9.heap.size s O) (fun v b => ∃ s, v = .tuple #[.agg #[.string vm, .int .i64 vi, .int .i64 vp, .int .i64 vd, .int .i64 vs, .int .i64 vu, .int .i64 vn, .int .i64 va, .string vI, .string vO, .bool vF], s, .int .i64 c] ∧ s.ownBlock = some b), Rel.twoR 5 4 [4] (fun x y => x = y ∧ ∃ s, x = .tuple #[.agg #[.string vm, .int .i64 vi, .int .i64 vp, .int .i64 vd, .int .i64 vs, .int .i64 vu, .int .i64 vn, .int .i64 va, .string vI, .string vO, .bool vF], s, .int .i64 c]), Rel.valR 6 [5] (.agg #[.string vm, .int .i64 vi, .int .i64 vp, .int .i64 vd, .int .i64 vs, .int .i64 vu, .int .i64 vn, .int .i64 va, .string vI, .string vO, .bool vF]), Rel.twoR 7 5 [5] (fun x y => y = .tuple #[.agg #[.string vm, .int .i64 vi, .int .i64 vp, .int .i64 vd, .int .i64 vs, .int .i64 vu, .int .i64 vn, .int .i64 va, .string vI, .string vO, .bool vF], x, .int .i64 c]), Rel.valR 8 [5] (.int .i64 c), Rel.boxR 9 [] [.string ⟨#[]⟩, .int .i64 0, .int .i64 0, .int .i64 0, .int .i64 0, .int .i64 0, .int .i64 0, .int .i64 0, .string ⟨#[]⟩, .string ⟨#[]⟩, .bool false], Rel.putR 9 [6] [.string vm, .int .i64 vi, .int .i64 vp, .int .i64 vd, .int .i64 vs, .int .i64 vu, .int .i64 vn, .int .i64 va, .string vI, .string vO, .bool vF], Rel.eqR 11 7 [7], Rel.valR 12 [8] (.int .i64 c)] [] [0, 1, 2, 3, 4, 5, 6, 7, 8, 10, 11, 12] (fun b => b < w9.heap.size) (by kernel_rfl) (by kernel_rfl) (by kernel_rfl) ?_ (fun b h => h) (fun k r hk => by cases hk) (fun j k rj rk hj => by cases hj) ?_ ?_
      · exact List.forall_mem_cons.2 ⟨Rel.valR_ok _ _ _, List.forall_mem_cons.2 ⟨Rel.valR_ok _ _ _, List.forall_mem_cons.2 ⟨Rel.valR_ok _ _ _, List.forall_mem_cons.2 ⟨Rel.valR_ok _ _ _, List.forall_mem_cons.2 ⟨Rel.retR_ok _ _ _ _ (fun v w w' ⟨s, hs, ho⟩ hk => ⟨s, hs, Rel.own_loc ho (fun k hk' => hk.block k (.inr ⟨s, hs, hk'⟩))⟩), List.forall_mem_cons.2 ⟨Rel.twoR_ok _ _ _ _, List.forall_mem_cons.2 ⟨Rel.valR_ok _ _ _, List.forall_mem_cons.2 ⟨Rel.twoR_ok _ _ _ _, List.forall_mem_cons.2 ⟨Rel.valR_ok _ _ _, List.forall_mem_cons.2 ⟨Rel.boxR_ok _ _ _, List.forall_mem_cons.2 ⟨Rel.putR_ok _ _ _, List.forall_mem_cons.2 ⟨Rel.eqR_ok _ _ _, List.forall_mem_cons.2 ⟨Rel.valR_ok _ _ _, List.forall_mem_nil _⟩⟩⟩⟩⟩⟩⟩⟩⟩⟩⟩⟩⟩
      · refine (Rel.walk_cons ?s0 (Rel.walk_cons ?s1 (Rel.walk_cons ?s2 (Rel.walk_cons ?s3 (Rel.walk_cons ?s4 (Rel.walk_cons ?s5 (Rel.walk_cons ?s6 (Rel.walk_cons ?s7 (Rel.walk_cons ?s8 (Rel.walk_cons ?s9 (Rel.walk_cons ?s10 (Rel.walk_cons ?s11 (Rel.walk_cons ?s12 Rel.walk_nil)))))))))))))
        case s0 =>
          refine Rel.step_want ?_ ?_
          · rfl
          intro σ wx hK hF post hp
          have AX := (Y9.out).below (Rel.keep_below hK)
          have q0 : wx.cell? ⟨w.heap.size, 0, none⟩ = some (.string mc) := AX.c.1
          have q1 : wx.cell? ⟨w.heap.size, 1, none⟩ = some (.int .i64 ip) := AX.c.2.1
          have q2 : wx.cell? ⟨w.heap.size, 2, none⟩ = some (.int .i64 po) := AX.c.2.2.1
          have q3 : wx.cell? ⟨w.heap.size, 3, none⟩ = some (.int .i64 di) := AX.c.2.2.2.1
          have q4 : wx.cell? ⟨w.heap.size, 4, none⟩ = some (.int .i64 st) := AX.c.2.2.2.2.1
          have q5 : wx.cell? ⟨w.heap.size, 5, none⟩ = some (.int .i64 un) := AX.c.2.2.2.2.2.1
          have q6 : wx.cell? ⟨w.heap.size, 6, none⟩ = some (.int .i64 nx) := AX.c.2.2.2.2.2.2.1
          have q7 : wx.cell? ⟨w.heap.size, 7, none⟩ = some (.int .i64 wa) := AX.c.2.2.2.2.2.2.2.1
          have q8 : wx.cell? ⟨w.heap.size, 8, none⟩ = some (.string inn) := AX.c.2.2.2.2.2.2.2.2.1
          have q9 : wx.cell? ⟨w.heap.size, 9, none⟩ = some (.string out) := AX.c.2.2.2.2.2.2.2.2.2.1
          have q10 : wx.cell? ⟨w.heap.size, 10, none⟩ = some (.bool fin) := AX.c.2.2.2.2.2.2.2.2.2.2.1
          clear AX
          go_simp
          refine Rel.yld_val ?_
          exact hp _ _ Rel.left_val
        case s1 =>
          refine Rel.step_want ?_ ?_
          · rfl
          intro σ wx hK hF post hp
          have f0 : σ 0 = .agg #[.string mc, .int .i64 ip, .int .i64 po, .int .i64 di, .int .i64 st, .int .i64 un, .int .i64 nx, .int .i64 wa, .string inn, .string out, .bool fin] := Rel.fact_of hF (j := 0) rfl rfl
          go_simp
          refine Rel.yld_call ?_
          refine (HT.out _).mono ?_
          rintro e w2 ⟨rfl, g2⟩
          exact ⟨_, rfl, hp _ _ (Rel.left_valB g2.below)⟩
        case s2 =>
          refine Rel.step_want ?_ ?_
          · rfl
          intro σ wx hK hF post hp
          have AX := (Y9.out).below (Rel.keep_below hK)
          have q0 : wx.cell? ⟨w.heap.size + 1, 0, none⟩ = some (.int .i64 sp) := AX.g.1
          have q1 : wx.cell? ⟨w.heap.size + 1, 1, none⟩ = some (.int .i64 dp) := AX.g.2.1
          have q2 : wx.cell? ⟨w.heap.size + 1, 2, none⟩ = some (.int .i64 sq) := AX.g.2.2.1
          have q3 : wx.cell? ⟨w.heap.size + 1, 3, none⟩ = some (.int .i64 ac) := AX.g.2.2.2.1
          have q4 : wx.cell? ⟨w.heap.size + 1, 4, none⟩ = some (.int .i64 fl) := AX.g.2.2.2.2.1
          have q5 : wx.cell? ⟨w.heap.size + 1, 5, none⟩ = some (.int .i64 wi) := AX.g.2.2.2.2.2.1
          have q6 : wx.cell? ⟨w.heap.size + 1, 6, none⟩ = some (.string da) := AX.g.2.2.2.2.2.2.1
          clear AX
          go_simp
          refine Rel.yld_val ?_
          exact hp _ _ Rel.left_val
        case s3 =>
          refine Rel.step_want ?_ ?_
          · rfl
          intro σ wx hK hF post hp
          have f2 : σ 2 = .agg #[.int .i64 sp, .int .i64 dp, .int .i64 sq, .int .i64 ac, .int .i64 fl, .int .i64 wi, .string da] := Rel.fact_of hF (j := 2) rfl rfl
          go_simp
          refine Rel.yld_call ?_
          refine (HG.out _).mono ?_
          rintro e w2 ⟨rfl, g2⟩
          exact ⟨_, rfl, hp _ _ (Rel.left_valB g2.below)⟩
        case s4 =>
          refine Rel.step_want ?_ ?_
          · rfl
          intro σ wx hK hF post hp
          have f1 : σ 1 = .agg #[.string mc, .int .i64 ip, .int .i64 po, .int .i64 di, .int .i64 st, .int .i64 un, .int .i64 nx, .int .i64 wa, .string inn, .string out, .bool fin] := Rel.fact_of hF (j := 1) rfl rfl
          have f3 : σ 3 = .agg #[.int .i64 sp, .int .i64 dp, .int .i64 sq, .int .i64 ac, .int .i64 fl, .int .i64 wi, .string da] := Rel.fact_of hF (j := 3) rfl rfl
          go_simp
          refine Rel.yld_call ?_
          refine (HI.out _).mono ?_
          rintro e w2 ⟨v, rfl, o2, b2⟩
          refine ⟨_, rfl, hp _ _ (Rel.left_ret ⟨v, rfl, o2.lower (Rel.keep_below hK).size⟩ (fun b hb => ?_) b2)⟩
          obtain ⟨s, hs, hb⟩ := hb
          rw [← Rel.tup3 hs] at hb
          exact o2.lt b hb
        case s5 =>
          refine Rel.step_want ?_ ?_
          · rfl
          intro σ wx hK hF post hp
          have f4 : ∃ s, σ 4 = .tuple #[.agg #[.string vm, .int .i64 vi, .int .i64 vp, .int .i64 vd, .int .i64 vs, .int .i64 vu, .int .i64 vn, .int .i64 va, .string vI, .string vO, .bool vF], s, .int .i64 c] ∧ OwnS sgG 7 27 wx w9.heap.size s O := Rel.fact_of hF (j := 4) rfl rfl
          obtain ⟨s, hs, -⟩ := f4
          go_simp
          refine Rel.yld_val ?_
          refine hp _ _ (Rel.left_below ?_ (fun b h => h.elim) (Below.refl _ _))
          exact ⟨by simp [Rel.upd, hs], s, by simp [Rel.upd]⟩
        case s6 =>
          refine Rel.step_want ?_ ?_
          · rfl
          intro σ wx hK hF post hp
          have f5 : σ 5 = σ 4 ∧ ∃ s, σ 5 = .tuple #[.agg #[.string vm, .int .i64 vi, .int .i64 vp, .int .i64 vd, .int .i64 vs, .int .i64 vu, .int .i64 vn, .int .i64 va, .string vI, .string vO, .bool vF], s, .int .i64 c] := Rel.fact_of hF (j := 5) rfl rfl
          obtain ⟨-, s, hs⟩ := f5
          go_simp
          refine Rel.yld_val ?_
          exact hp _ _ Rel.left_val
        case s7 =>
          refine Rel.step_want ?_ ?_
          · rfl
          intro σ wx hK hF post hp
          have f5 : σ 5 = σ 4 ∧ ∃ s, σ 5 = .tuple #[.agg #[.string vm, .int .i64 vi, .int .i64 vp, .int .i64 vd, .int .i64 vs, .int .i64 vu, .int .i64 vn, .int .i64 va, .string vI, .string vO, .bool vF], s, .int .i64 c] := Rel.fact_of hF (j := 5) rfl rfl
          obtain ⟨-, s, hs⟩ := f5
          go_simp
          refine Rel.yld_val ?_
          refine hp _ _ (Rel.left_below ?_ (fun b h => h.elim) (Below.refl _ _))
          show Rel.upd _ _ _ 5 = _
          simp [Rel.upd, hs]
        case s8 =>
          refine Rel.step_want ?_ ?_
          · rfl
          intro σ wx hK hF post hp
          have f5 : σ 5 = σ 4 ∧ ∃ s, σ 5 = .tuple #[.agg #[.string vm, .int .i64 vi, .int .i64 vp, .int .i64 vd, .int .i64 vs, .int .i64 vu, .int .i64 vn, .int .i64 va, .string vI, .string vO, .bool vF], s, .int .i64 c] := Rel.fact_of hF (j := 5) rfl rfl
          obtain ⟨-, s, hs⟩ := f5
          go_simp
          refine Rel.yld_val ?_
          exact hp _ _ Rel.left_val
        case s9 =>
          refine Rel.step_want ?_ ?_
          · rfl
          intro σ wx hK hF post hp
          go_simp
          refine Rel.yld_val ?_
          exact hp _ _ (Rel.left_box #[.string ⟨#[]⟩, .int .i64 0, .int .i64 0, .int .i64 0, .int .i64 0, .int .i64 0, .int .i64 0, .int .i64 0, .string ⟨#[]⟩, .string ⟨#[]⟩, .bool false] _)
        case s10 =>
          refine Rel.step_want ?_ ?_
          · rfl
          intro σ wx hK hF post hp
          have f9 : Rel.boxF [.string ⟨#[]⟩, .int .i64 0, .int .i64 0, .int .i64 0, .int .i64 0, .int .i64 0, .int .i64 0, .int .i64 0, .string ⟨#[]⟩, .string ⟨#[]⟩, .bool false] (σ 9) wx := Rel.fact_of hF (j := 9) rfl rfl
          have f6 : σ 6 = .agg #[.string vm, .int .i64 vi, .int .i64 vp, .int .i64 vd, .int .i64 vs, .int .i64 vu, .int .i64 vn, .int .i64 va, .string vI, .string vO, .bool vF] := Rel.fact_of hF (j := 6) rfl rfl
          obtain ⟨q, hq, hb⟩ := f9
          refine Rel.yld_put 24 _ _ rfl (q := q) (cells := #[.string vm, .int .i64 vi, .int .i64 vp, .int .i64 vd, .int .i64 vs, .int .i64 vu, .int .i64 vn, .int .i64 va, .string vI, .string vO, .bool vF]) ?_ ?_ hb rfl (by rfl) rfl ?_
          · go_simp
          · go_simp
          exact hp _ _ (Rel.left_put (j := 9) rfl (by decide) hq hb rfl)
        case s11 =>
          refine Rel.step_want ?_ ?_
          · rfl
          intro σ wx hK hF post hp
          go_simp
          refine Rel.yld_val ?_
          exact hp _ _ (Rel.left_below (by show Rel.upd _ _ _ 11 = Rel.upd _ _ _ 7; simp [Rel.upd]) (fun b h => h.elim) (Below.refl _ _))
        case s12 =>
          refine Rel.step_want ?_ ?_
          · rfl
          intro σ wx hK hF post hp
          have f8 : σ 8 = .int .i64 c := Rel.fact_of hF (j := 8) rfl rfl
          go_simp
          refine Rel.yld_val ?_
          exact hp _ _ Rel.left_val
      · intro σ w11 hK hF hA
        have B11 : Below w9.heap.size w9 w11 := Rel.keep_below hK
        have f0 : σ 0 = .agg #[.string mc, .int .i64 ip, .int .i64 po, .int .i64 di, .int .i64 st, .int .i64 un, .int .i64 nx, .int .i64 wa, .string inn, .string out, .bool fin] := Rel.fact_of hF (j := 0) rfl rfl
        have f1 : σ 1 = .agg #[.string mc, .int .i64 ip, .int .i64 po, .int .i64 di, .int .i64 st, .int .i64 un, .int .i64 nx, .int .i64 wa, .string inn, .string out, .bool fin] := Rel.fact_of hF (j := 1) rfl rfl
        have f2 : σ 2 = .agg #[.int .i64 sp, .int .i64 dp, .int .i64 sq, .int .i64 ac, .int .i64 fl, .int .i64 wi, .string da] := Rel.fact_of hF (j := 2) rfl rfl
        have f3 : σ 3 = .agg #[.int .i64 sp, .int .i64 dp, .int .i64 sq, .int .i64 ac, .int .i64 fl, .int .i64 wi, .string da] := Rel.fact_of hF (j := 3) rfl rfl
        have f4 : ∃ s, σ 4 = .tuple #[.agg #[.string vm, .int .i64 vi, .int .i64 vp, .int .i64 vd, .int .i64 vs, .int .i64 vu, .int .i64 vn, .int .i64 va, .string vI, .string vO, .bool vF], s, .int .i64 c] ∧ OwnS sgG 7 27 w11 w9.heap.size s O := Rel.fact_of hF (j := 4) rfl rfl
        have f5 : σ 5 = σ 4 ∧ ∃ s, σ 5 = .tuple #[.agg #[.string vm, .int .i64 vi, .int .i64 vp, .int .i64 vd, .int .i64 vs, .int .i64 vu, .int .i64 vn, .int .i64 va, .string vI, .string vO, .bool vF], s, .int .i64 c] := Rel.fact_of hF (j := 5) rfl rfl
        have f6 : σ 6 = .agg #[.string vm, .int .i64 vi, .int .i64 vp, .int .i64 vd, .int .i64 vs, .int .i64 vu, .int .i64 vn, .int .i64 va, .string vI, .string vO, .bool vF] := Rel.fact_of hF (j := 6) rfl rfl
        have f7 : σ 5 = .tuple #[.agg #[.string vm, .int .i64 vi, .int .i64 vp, .int .i64 vd, .int .i64 vs, .int .i64 vu, .int .i64 vn, .int .i64 va, .string vI, .string vO, .bool vF], (σ 7), .int .i64 c] := Rel.fact_of hF (j := 7) rfl rfl
        have f8 : σ 8 = .int .i64 c := Rel.fact_of hF (j := 8) rfl rfl
        have f10 : Rel.boxF [.string vm, .int .i64 vi, .int .i64 vp, .int .i64 vd, .int .i64 vs, .int .i64 vu, .int .i64 vn, .int .i64 va, .string vI, .string vO, .bool vF] (σ 9) w11 := Rel.fact_of hF (j := 10) rfl rfl
        have f11 : σ 11 = σ 7 := Rel.fact_of hF (j := 11) rfl rfl
        have f12 : σ 12 = .int .i64 c := Rel.fact_of hF (j := 12) rfl rfl
        have i9 := Rel.owns_of hF (j := 10) rfl rfl
        clear hF hA hK
        obtain ⟨n11, f9, N11⟩ := f10
        have j11 : ¬ n11 < w9.heap.size := (i9 n11 f9).2
        have k11 : n11 < w11.heap.size := (i9 n11 f9).1
        clear i9
        obtain ⟨s, e4, o11⟩ := f4
        have e7 := Rel.tup3 (e4.symm.trans (f5.1.symm.trans f7))
        have f5b := f5.1
        clear f5
        rw [e4] at f5b
        clear f7
        generalize σ 7 = z at *
        subst e7
        obtain ⟨s11, c11, rfl, -⟩ := o11.slice
        simp only [Rel.putAll, Nat.zero_add, Nat.reduceAdd, f0, f1, f2, f3, e4, f5b, f6, f8, f9, f11, f12]
        clear f0 f1 f2 f3 e4 f5b f6 f8 f9 f11 f12
        have Y11 : Hid (ArT mc ip po di st un nx wa inn out fin sp dp sq ac fl wi da w w11) := (Y9.out).below B11
        have N3c := N9.below B11
        have O3c : Hid (OwnS sgG 7 27 w11 w1.heap.size (.slice s3 O.length c3) O) := O9.out.now B11
        have M11 : Hid (OwnS sgG 7 27 w11 w3.heap.size (.slice s5 O.length c5) (mk7 O.length)) := M9.out.now B11
        clear B11 Y9 N9 O9 M9 j11 k11
        have q0 : w11.cell? ⟨n11, 0, none⟩ = some (.string vm) := N11.cell 0 rfl
        have q1 : w11.cell? ⟨n11, 1, none⟩ = some (.int .i64 vi) := N11.cell 1 rfl
        have q2 : w11.cell? ⟨n11, 2, none⟩ = some (.int .i64 vp) := N11.cell 2 rfl
        have q3 : w11.cell? ⟨n11, 3, none⟩ = some (.int .i64 vd) := N11.cell 3 rfl
        have q4 : w11.cell? ⟨n11, 4, none⟩ = some (.int .i64 vs) := N11.cell 4 rfl
        have q5 : w11.cell? ⟨n11, 5, none⟩ = some (.int .i64 vu) := N11.cell 5 rfl
        have q6 : w11.cell? ⟨n11, 6, none⟩ = some (.int .i64 vn) := N11.cell 6 rfl
        have q7 : w11.cell? ⟨n11, 7, none⟩ = some (.int .i64 va) := N11.cell 7 rfl
        have q8 : w11.cell? ⟨n11, 8, none⟩ = some (.string vI) := N11.cell 8 rfl
        have q9 : w11.cell? ⟨n11, 9, none⟩ = some (.string vO) := N11.cell 9 rfl
        have q10 : w11.cell? ⟨n11, 10, none⟩ = some (.bool vF) := N11.cell 10 rfl
        have r0 : w11.cell? ⟨n3, 0, none⟩ = some (.string vm) := N3c.cell 0 rfl
        have r1 : w11.cell? ⟨n3, 1, none⟩ = some (.int .i64 vi) := N3c.cell 1 rfl
        have r2 : w11.cell? ⟨n3, 2, none⟩ = some (.int .i64 vp) := N3c.cell 2 rfl
        have r3 : w11.cell? ⟨n3, 3, none⟩ = some (.int .i64 vd) := N3c.cell 3 rfl
        have r4 : w11.cell? ⟨n3, 4, none⟩ = some (.int .i64 vs) := N3c.cell 4 rfl
        have r5 : w11.cell? ⟨n3, 5, none⟩ = some (.int .i64 vu) := N3c.cell 5 rfl
        have r6 : w11.cell? ⟨n3, 6, none⟩ = some (.int .i64 vn) := N3c.cell 6 rfl
        have r7 : w11.cell? ⟨n3, 7, none⟩ = some (.int .i64 va) := N3c.cell 7 rfl
        have r8 : w11.cell? ⟨n3, 8, none⟩ = some (.string vI) := N3c.cell 8 rfl
        have r9 : w11.cell? ⟨n3, 9, none⟩ = some (.string vO) := N3c.cell 9 rfl
        have r10 : w11.cell? ⟨n3, 10, none⟩ = some (.bool vF) := N3c.cell 10 rfl
        go_wp2_with fail
        refine (HQ.out _).mono ?_
        rintro e w12 ⟨rfl, g12⟩
        have Y12 : Hid (ArT mc ip po di st un nx wa inn out fin sp dp sq ac fl wi da w w12) := Y11.out.below g12.below
        have o12 := o11.now g12.below
        have O12 := O3c.out.now g12.below
        have M12 : Hid (OwnS sgG 7 27 w12 w3.heap.size (.slice s5 O.length c5) (mk7 O.length)) := M11.out.now g12.below
        clear g12 o11 O3c M11 Y11 N11 N3c q0 r0 q1 r1 q2 r2 q3 r3 q4 r4 q5 r5 q6 r6 q7 r7 q8 r8 q9 r9 q10 r10
        have oa := rwS o12 OKO.out
        have ob := rwS O12 OKO.out
        clear o12 O12
        go_wp2_with fail
        refine (HE.out _ _ _ _ _ oa ob).mono ?_
        rintro e w13 ⟨rfl, g13⟩
        have Y13 : Hid (ArT mc ip po di st un nx wa inn out fin sp dp sq ac fl wi da w w13) := Y12.out.below g13.below
        have M13 := M12.out.now g13.below
        clear oa ob Y12 M12 g13
        go_wp2_with fail
        refine (heldSegmentS_any _ _ _ _ (rwS M13 OKM.out) hLb).mono ?_
        rintro e w14 ⟨rfl, g14⟩
        have X14 : Hid (Below w.heap.size w w14) := Y13.out.c.2.2.2.2.2.2.2.2.2.2.2.out.trans (g14.below.mono Y13.out.c.2.2.2.2.2.2.2.2.2.2.2.out.size)
        clear g14 M13 Y13
        go_wp2
        go_ret
        exact ⟨rfl, X14.out⟩
end Go.Proofs.Ytfgghffgfefgpaa
