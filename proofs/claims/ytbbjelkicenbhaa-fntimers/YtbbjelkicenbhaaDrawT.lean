/- Drawn timers: few, right, their Ids below nine. -/
import Derived.Test.YtbbjelkicenbhaaTimL
import Derived.Test.YtbbjelkicenbhaaTimPs
import Derived.Test.YtbbjelkicenbhaaDraws
namespace Go.Proofs.Ytbbjelkicenbhaa
open Go.RowKit Go.PlainAid Go.Sort
set_option linter.unusedVariables false
set_option maxRecDepth 20000

/-- Few right timers, their Ids below nine. -/
def Few (n : Nat) (zs : List (Int × Int)) : Prop := Gd zs ∧ zs.length ≤ n ∧ ∀ x ∈ zs, x.2 < 9
theorem Few.put {n : Nat} {zs : List (Int × Int)} {t0 t1 : Int} (h : Few n zs) (hn : n ≤ 8) (h0 : 0 ≤ t0) (h1 : t0 < 9) (h2 : 0 ≤ t1) (h3 : t1 < 6) : Few (n + 1) (tpL zs (t0, t1)) := by
  have hk : okT (t0, t1) := ⟨h0, by show t0 ≤ 1000000; omega, h2, by show t1 ≤ 1000000; omega⟩
  have hl := h.2.1
  have hw := wo_len zs t1 zs.length
  have e : tpL zs (t0, t1) = sortedT (wo zs t1 zs.length ++ [(t0, t1)]) := by
    unfold tpL
    rw [if_neg (by omega), if_neg (by rw [h.1.tm (by omega)]; simp), if_neg (by rw [dec_y hk]; simp), if_neg (by show ¬ (wo zs t1 zs.length).length = 20; omega)]
  rw [e]
  refine ⟨(h.1.wo t1).put hk (fun x hx => (wo_ids x hx).1), ?_, fun x hx => ?_⟩
  · rw [sortedT_len, List.length_append]; simp; omega
  · have := (sortedT_perm _).mem_iff.1 hx
    rw [List.mem_append, List.mem_singleton] at this
    rcases this with h' | rfl
    · exact h.2.2 x (wo_ids x h').2
    · show t1 < 9; omega

set_option maxHeartbeats 2000000 in
theorem timersD (w : World) (q : Nat) (a : Option Addr) (len cap : Nat) (f : Nat → Int) (m : Nat) (h : Src w q a len cap f m) (hm : m ≤ 900000000) (hq : q < w.heap.size) :
    Calls Try.prog 45 #[.pointer (some ⟨q, 0, none⟩)] w fun e w' => ∃ v zs, e = .returned v ∧ OwnP 44 w' w.heap.size v zs ∧ Few 8 zs ∧ w.grownBy w' (some q) := by
  have H : Hid (Src w q a len cap f m) := h
  clear h
  go_enter Try.func45, Try.ntmps45
  go_wp2_with fail
  refine (next_any _ q a len cap f m 8 (H.out.grown (World.grownBy_alloc w _ none) (by simp) (by simp)) (by omega) (by omega) (by omega)).mono ?_
  rintro e w1 ⟨v, m1, rfl, v0, v1, hm1, s1, o1⟩
  have L0 : OwnP 44 (w.alloc (.cells #[] 44)) w.heap.size (.slice (some ⟨w.heap.size, 0, none⟩) 0 0) [] := own_lit w _ (Nat.le_refl _)
  have L1 : OwnP 44 w1 w.heap.size (.slice (some ⟨w.heap.size, 0, none⟩) 0 0) [] := World.ownsRow.kept L0 o1.grownBy (Or.inr (by show some w.heap.size ≠ some q; intro e; cases e; omega))
  have G1 : w.grownBy w1 (some q) := grown_trans (World.grownBy_alloc w _ (some q)) o1.grownBy
  have X0 : Hid (OwnP 44 w1 w.heap.size (.slice (some ⟨w.heap.size, 0, none⟩) 0 0) [] ∧ Few 0 [] ∧ Src w1 q a len cap f m1 ∧ w.grownBy w1 (some q)) := ⟨L1, ⟨⟨by simp, by simp, by simp⟩, Nat.le_refl _, by simp⟩, s1, G1⟩
  clear L0 L1 G1 s1 o1 H
  go_wp2
  go_loopw [3, 4] (fun o i wr => ∃ (k n m' : Nat) (zs : List (Int × Int)), i = .int .i64 k ∧ n + k ≤ 7 ∧ m' + 6 * k ≤ m + 50 ∧ Hid (OwnP 44 wr w.heap.size o zs ∧ Few n zs ∧ Src wr q a len cap f m' ∧ w.grownBy wr (some q))) (fun _ i _ => (intOf i).toNat)
  case atStart => exact ⟨v.toNat, 0, m1, [], by simp; omega, by omega, by omega, X0⟩
  case round =>
    obtain ⟨k, n, m', zs, rfl, hnk, hmk, X⟩ := hrel
    by_cases hlt : 0 < k
    · obtain ⟨a', cap', e0, pr, -⟩ := X.out.1.slice
      subst e0
      have PR : Hid (Prs wr a' zs) := pr
      clear pr
      have hltz : (0 : Int) < (k : Int) := by omega
      go_wp2_with fail
      refine (next_any _ q a len cap f m' 9 X.out.2.2.1 (by omega) (by omega) (by omega)).mono ?_
      rintro e w2 ⟨y0, m2, rfl, y1, y2, hm2, s2, o2⟩
      have S2 : Hid (Src w2 q a len cap f m2 ∧ Only q wr w2) := ⟨s2, o2⟩
      clear s2 o2
      go_wp2_with fail
      refine (next_any _ q a len cap f m2 6 S2.out.1 (by omega) (by omega) (by omega)).mono ?_
      rintro e w3 ⟨z0, m3, rfl, z1, z2, hm3, s3, o3⟩
      have S3 : Hid (Src w3 q a len cap f m3 ∧ Only q wr w3) := ⟨s3, S2.out.2.trans o3⟩
      clear s3 o3
      have o3 : OwnP 44 w3 w.heap.size (.slice a' zs.length cap') zs := World.ownsRow.kept X.out.1 S3.out.2.grownBy (Or.inr (fun e => by have := (World.ownsRow.lt X.out.1 q e).1; omega))
      obtain ⟨a2, cap2, e1, pr3, -⟩ := o3.slice
      cases e1
      have PR3 : Hid (Prs w3 a' zs) := pr3
      clear o3 pr3
      have hzl : zs.length ≤ 1048576 := by have := X.out.2.1.2.1; omega
      go_wp2_with fail
      refine (specPut_any a' zs.length cap' zs y0 z0 w3 PR3.out rfl hzl).mono ?_
      rintro e w4 ⟨v4, rfl, o4, b4⟩
      have Y : Hid (OwnP 44 w4 w.heap.size v4 (tpL zs (y0, z0)) ∧ Few (n + 1) (tpL zs (y0, z0)) ∧ Src w4 q a len cap f m3 ∧ w.grownBy w4 (some q)) := by
        have g3 : w.grownBy w3 (some q) := grown_trans X.out.2.2.2 S3.out.2.grownBy
        have g4 : w3.grownBy w4 none := ⟨b4.os, b4.tape, b4.output, b4.size, fun k hk _ => b4.block k hk⟩
        exact ⟨o4.lower g3.size, X.out.2.1.put (by omega) y1 y2 z1 z2, S3.out.1.grown g4 (by simp) (by simp), grown_trans g3 ⟨g4.os, g4.tape, g4.output, g4.size, fun k hk _ => b4.block k hk⟩⟩
      clear o4 b4 PR3 S2 S3 PR X
      go_wp2
      go_roundw
      case rel => exact ⟨k - 1, n + 1, m3, _, by go_num, by omega, by omega, Y⟩
      case measure => simp [intOf]; omega
    · obtain rfl : k = 0 := by omega
      go_wp2
      go_ret
      exact ⟨_, zs, rfl, X.out.1, ⟨X.out.2.1.1, by have := X.out.2.1.2.1; omega, X.out.2.1.2.2⟩, X.out.2.2.2⟩

theorem TimersOf_any (w : World) (a : Option Addr) (len cap : Nat) (f : Nat → Int) (h : Bytes w a len f) (hl : len ≤ 1048576) (hlt : ∀ b off, 0 < len → a = some ⟨b, off, none⟩ → b < w.heap.size) :
    Calls Try.prog 17 #[.slice a len cap] w fun e w' => ∃ v zs, e = .returned v ∧ OwnP 44 w' w.heap.size v zs ∧ Few 8 zs ∧ Below w.heap.size w w' := by
  have HB : Hid (Bytes w a len f) := h
  have HL : Hid (∀ b off, 0 < len → a = some ⟨b, off, none⟩ → b < w.heap.size) := hlt
  clear h hlt
  go_enter Try.func17, Try.ntmps17
  go_wp2_with fail
  refine (l00Source_any w a len cap f HB.out hl HL.out).mono ?_
  rintro e w1 ⟨rfl, hs, hg, hz⟩
  have X : Hid (Src w1 w.heap.size a len cap f 0 ∧ w.grownBy w1 none ∧ w1.heap.size = w.heap.size + 1) := ⟨hs, hg, hz⟩
  clear hs hg hz
  go_wp2_with fail
  refine (timersD w1 w.heap.size a len cap f 0 X.out.1 (by omega) (by have := X.out.2.2; omega)).mono ?_
  rintro e w2 ⟨v, zs, rfl, o2, hf, hg2⟩
  have B2 : Hid (Below w.heap.size w w2) := ((Below.refl w.heap.size w).grown X.out.2.1 (Nat.le_refl _) (by simp)).grown hg2 (by have := X.out.2.2; omega) (by intro k hk; cases hk; exact Nat.le_refl _)
  have Y : Hid (OwnP 44 w2 w.heap.size v zs ∧ Few 8 zs) := ⟨o2.lower (by have := X.out.2.2; omega), hf⟩
  clear o2 hf hg2
  go_wp2
  go_ret
  exact ⟨v, zs, rfl, Y.out.1, Y.out.2, B2.out⟩
end Go.Proofs.Ytbbjelkicenbhaa
