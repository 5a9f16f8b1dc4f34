/- ConnTake of the program: one that is gone. ConnTake of the program, at every argument. ConnTake of the model, at every argument. Lists of segments in the laws, marked and held. Regions that draw their order, whatever they do, walked once: each operation has a fact of its own (a resource: a fact of values and of the blocks that it owns), is shown from the facts of those that it waits for, and may take a fact's blocks over. Nothing of the program is imported. Regions by resources: the kinds of resources. -/
import Derived.Test.YtfgghffgfefgpaaJ5
import Derived.Test.YtfgghffgfefgpaaJ3
import Derived.Test.YtfgghffgfefgpaaJ1
import Derived.Test.YtfgghffgfefgpaaJ0
import Derived.WalkKit
import Derived.Below
import Derived.Still
namespace Go.Proofs.Ytfgghffgfefgpaa
open Go.RowKit Go.PlainAid Go.Proofs.Ytfgghffgfefgpaa.Bt Go.Sort
set_option linter.unusedVariables false
set_option maxRecDepth 20000
set_option maxHeartbeats 16000000 in
theorem implTk_G (mc : ByteArray) (ip po di st un nx wa : Int) (inn out : ByteArray) (fin : Bool) (sp dp sq ac fl wi : Int) (da : ByteArray) (xm : ByteArray) (xi xp xd xs xu xn xw : Int) (xI xO : ByteArray) (xF : Bool) (XL : List SegV) (w : World) (hp : po ≤ 9223372036854775807) (hmc : mc.size ≤ 1048576) (hi : inn.size ≤ 1048576) (ho : out.size ≤ 1048576) (hs : sp ≤ 9223372036854775807) (hd : dp ≤ 9223372036854775807) (hq : sq ≤ 9223372036854775807) (ha : ac ≤ 9223372036854775807) (hw : wi ≤ 9223372036854775807) (hda : da.size ≤ 9223372036854775807) (hok : okB ⟨mc, ip, po, di, st, un, nx, wa, inn, out, fin⟩ = true) (hsg : sgB ⟨sp, dp, sq, ac, fl, wi, da⟩ = true) (hst : st = 4) (TL0 : ∀ (w : World), Calls Try.prog 70 #[.agg #[.string mc, .int .i64 ip, .int .i64 po, .int .i64 di, .int .i64 st, .int .i64 un, .int .i64 nx, .int .i64 wa, .string inn, .string out, .bool fin], .agg #[.int .i64 sp, .int .i64 dp, .int .i64 sq, .int .i64 ac, .int .i64 fl, .int .i64 wi, .string da]] w fun e w' => ∃ v, e = .returned (.tuple #[.agg #[.string xm, .int .i64 xi, .int .i64 xp, .int .i64 xd, .int .i64 xs, .int .i64 xu, .int .i64 xn, .int .i64 xw, .string xI, .string xO, .bool xF], v]) ∧ OwnS sgG 7 27 w' w.heap.size v XL ∧ Below w.heap.size w w') :
    Calls Try.prog 8 #[.agg #[.string mc, .int .i64 ip, .int .i64 po, .int .i64 di, .int .i64 st, .int .i64 un, .int .i64 nx, .int .i64 wa, .string inn, .string out, .bool fin], .agg #[.int .i64 sp, .int .i64 dp, .int .i64 sq, .int .i64 ac, .int .i64 fl, .int .i64 wi, .string da]] w fun e w' => ∃ v, e = .returned (.tuple #[.agg #[.string xm, .int .i64 xi, .int .i64 xp, .int .i64 xd, .int .i64 xs, .int .i64 xu, .int .i64 xn, .int .i64 xw, .string xI, .string xO, .bool xF], v, .int .i64 0]) ∧ OwnS sgG 7 27 w' w.heap.size v XL ∧ Below w.heap.size w w' := by
  have TK : Hid (∀ w, Calls Try.prog 11 #[.agg #[.string mc, .int .i64 ip, .int .i64 po, .int .i64 di, .int .i64 st, .int .i64 un, .int .i64 nx, .int .i64 wa, .string inn, .string out, .bool fin]] w fun e w' => e = .returned (.bool true) ∧ Grw w w') := fun w => by rw [← hok]; exact implConOK_any mc ip po di st un nx wa inn out fin w hp hmc hi ho
  have TSG : Hid (∀ w, Calls Try.prog 33 #[.agg #[.int .i64 sp, .int .i64 dp, .int .i64 sq, .int .i64 ac, .int .i64 fl, .int .i64 wi, .string da]] w fun e w' => e = .returned (.bool true) ∧ Grw w w') := fun w => by rw [← hsg]; exact segOK9_any sp dp sq ac fl wi da w hs hd hq ha hw hda
  have TC : Hid (∀ w, Calls Try.prog 34 #[.int .i64 st] w fun e w' => e = .returned (.func (.func 70) #[] #[]) ∧ w' = w) := fun w => connG st w hst
  have TL : Hid (∀ (w : World), Calls Try.prog 70 #[.agg #[.string mc, .int .i64 ip, .int .i64 po, .int .i64 di, .int .i64 st, .int .i64 un, .int .i64 nx, .int .i64 wa, .string inn, .string out, .bool fin], .agg #[.int .i64 sp, .int .i64 dp, .int .i64 sq, .int .i64 ac, .int .i64 fl, .int .i64 wi, .string da]] w fun e w' => ∃ v, e = .returned (.tuple #[.agg #[.string xm, .int .i64 xi, .int .i64 xp, .int .i64 xd, .int .i64 xs, .int .i64 xu, .int .i64 xn, .int .i64 xw, .string xI, .string xO, .bool xF], v]) ∧ OwnS sgG 7 27 w' w.heap.size v XL ∧ Below w.heap.size w w') := TL0
  clear TL0 hst hok hsg
  have C0 : Bx (((w.alloc (.cells #[.string mc, .int .i64 ip, .int .i64 po, .int .i64 di, .int .i64 st, .int .i64 un, .int .i64 nx, .int .i64 wa, .string inn, .string out, .bool fin] 24)).alloc (.cells #[.int .i64 sp, .int .i64 dp, .int .i64 sq, .int .i64 ac, .int .i64 fl, .int .i64 wi, .string da] 27)).alloc (.cells #[.string ⟨#[]⟩, .int .i64 0, .int .i64 0, .int .i64 0, .int .i64 0, .int .i64 0, .int .i64 0, .int .i64 0, .string ⟨#[]⟩, .string ⟨#[]⟩, .bool false] 24)) w.heap.size [.string mc, .int .i64 ip, .int .i64 po, .int .i64 di, .int .i64 st, .int .i64 un, .int .i64 nx, .int .i64 wa, .string inn, .string out, .bool fin] := ((Bx.new w _ _).below ((Below.refl _ _).alloc (Nat.le_refl _) _)).below ((Below.refl _ _).alloc (Nat.le_refl _) _)
  have G0 : Bx (((w.alloc (.cells #[.string mc, .int .i64 ip, .int .i64 po, .int .i64 di, .int .i64 st, .int .i64 un, .int .i64 nx, .int .i64 wa, .string inn, .string out, .bool fin] 24)).alloc (.cells #[.int .i64 sp, .int .i64 dp, .int .i64 sq, .int .i64 ac, .int .i64 fl, .int .i64 wi, .string da] 27)).alloc (.cells #[.string ⟨#[]⟩, .int .i64 0, .int .i64 0, .int .i64 0, .int .i64 0, .int .i64 0, .int .i64 0, .int .i64 0, .string ⟨#[]⟩, .string ⟨#[]⟩, .bool false] 24)) (w.heap.size + 1) [.int .i64 sp, .int .i64 dp, .int .i64 sq, .int .i64 ac, .int .i64 fl, .int .i64 wi, .string da] := by
    have h := (Bx.new (w.alloc (.cells #[.string mc, .int .i64 ip, .int .i64 po, .int .i64 di, .int .i64 st, .int .i64 un, .int .i64 nx, .int .i64 wa, .string inn, .string out, .bool fin] 24)) #[.int .i64 sp, .int .i64 dp, .int .i64 sq, .int .i64 ac, .int .i64 fl, .int .i64 wi, .string da] 27).below ((Below.refl _ _).alloc (Nat.le_refl _) (.cells #[.string ⟨#[]⟩, .int .i64 0, .int .i64 0, .int .i64 0, .int .i64 0, .int .i64 0, .int .i64 0, .int .i64 0, .string ⟨#[]⟩, .string ⟨#[]⟩, .bool false] 24))
    rw [World.size_alloc] at h
    exact h
  have R0 : Bx (((w.alloc (.cells #[.string mc, .int .i64 ip, .int .i64 po, .int .i64 di, .int .i64 st, .int .i64 un, .int .i64 nx, .int .i64 wa, .string inn, .string out, .bool fin] 24)).alloc (.cells #[.int .i64 sp, .int .i64 dp, .int .i64 sq, .int .i64 ac, .int .i64 fl, .int .i64 wi, .string da] 27)).alloc (.cells #[.string ⟨#[]⟩, .int .i64 0, .int .i64 0, .int .i64 0, .int .i64 0, .int .i64 0, .int .i64 0, .int .i64 0, .string ⟨#[]⟩, .string ⟨#[]⟩, .bool false] 24)) (w.heap.size + 1 + 1) [.string ⟨#[]⟩, .int .i64 0, .int .i64 0, .int .i64 0, .int .i64 0, .int .i64 0, .int .i64 0, .int .i64 0, .string ⟨#[]⟩, .string ⟨#[]⟩, .bool false] := by
    have h := Bx.new ((w.alloc (.cells #[.string mc, .int .i64 ip, .int .i64 po, .int .i64 di, .int .i64 st, .int .i64 un, .int .i64 nx, .int .i64 wa, .string inn, .string out, .bool fin] 24)).alloc (.cells #[.int .i64 sp, .int .i64 dp, .int .i64 sq, .int .i64 ac, .int .i64 fl, .int .i64 wi, .string da] 27)) #[.string ⟨#[]⟩, .int .i64 0, .int .i64 0, .int .i64 0, .int .i64 0, .int .i64 0, .int .i64 0, .int .i64 0, .string ⟨#[]⟩, .string ⟨#[]⟩, .bool false] 24
    rw [World.size_alloc, World.size_alloc] at h
    exact h
  have B0 : Hid (Below w.heap.size w (((w.alloc (.cells #[.string mc, .int .i64 ip, .int .i64 po, .int .i64 di, .int .i64 st, .int .i64 un, .int .i64 nx, .int .i64 wa, .string inn, .string out, .bool fin] 24)).alloc (.cells #[.int .i64 sp, .int .i64 dp, .int .i64 sq, .int .i64 ac, .int .i64 fl, .int .i64 wi, .string da] 27)).alloc (.cells #[.string ⟨#[]⟩, .int .i64 0, .int .i64 0, .int .i64 0, .int .i64 0, .int .i64 0, .int .i64 0, .int .i64 0, .string ⟨#[]⟩, .string ⟨#[]⟩, .bool false] 24))) := ((((Below.refl _ _).alloc (Nat.le_refl _) _).alloc (by simp) _).alloc (by simp; omega) _)
  go_enter Try.func8, Try.ntmps8
  go_wp2_with (first | (refine wpl_get rfl _ rfl _ rfl (by assumption) rfl ?_) | (refine wpl_getS rfl _ rfl _ rfl (by assumption) rfl ?_) | fail)
  refine (TK.out _).mono ?_
  rintro e w1 ⟨rfl, g1⟩
  have b1 := g1.below
  have C1 : Bx w1 w.heap.size [.string mc, .int .i64 ip, .int .i64 po, .int .i64 di, .int .i64 st, .int .i64 un, .int .i64 nx, .int .i64 wa, .string inn, .string out, .bool fin] := C0.below b1
  have G1 : Bx w1 (w.heap.size + 1) [.int .i64 sp, .int .i64 dp, .int .i64 sq, .int .i64 ac, .int .i64 fl, .int .i64 wi, .string da] := G0.below b1
  have R1 : Bx w1 (w.heap.size + 1 + 1) [.string ⟨#[]⟩, .int .i64 0, .int .i64 0, .int .i64 0, .int .i64 0, .int .i64 0, .int .i64 0, .int .i64 0, .string ⟨#[]⟩, .string ⟨#[]⟩, .bool false] := R0.below b1
  have B1 : Hid (Below w.heap.size w w1) := B0.out.trans (b1.mono B0.out.size)
  clear b1 g1
  have gq0 : w1.cell? ⟨w.heap.size + 1, 0, none⟩ = some (.int .i64 sp) := G1.cell 0 rfl
  have gq1 : w1.cell? ⟨w.heap.size + 1, 1, none⟩ = some (.int .i64 dp) := G1.cell 1 rfl
  have gq2 : w1.cell? ⟨w.heap.size + 1, 2, none⟩ = some (.int .i64 sq) := G1.cell 2 rfl
  have gq3 : w1.cell? ⟨w.heap.size + 1, 3, none⟩ = some (.int .i64 ac) := G1.cell 3 rfl
  have gq4 : w1.cell? ⟨w.heap.size + 1, 4, none⟩ = some (.int .i64 fl) := G1.cell 4 rfl
  have gq5 : w1.cell? ⟨w.heap.size + 1, 5, none⟩ = some (.int .i64 wi) := G1.cell 5 rfl
  have gq6 : w1.cell? ⟨w.heap.size + 1, 6, none⟩ = some (.string da) := G1.cell 6 rfl
  go_wp2_with (first | (refine wpl_get rfl _ rfl _ rfl (by assumption) rfl ?_) | (refine wpl_getS rfl _ rfl _ rfl (by assumption) rfl ?_) | fail)
  refine (TSG.out _).mono ?_
  rintro e w2 ⟨rfl, g2⟩
  have b2 := g2.below
  have C2 : Bx w2 w.heap.size [.string mc, .int .i64 ip, .int .i64 po, .int .i64 di, .int .i64 st, .int .i64 un, .int .i64 nx, .int .i64 wa, .string inn, .string out, .bool fin] := C1.below b2
  have G2 : Bx w2 (w.heap.size + 1) [.int .i64 sp, .int .i64 dp, .int .i64 sq, .int .i64 ac, .int .i64 fl, .int .i64 wi, .string da] := G1.below b2
  have R2 : Bx w2 (w.heap.size + 1 + 1) [.string ⟨#[]⟩, .int .i64 0, .int .i64 0, .int .i64 0, .int .i64 0, .int .i64 0, .int .i64 0, .int .i64 0, .string ⟨#[]⟩, .string ⟨#[]⟩, .bool false] := R1.below b2
  have B2 : Hid (Below w.heap.size w w2) := B1.out.trans (b2.mono B1.out.size)
  clear b2 g2
  clear C1 G1 R1 B1 C0 G0 R0 B0 gq0 gq1 gq2 gq3 gq4 gq5 gq6
  have HS : Hid (∀ wx, XD w.heap.size [.string mc, .int .i64 ip, .int .i64 po, .int .i64 di, .int .i64 st, .int .i64 un, .int .i64 nx, .int .i64 wa, .string inn, .string out, .bool fin] (w.heap.size + 1) [.int .i64 sp, .int .i64 dp, .int .i64 sq, .int .i64 ac, .int .i64 fl, .int .i64 wi, .string da] (w.heap.size + 1 + 1) [.string ⟨#[]⟩, .int .i64 0, .int .i64 0, .int .i64 0, .int .i64 0, .int .i64 0, .int .i64 0, .int .i64 0, .string ⟨#[]⟩, .string ⟨#[]⟩, .bool false] w wx → w.heap.size + 3 ≤ wx.heap.size) := fun wx h => by
    have := World.block_lt_of_cell? wx _ (h.r.cell 0 rfl)
    dsimp only at this
    omega
  go_wp2_with fail
  have SS2 : Hid (XD w.heap.size [.string mc, .int .i64 ip, .int .i64 po, .int .i64 di, .int .i64 st, .int .i64 un, .int .i64 nx, .int .i64 wa, .string inn, .string out, .bool fin] (w.heap.size + 1) [.int .i64 sp, .int .i64 dp, .int .i64 sq, .int .i64 ac, .int .i64 fl, .int .i64 wi, .string da] (w.heap.size + 1 + 1) [.string ⟨#[]⟩, .int .i64 0, .int .i64 0, .int .i64 0, .int .i64 0, .int .i64 0, .int .i64 0, .int .i64 0, .string ⟨#[]⟩, .string ⟨#[]⟩, .bool false] w w2) := ⟨C2, G2, R2, B2.out⟩
  have SS : Hid (XD w.heap.size [.string mc, .int .i64 ip, .int .i64 po, .int .i64 di, .int .i64 st, .int .i64 un, .int .i64 nx, .int .i64 wa, .string inn, .string out, .bool fin] (w.heap.size + 1) [.int .i64 sp, .int .i64 dp, .int .i64 sq, .int .i64 ac, .int .i64 fl, .int .i64 wi, .string da] (w.heap.size + 1 + 1) [.string ⟨#[]⟩, .int .i64 0, .int .i64 0, .int .i64 0, .int .i64 0, .int .i64 0, .int .i64 0, .int .i64 0, .string ⟨#[]⟩, .string ⟨#[]⟩, .bool false] w w2.drew) := ⟨C2.below ((Below.refl _ _).drew), G2.below ((Below.refl _ _).drew), R2.below ((Below.refl _ _).drew), B2.out.drew⟩
  have H2 : w.heap.size + 3 ≤ w2.heap.size := by have := HS.out _ SS.out; simpa using this
  clear C2 G2 R2 B2
  have FRR : Hid (∀ nb wx, w.heap.size + 3 ≤ nb → XD w.heap.size [.string mc, .int .i64 ip, .int .i64 po, .int .i64 di, .int .i64 st, .int .i64 un, .int .i64 nx, .int .i64 wa, .string inn, .string out, .bool fin] (w.heap.size + 1) [.int .i64 sp, .int .i64 dp, .int .i64 sq, .int .i64 ac, .int .i64 fl, .int .i64 wi, .string da] (w.heap.size + 1 + 1) [.string ⟨#[]⟩, .int .i64 0, .int .i64 0, .int .i64 0, .int .i64 0, .int .i64 0, .int .i64 0, .int .i64 0, .string ⟨#[]⟩, .string ⟨#[]⟩, .bool false] w wx → XD w.heap.size [.string mc, .int .i64 ip, .int .i64 po, .int .i64 di, .int .i64 st, .int .i64 un, .int .i64 nx, .int .i64 wa, .string inn, .string out, .bool fin] (w.heap.size + 1) [.int .i64 sp, .int .i64 dp, .int .i64 sq, .int .i64 ac, .int .i64 fl, .int .i64 wi, .string da] (w.heap.size + 1 + 1) [.string ⟨#[]⟩, .int .i64 0, .int .i64 0, .int .i64 0, .int .i64 0, .int .i64 0, .int .i64 0, .int .i64 0, .string ⟨#[]⟩, .string ⟨#[]⟩, .bool false] w (((((((((((wx.setCell ⟨nb, 0, none⟩ (.string xm)).setCell ⟨nb, 1, none⟩ (.int .i64 xi)).setCell ⟨nb, 2, none⟩ (.int .i64 xp)).setCell ⟨nb, 3, none⟩ (.int .i64 xd)).setCell ⟨nb, 4, none⟩ (.int .i64 xs)).setCell ⟨nb, 5, none⟩ (.int .i64 xu)).setCell ⟨nb, 6, none⟩ (.int .i64 xn)).setCell ⟨nb, 7, none⟩ (.int .i64 xw)).setCell ⟨nb, 8, none⟩ (.string xI)).setCell ⟨nb, 9, none⟩ (.string xO)).setCell ⟨nb, 10, none⟩ (.bool xF))) := fun nb wx hn hx => (((((((((((hx.far ⟨nb, 0, none⟩ (.string xm) (by dsimp only; omega) (by dsimp only; omega) (by dsimp only; omega) (by dsimp only; omega)).far ⟨nb, 1, none⟩ (.int .i64 xi) (by dsimp only; omega) (by dsimp only; omega) (by dsimp only; omega) (by dsimp only; omega)).far ⟨nb, 2, none⟩ (.int .i64 xp) (by dsimp only; omega) (by dsimp only; omega) (by dsimp only; omega) (by dsimp only; omega)).far ⟨nb, 3, none⟩ (.int .i64 xd) (by dsimp only; omega) (by dsimp only; omega) (by dsimp only; omega) (by dsimp only; omega)).far ⟨nb, 4, none⟩ (.int .i64 xs) (by dsimp only; omega) (by dsimp only; omega) (by dsimp only; omega) (by dsimp only; omega)).far ⟨nb, 5, none⟩ (.int .i64 xu) (by dsimp only; omega) (by dsimp only; omega) (by dsimp only; omega) (by dsimp only; omega)).far ⟨nb, 6, none⟩ (.int .i64 xn) (by dsimp only; omega) (by dsimp only; omega) (by dsimp only; omega) (by dsimp only; omega)).far ⟨nb, 7, none⟩ (.int .i64 xw) (by dsimp only; omega) (by dsimp only; omega) (by dsimp only; omega) (by dsimp only; omega)).far ⟨nb, 8, none⟩ (.string xI) (by dsimp only; omega) (by dsimp only; omega) (by dsimp only; omega) (by dsimp only; omega)).far ⟨nb, 9, none⟩ (.string xO) (by dsimp only; omega) (by dsimp only; omega) (by dsimp only; omega) (by dsimp only; omega)).far ⟨nb, 10, none⟩ (.bool xF) (by dsimp only; omega) (by dsimp only; omega) (by dsimp only; omega) (by dsimp only; omega))
  refine wp_region_held_drew (S := (fun wx => XD w.heap.size [.string mc, .int .i64 ip, .int .i64 po, .int .i64 di, .int .i64 st, .int .i64 un, .int .i64 nx, .int .i64 wa, .string inn, .string out, .bool fin] (w.heap.size + 1) [.int .i64 sp, .int .i64 dp, .int .i64 sq, .int .i64 ac, .int .i64 fl, .int .i64 wi, .string da] (w.heap.size + 1 + 1) [.string ⟨#[]⟩, .int .i64 0, .int .i64 0, .int .i64 0, .int .i64 0, .int .i64 0, .int .i64 0, .int .i64 0, .string ⟨#[]⟩, .string ⟨#[]⟩, .bool false] w wx)) (by kernel_rfl) ?_ (fun hH0 => ?_)
  · with_reducible exact SS.out
  refine wpAnyH_take (i := 0) (v := ?v1001) rfl (by kernel_rfl) (by kernel_rfl) (by kernel_rfl) (fun _ _ _ h => h) (Or.inl ⟨by rfl, ?hy1001⟩) (by assumption) ?rest1001
  case hy1001 => (intro w hSw; (try dsimp only at hSw); go_simp; (try with_reducible rfl))
  refine wpAnyH_take (i := 1) (v := .int .i64 st) rfl (by kernel_rfl) (by kernel_rfl) (by kernel_rfl) (fun _ _ _ h => h) (Or.inl ⟨by rfl, ?hy1002⟩) (by assumption) ?rest1002
  case hy1002 =>
    intro wz hSw
    have hf : wz.cell? ⟨w.heap.size, 4, none⟩ = some (.int .i64 st) := hSw.c.cell 4 rfl
    go_simp
  refine wpAnyH_take (i := 3) (v := .agg #[.string mc, .int .i64 ip, .int .i64 po, .int .i64 di, .int .i64 st, .int .i64 un, .int .i64 nx, .int .i64 wa, .string inn, .string out, .bool fin]) rfl (by kernel_rfl) (by kernel_rfl) (by kernel_rfl) (fun _ _ _ h => h) (yieldsIf_load_mid (by rfl) 24 _ rfl w.heap.size 0 rfl [.string mc, .int .i64 ip, .int .i64 po, .int .i64 di, .int .i64 st, .int .i64 un, .int .i64 nx, .int .i64 wa, .string inn, .string out, .bool fin] _ (fun _ h => h.c.cl) Try.underlying24 rfl rfl) (by assumption) ?rest1003
  refine wpAnyH_take (i := 4) (v := .agg #[.int .i64 sp, .int .i64 dp, .int .i64 sq, .int .i64 ac, .int .i64 fl, .int .i64 wi, .string da]) rfl (by kernel_rfl) (by kernel_rfl) (by kernel_rfl) (fun _ _ _ h => h) (yieldsIf_load_mid (by rfl) 27 _ rfl (w.heap.size + 1) 0 rfl [.int .i64 sp, .int .i64 dp, .int .i64 sq, .int .i64 ac, .int .i64 fl, .int .i64 wi, .string da] _ (fun _ h => h.g.cl) Try.underlying27 rfl rfl) (by assumption) ?rest1004
  refine wpAnyH_ready (rs := [2, 9]) (by kernel_rfl) (by simp) ?_
  refine AllReadyH.cons rfl (fun K hK => ?_) ?_
  · go_simp
    go_at_call 34
    with_reducible refine (TC.out _).mono ?_
    rintro e w6 ⟨rfl, hw6⟩
    have b6 : Below w2.drew.heap.size w2.drew w6 := by rw [hw6]; exact Below.refl _ _
    clear hw6
    have L6 : Hid (XD w.heap.size [.string mc, .int .i64 ip, .int .i64 po, .int .i64 di, .int .i64 st, .int .i64 un, .int .i64 nx, .int .i64 wa, .string inn, .string out, .bool fin] (w.heap.size + 1) [.int .i64 sp, .int .i64 dp, .int .i64 sq, .int .i64 ac, .int .i64 fl, .int .i64 wi, .string da] (w.heap.size + 1 + 1) [.string ⟨#[]⟩, .int .i64 0, .int .i64 0, .int .i64 0, .int .i64 0, .int .i64 0, .int .i64 0, .int .i64 0, .string ⟨#[]⟩, .string ⟨#[]⟩, .bool false] w w6) := SS.out.below b6
    clear b6
    refine hK.out _ _ ?_ (fun hH1005 => ?_)
    · (try dsimp only)
      first | (with_reducible exact L8.out) | (with_reducible exact L9.out) | (with_reducible exact L7.out) | (with_reducible exact L6.out) | (with_reducible exact FRR.out _ _ G9 L8.out)
    clear hK K hH0
    refine wpAnyH_ready (rs := [5, 9]) (by kernel_rfl) (by simp) ?_
    refine AllReadyH.cons rfl (fun K hK => ?_) ?_
    · go_simp
      go_at_call 70
      with_reducible refine (TL.out _).mono ?_
      rintro e w7 ⟨v7, rfl, o7, b7⟩
      have L7 : Hid (XD w.heap.size [.string mc, .int .i64 ip, .int .i64 po, .int .i64 di, .int .i64 st, .int .i64 un, .int .i64 nx, .int .i64 wa, .string inn, .string out, .bool fin] (w.heap.size + 1) [.int .i64 sp, .int .i64 dp, .int .i64 sq, .int .i64 ac, .int .i64 fl, .int .i64 wi, .string da] (w.heap.size + 1 + 1) [.string ⟨#[]⟩, .int .i64 0, .int .i64 0, .int .i64 0, .int .i64 0, .int .i64 0, .int .i64 0, .int .i64 0, .string ⟨#[]⟩, .string ⟨#[]⟩, .bool false] w w7) := L6.out.below b7
      have O7 : Hid (OwnS sgG 7 27 w7 (w.heap.size + 3) v7 XL) := o7.lower (HS.out _ L6.out)
      clear b7 o7
      refine hK.out _ _ ?_ (fun hH1006 => ?_)
      · (try dsimp only)
        first | (with_reducible exact L8.out) | (with_reducible exact L9.out) | (with_reducible exact L7.out) | (with_reducible exact L6.out) | (with_reducible exact FRR.out _ _ G9 L8.out)
      clear hK K hH1005
      refine wpAnyH_take (i := 6) (v := ?v1007) rfl (by kernel_rfl) (by kernel_rfl) (by kernel_rfl) (fun _ _ _ h => h) (Or.inl ⟨by rfl, ?hy1007⟩) (by assumption) ?rest1007
      case hy1007 => (intro w hSw; (try dsimp only at hSw); go_simp; (try with_reducible rfl))
      refine wpAnyH_take (i := 7) (v := ?v1008) rfl (by kernel_rfl) (by kernel_rfl) (by kernel_rfl) (fun _ _ _ h => h) (Or.inl ⟨by rfl, ?hy1008⟩) (by assumption) ?rest1008
      case hy1008 => (intro w hSw; (try dsimp only at hSw); go_simp; (try with_reducible rfl))
      refine wpAnyH_take (i := 8) (v := ?v1009) rfl (by kernel_rfl) (by kernel_rfl) (by kernel_rfl) (fun _ _ _ h => h) (Or.inl ⟨by rfl, ?hy1009⟩) (by assumption) ?rest1009
      case hy1009 => (intro w hSw; (try dsimp only at hSw); go_simp; (try with_reducible rfl))
      refine wpAnyH_ready (rs := [9]) (by kernel_rfl) (by simp) ?_
      refine AllReadyH.cons rfl (fun K hK => ?_) ?_
      · go_simp
        have N9 : Bx (w7.alloc (.cells #[.string ⟨#[]⟩, .int .i64 0, .int .i64 0, .int .i64 0, .int .i64 0, .int .i64 0, .int .i64 0, .int .i64 0, .string ⟨#[]⟩, .string ⟨#[]⟩, .bool false] 24)) w7.heap.size [.string ⟨#[]⟩, .int .i64 0, .int .i64 0, .int .i64 0, .int .i64 0, .int .i64 0, .int .i64 0, .int .i64 0, .string ⟨#[]⟩, .string ⟨#[]⟩, .bool false] := Bx.new w7 #[.string ⟨#[]⟩, .int .i64 0, .int .i64 0, .int .i64 0, .int .i64 0, .int .i64 0, .int .i64 0, .int .i64 0, .string ⟨#[]⟩, .string ⟨#[]⟩, .bool false] _
        have L8 : Hid (XD w.heap.size [.string mc, .int .i64 ip, .int .i64 po, .int .i64 di, .int .i64 st, .int .i64 un, .int .i64 nx, .int .i64 wa, .string inn, .string out, .bool fin] (w.heap.size + 1) [.int .i64 sp, .int .i64 dp, .int .i64 sq, .int .i64 ac, .int .i64 fl, .int .i64 wi, .string da] (w.heap.size + 1 + 1) [.string ⟨#[]⟩, .int .i64 0, .int .i64 0, .int .i64 0, .int .i64 0, .int .i64 0, .int .i64 0, .int .i64 0, .string ⟨#[]⟩, .string ⟨#[]⟩, .bool false] w (w7.alloc (.cells #[.string ⟨#[]⟩, .int .i64 0, .int .i64 0, .int .i64 0, .int .i64 0, .int .i64 0, .int .i64 0, .int .i64 0, .string ⟨#[]⟩, .string ⟨#[]⟩, .bool false] 24))) := L7.out.below ((Below.refl _ _).alloc (Nat.le_refl _) _)
        have S9 : Hid (w7.heap.size < (w7.alloc (.cells #[.string ⟨#[]⟩, .int .i64 0, .int .i64 0, .int .i64 0, .int .i64 0, .int .i64 0, .int .i64 0, .int .i64 0, .string ⟨#[]⟩, .string ⟨#[]⟩, .bool false] 24)).heap.size) := by show _ < _; simp
        have G9 : w.heap.size + 3 ≤ w7.heap.size := HS.out _ L7.out
        have O8 : Hid (OwnS sgG 7 27 (w7.alloc (.cells #[.string ⟨#[]⟩, .int .i64 0, .int .i64 0, .int .i64 0, .int .i64 0, .int .i64 0, .int .i64 0, .int .i64 0, .string ⟨#[]⟩, .string ⟨#[]⟩, .bool false] 24)) (w.heap.size + 3) v7 XL) := O7.out.now ((Below.refl _ _).alloc (Nat.le_refl _) _)
        have NE : Hid (∀ k, v7.ownBlock = some k → k ≠ w7.heap.size) := fun k hk => by have := (O7.out.lt k hk).2; omega
        generalize (w7.alloc (.cells #[.string ⟨#[]⟩, .int .i64 0, .int .i64 0, .int .i64 0, .int .i64 0, .int .i64 0, .int .i64 0, .int .i64 0, .string ⟨#[]⟩, .string ⟨#[]⟩, .bool false] 24)) = w8 at N9 L8 S9 O8 ⊢
        obtain ⟨nb, hnb⟩ : ∃ nb, nb = w7.heap.size := ⟨_, rfl⟩
        rw [← hnb] at N9 S9 G9 NE ⊢
        clear hnb
        have NX := N9
        clear N9
        have zz0 : w8.cell? ⟨nb, 0, none⟩ = some (.string ⟨#[]⟩) := NX.cell 0 rfl
        have hh0 : w8.frozen? ⟨nb, 0, none⟩ = false := NX.thaw 0 (by simp)
        have zz1 : w8.cell? ⟨nb, 1, none⟩ = some (.int .i64 0) := NX.cell 1 rfl
        have hh1 : w8.frozen? ⟨nb, 1, none⟩ = false := NX.thaw 1 (by simp)
        have zz2 : w8.cell? ⟨nb, 2, none⟩ = some (.int .i64 0) := NX.cell 2 rfl
        have hh2 : w8.frozen? ⟨nb, 2, none⟩ = false := NX.thaw 2 (by simp)
        have zz3 : w8.cell? ⟨nb, 3, none⟩ = some (.int .i64 0) := NX.cell 3 rfl
        have hh3 : w8.frozen? ⟨nb, 3, none⟩ = false := NX.thaw 3 (by simp)
        have zz4 : w8.cell? ⟨nb, 4, none⟩ = some (.int .i64 0) := NX.cell 4 rfl
        have hh4 : w8.frozen? ⟨nb, 4, none⟩ = false := NX.thaw 4 (by simp)
        have zz5 : w8.cell? ⟨nb, 5, none⟩ = some (.int .i64 0) := NX.cell 5 rfl
        have hh5 : w8.frozen? ⟨nb, 5, none⟩ = false := NX.thaw 5 (by simp)
        have zz6 : w8.cell? ⟨nb, 6, none⟩ = some (.int .i64 0) := NX.cell 6 rfl
        have hh6 : w8.frozen? ⟨nb, 6, none⟩ = false := NX.thaw 6 (by simp)
        have zz7 : w8.cell? ⟨nb, 7, none⟩ = some (.int .i64 0) := NX.cell 7 rfl
        have hh7 : w8.frozen? ⟨nb, 7, none⟩ = false := NX.thaw 7 (by simp)
        have zz8 : w8.cell? ⟨nb, 8, none⟩ = some (.string ⟨#[]⟩) := NX.cell 8 rfl
        have hh8 : w8.frozen? ⟨nb, 8, none⟩ = false := NX.thaw 8 (by simp)
        have zz9 : w8.cell? ⟨nb, 9, none⟩ = some (.string ⟨#[]⟩) := NX.cell 9 rfl
        have hh9 : w8.frozen? ⟨nb, 9, none⟩ = false := NX.thaw 9 (by simp)
        have zz10 : w8.cell? ⟨nb, 10, none⟩ = some (.bool false) := NX.cell 10 rfl
        have hh10 : w8.frozen? ⟨nb, 10, none⟩ = false := NX.thaw 10 (by simp)
        refine hK.out _ _ ?_ (fun hH1010 => ?_)
        · (try dsimp only)
          first | (with_reducible exact L8.out) | (with_reducible exact L9.out) | (with_reducible exact L7.out) | (with_reducible exact L6.out) | (with_reducible exact FRR.out _ _ G9 L8.out)
        clear hK K hH1006
        refine wpAnyH_ready (rs := [10]) (by kernel_rfl) (by simp) ?_
        refine AllReadyH.cons rfl (fun K hK => ?_) ?_
        · go_simp
          refine hK.out _ _ ?_ (fun hH1011 => ?_)
          · (try dsimp only)
            first | (with_reducible exact L8.out) | (with_reducible exact L9.out) | (with_reducible exact L7.out) | (with_reducible exact L6.out) | (with_reducible exact FRR.out _ _ G9 L8.out)
          clear hK K hH1010
          refine wpAnyH_take (i := 11) (v := ?v1012) rfl (by kernel_rfl) (by kernel_rfl) (by kernel_rfl) (fun _ _ _ h => h) (Or.inl ⟨by rfl, ?hy1012⟩) (by assumption) ?rest1012
          case hy1012 => (intro w hSw; (try dsimp only at hSw); go_simp; (try with_reducible rfl))
          refine wpAnyH_done (by kernel_rfl) ?_ _
          have FZ : Hid (Bx (((((((((((w8.setCell ⟨nb, 0, none⟩ (.string xm)).setCell ⟨nb, 1, none⟩ (.int .i64 xi)).setCell ⟨nb, 2, none⟩ (.int .i64 xp)).setCell ⟨nb, 3, none⟩ (.int .i64 xd)).setCell ⟨nb, 4, none⟩ (.int .i64 xs)).setCell ⟨nb, 5, none⟩ (.int .i64 xu)).setCell ⟨nb, 6, none⟩ (.int .i64 xn)).setCell ⟨nb, 7, none⟩ (.int .i64 xw)).setCell ⟨nb, 8, none⟩ (.string xI)).setCell ⟨nb, 9, none⟩ (.string xO)).setCell ⟨nb, 10, none⟩ (.bool xF)) nb [.string xm, .int .i64 xi, .int .i64 xp, .int .i64 xd, .int .i64 xs, .int .i64 xu, .int .i64 xn, .int .i64 xw, .string xI, .string xO, .bool xF] ∧ XD w.heap.size [.string mc, .int .i64 ip, .int .i64 po, .int .i64 di, .int .i64 st, .int .i64 un, .int .i64 nx, .int .i64 wa, .string inn, .string out, .bool fin] (w.heap.size + 1) [.int .i64 sp, .int .i64 dp, .int .i64 sq, .int .i64 ac, .int .i64 fl, .int .i64 wi, .string da] (w.heap.size + 1 + 1) [.string ⟨#[]⟩, .int .i64 0, .int .i64 0, .int .i64 0, .int .i64 0, .int .i64 0, .int .i64 0, .int .i64 0, .string ⟨#[]⟩, .string ⟨#[]⟩, .bool false] w (((((((((((w8.setCell ⟨nb, 0, none⟩ (.string xm)).setCell ⟨nb, 1, none⟩ (.int .i64 xi)).setCell ⟨nb, 2, none⟩ (.int .i64 xp)).setCell ⟨nb, 3, none⟩ (.int .i64 xd)).setCell ⟨nb, 4, none⟩ (.int .i64 xs)).setCell ⟨nb, 5, none⟩ (.int .i64 xu)).setCell ⟨nb, 6, none⟩ (.int .i64 xn)).setCell ⟨nb, 7, none⟩ (.int .i64 xw)).setCell ⟨nb, 8, none⟩ (.string xI)).setCell ⟨nb, 9, none⟩ (.string xO)).setCell ⟨nb, 10, none⟩ (.bool xF)) ∧ OwnS sgG 7 27 (((((((((((w8.setCell ⟨nb, 0, none⟩ (.string xm)).setCell ⟨nb, 1, none⟩ (.int .i64 xi)).setCell ⟨nb, 2, none⟩ (.int .i64 xp)).setCell ⟨nb, 3, none⟩ (.int .i64 xd)).setCell ⟨nb, 4, none⟩ (.int .i64 xs)).setCell ⟨nb, 5, none⟩ (.int .i64 xu)).setCell ⟨nb, 6, none⟩ (.int .i64 xn)).setCell ⟨nb, 7, none⟩ (.int .i64 xw)).setCell ⟨nb, 8, none⟩ (.string xI)).setCell ⟨nb, 9, none⟩ (.string xO)).setCell ⟨nb, 10, none⟩ (.bool xF)) (w.heap.size + 3) v7 XL) := ⟨(((((((((((NX.field 0 (.string xm)).field 1 (.int .i64 xi)).field 2 (.int .i64 xp)).field 3 (.int .i64 xd)).field 4 (.int .i64 xs)).field 5 (.int .i64 xu)).field 6 (.int .i64 xn)).field 7 (.int .i64 xw)).field 8 (.string xI)).field 9 (.string xO)).field 10 (.bool xF)), FRR.out _ _ G9 L8.out, (((((((((((O8.out.apart9 ⟨nb, 0, none⟩ (.string xm) NE.out).apart9 ⟨nb, 1, none⟩ (.int .i64 xi) NE.out).apart9 ⟨nb, 2, none⟩ (.int .i64 xp) NE.out).apart9 ⟨nb, 3, none⟩ (.int .i64 xd) NE.out).apart9 ⟨nb, 4, none⟩ (.int .i64 xs) NE.out).apart9 ⟨nb, 5, none⟩ (.int .i64 xu) NE.out).apart9 ⟨nb, 6, none⟩ (.int .i64 xn) NE.out).apart9 ⟨nb, 7, none⟩ (.int .i64 xw) NE.out).apart9 ⟨nb, 8, none⟩ (.string xI) NE.out).apart9 ⟨nb, 9, none⟩ (.string xO) NE.out).apart9 ⟨nb, 10, none⟩ (.bool xF) NE.out)⟩
          clear hH1011 zz0 hh0 zz1 hh1 zz2 hh2 zz3 hh3 zz4 hh4 zz5 hh5 zz6 hh6 zz7 hh7 zz8 hh8 zz9 hh9 zz10 hh10 NX L8 O8 FRR
          generalize (((((((((((w8.setCell ⟨nb, 0, none⟩ (.string xm)).setCell ⟨nb, 1, none⟩ (.int .i64 xi)).setCell ⟨nb, 2, none⟩ (.int .i64 xp)).setCell ⟨nb, 3, none⟩ (.int .i64 xd)).setCell ⟨nb, 4, none⟩ (.int .i64 xs)).setCell ⟨nb, 5, none⟩ (.int .i64 xu)).setCell ⟨nb, 6, none⟩ (.int .i64 xn)).setCell ⟨nb, 7, none⟩ (.int .i64 xw)).setCell ⟨nb, 8, none⟩ (.string xI)).setCell ⟨nb, 9, none⟩ (.string xO)).setCell ⟨nb, 10, none⟩ (.bool xF)) = wz at FZ ⊢
          have CZ : Bx wz nb [.string xm, .int .i64 xi, .int .i64 xp, .int .i64 xd, .int .i64 xs, .int .i64 xu, .int .i64 xn, .int .i64 xw, .string xI, .string xO, .bool xF] := FZ.out.1
          have RZ : Bx wz (w.heap.size + 1 + 1) [.string ⟨#[]⟩, .int .i64 0, .int .i64 0, .int .i64 0, .int .i64 0, .int .i64 0, .int .i64 0, .int .i64 0, .string ⟨#[]⟩, .string ⟨#[]⟩, .bool false] := FZ.out.2.1.r
          have BZ9 : Hid (Below w.heap.size w wz) := FZ.out.2.1.out
          have OZ : Hid (OwnS sgG 7 27 wz (w.heap.size + 3) v7 XL) := FZ.out.2.2
          go_wp2_with (first | (refine wpl_put rfl _ _ rfl (w.heap.size + 1 + 1) _ rfl rfl RZ rfl rfl rfl ?_; intro w5 hw5 R5; have B5 : Hid (Below w.heap.size w w5) := (by rw [hw5]; exact below_cells (by omega) _ _ _ BZ9.out); have O5 : Hid (OwnS sgG 7 27 w5 w.heap.size v7 XL) := (by rw [hw5]; exact (own_cells (by omega) _ _ _ OZ.out).lower (by omega)); clear hw5) | (refine wpl_get rfl _ rfl _ rfl (by assumption) rfl ?_) | fail)
          have xx0 : w5.cell? ⟨w.heap.size + 1 + 1, 0, none⟩ = some (.string xm) := R5.cell 0 rfl
          have xx1 : w5.cell? ⟨w.heap.size + 1 + 1, 1, none⟩ = some (.int .i64 xi) := R5.cell 1 rfl
          have xx2 : w5.cell? ⟨w.heap.size + 1 + 1, 2, none⟩ = some (.int .i64 xp) := R5.cell 2 rfl
          have xx3 : w5.cell? ⟨w.heap.size + 1 + 1, 3, none⟩ = some (.int .i64 xd) := R5.cell 3 rfl
          have xx4 : w5.cell? ⟨w.heap.size + 1 + 1, 4, none⟩ = some (.int .i64 xs) := R5.cell 4 rfl
          have xx5 : w5.cell? ⟨w.heap.size + 1 + 1, 5, none⟩ = some (.int .i64 xu) := R5.cell 5 rfl
          have xx6 : w5.cell? ⟨w.heap.size + 1 + 1, 6, none⟩ = some (.int .i64 xn) := R5.cell 6 rfl
          have xx7 : w5.cell? ⟨w.heap.size + 1 + 1, 7, none⟩ = some (.int .i64 xw) := R5.cell 7 rfl
          have xx8 : w5.cell? ⟨w.heap.size + 1 + 1, 8, none⟩ = some (.string xI) := R5.cell 8 rfl
          have xx9 : w5.cell? ⟨w.heap.size + 1 + 1, 9, none⟩ = some (.string xO) := R5.cell 9 rfl
          have xx10 : w5.cell? ⟨w.heap.size + 1 + 1, 10, none⟩ = some (.bool xF) := R5.cell 10 rfl
          (try simp only [Exit.inBlock, Exit.then])
          refine bodyPost_ret (v := .tuple #[.agg #[.string xm, .int .i64 xi, .int .i64 xp, .int .i64 xd, .int .i64 xs, .int .i64 xu, .int .i64 xn, .int .i64 xw, .string xI, .string xO, .bool xF], v7, .int .i64 0]) (by simp [results, Try.results8, go_sem, xx0, xx1, xx2, xx3, xx4, xx5, xx6, xx7, xx8, xx9, xx10]; try rfl) rfl ?_
          exact ⟨_, rfl, O5.out, B5.out⟩
        exact AllReadyH.nil
      exact AllReadyH.nil
    refine AllReadyH.cons rfl (fun K hK => ?_) ?_
    · go_simp
      have N9 : Bx (w6.alloc (.cells #[.string ⟨#[]⟩, .int .i64 0, .int .i64 0, .int .i64 0, .int .i64 0, .int .i64 0, .int .i64 0, .int .i64 0, .string ⟨#[]⟩, .string ⟨#[]⟩, .bool false] 24)) w6.heap.size [.string ⟨#[]⟩, .int .i64 0, .int .i64 0, .int .i64 0, .int .i64 0, .int .i64 0, .int .i64 0, .int .i64 0, .string ⟨#[]⟩, .string ⟨#[]⟩, .bool false] := Bx.new w6 #[.string ⟨#[]⟩, .int .i64 0, .int .i64 0, .int .i64 0, .int .i64 0, .int .i64 0, .int .i64 0, .int .i64 0, .string ⟨#[]⟩, .string ⟨#[]⟩, .bool false] _
      have L9 : Hid (XD w.heap.size [.string mc, .int .i64 ip, .int .i64 po, .int .i64 di, .int .i64 st, .int .i64 un, .int .i64 nx, .int .i64 wa, .string inn, .string out, .bool fin] (w.heap.size + 1) [.int .i64 sp, .int .i64 dp, .int .i64 sq, .int .i64 ac, .int .i64 fl, .int .i64 wi, .string da] (w.heap.size + 1 + 1) [.string ⟨#[]⟩, .int .i64 0, .int .i64 0, .int .i64 0, .int .i64 0, .int .i64 0, .int .i64 0, .int .i64 0, .string ⟨#[]⟩, .string ⟨#[]⟩, .bool false] w (w6.alloc (.cells #[.string ⟨#[]⟩, .int .i64 0, .int .i64 0, .int .i64 0, .int .i64 0, .int .i64 0, .int .i64 0, .int .i64 0, .string ⟨#[]⟩, .string ⟨#[]⟩, .bool false] 24))) := L6.out.below ((Below.refl _ _).alloc (Nat.le_refl _) _)
      have S9 : Hid (w6.heap.size < (w6.alloc (.cells #[.string ⟨#[]⟩, .int .i64 0, .int .i64 0, .int .i64 0, .int .i64 0, .int .i64 0, .int .i64 0, .int .i64 0, .string ⟨#[]⟩, .string ⟨#[]⟩, .bool false] 24)).heap.size) := by show _ < _; simp
      have G9 : w.heap.size + 3 ≤ w6.heap.size := HS.out _ L6.out
      generalize (w6.alloc (.cells #[.string ⟨#[]⟩, .int .i64 0, .int .i64 0, .int .i64 0, .int .i64 0, .int .i64 0, .int .i64 0, .int .i64 0, .string ⟨#[]⟩, .string ⟨#[]⟩, .bool false] 24)) = w9 at N9 L9 S9 ⊢
      obtain ⟨nb, hnb⟩ : ∃ nb, nb = w6.heap.size := ⟨_, rfl⟩
      rw [← hnb] at N9 S9 G9 ⊢
      clear hnb
      refine hK.out _ _ ?_ (fun hH1013 => ?_)
      · (try dsimp only)
        first | (with_reducible exact L8.out) | (with_reducible exact L9.out) | (with_reducible exact L7.out) | (with_reducible exact L6.out) | (with_reducible exact FRR.out _ _ G9 L8.out)
      clear hK K hH1005
      refine wpAnyH_ready (rs := [5]) (by kernel_rfl) (by simp) ?_
      refine AllReadyH.cons rfl (fun K hK => ?_) ?_
      · go_simp
        go_at_call 70
        with_reducible refine (TL.out _).mono ?_
        rintro e w8 ⟨v7, rfl, o7, b7⟩
        first | (have L8 : Hid (XD w.heap.size [.string mc, .int .i64 ip, .int .i64 po, .int .i64 di, .int .i64 st, .int .i64 un, .int .i64 nx, .int .i64 wa, .string inn, .string out, .bool fin] (w.heap.size + 1) [.int .i64 sp, .int .i64 dp, .int .i64 sq, .int .i64 ac, .int .i64 fl, .int .i64 wi, .string da] (w.heap.size + 1 + 1) [.string ⟨#[]⟩, .int .i64 0, .int .i64 0, .int .i64 0, .int .i64 0, .int .i64 0, .int .i64 0, .int .i64 0, .string ⟨#[]⟩, .string ⟨#[]⟩, .bool false] w w8) := L9.out.below b7; have NX : Bx w8 nb [.string ⟨#[]⟩, .int .i64 0, .int .i64 0, .int .i64 0, .int .i64 0, .int .i64 0, .int .i64 0, .int .i64 0, .string ⟨#[]⟩, .string ⟨#[]⟩, .bool false] := N9.below b7; have NE : Hid (∀ k, v7.ownBlock = some k → k ≠ nb) := (fun k hk => by have h1 := (o7.lt k hk).1; have h2 := S9.out; omega); have O8 : Hid (OwnS sgG 7 27 w8 (w.heap.size + 3) v7 XL) := o7.lower (HS.out _ L9.out)) | (have L8 : Hid (XD w.heap.size [.string mc, .int .i64 ip, .int .i64 po, .int .i64 di, .int .i64 st, .int .i64 un, .int .i64 nx, .int .i64 wa, .string inn, .string out, .bool fin] (w.heap.size + 1) [.int .i64 sp, .int .i64 dp, .int .i64 sq, .int .i64 ac, .int .i64 fl, .int .i64 wi, .string da] (w.heap.size + 1 + 1) [.string ⟨#[]⟩, .int .i64 0, .int .i64 0, .int .i64 0, .int .i64 0, .int .i64 0, .int .i64 0, .int .i64 0, .string ⟨#[]⟩, .string ⟨#[]⟩, .bool false] w w8) := L6.out.below b7; have NX : Bx w8 nb [.string ⟨#[]⟩, .int .i64 0, .int .i64 0, .int .i64 0, .int .i64 0, .int .i64 0, .int .i64 0, .int .i64 0, .string ⟨#[]⟩, .string ⟨#[]⟩, .bool false] := N6.below b7; have NE : Hid (∀ k, v7.ownBlock = some k → k ≠ nb) := (fun k hk => by have h1 := (o7.lt k hk).1; have h2 := S6.out; omega); have O8 : Hid (OwnS sgG 7 27 w8 (w.heap.size + 3) v7 XL) := o7.lower (HS.out _ L6.out))
        have zz0 : w8.cell? ⟨nb, 0, none⟩ = some (.string ⟨#[]⟩) := NX.cell 0 rfl
        have hh0 : w8.frozen? ⟨nb, 0, none⟩ = false := NX.thaw 0 (by simp)
        have zz1 : w8.cell? ⟨nb, 1, none⟩ = some (.int .i64 0) := NX.cell 1 rfl
        have hh1 : w8.frozen? ⟨nb, 1, none⟩ = false := NX.thaw 1 (by simp)
        have zz2 : w8.cell? ⟨nb, 2, none⟩ = some (.int .i64 0) := NX.cell 2 rfl
        have hh2 : w8.frozen? ⟨nb, 2, none⟩ = false := NX.thaw 2 (by simp)
        have zz3 : w8.cell? ⟨nb, 3, none⟩ = some (.int .i64 0) := NX.cell 3 rfl
        have hh3 : w8.frozen? ⟨nb, 3, none⟩ = false := NX.thaw 3 (by simp)
        have zz4 : w8.cell? ⟨nb, 4, none⟩ = some (.int .i64 0) := NX.cell 4 rfl
        have hh4 : w8.frozen? ⟨nb, 4, none⟩ = false := NX.thaw 4 (by simp)
        have zz5 : w8.cell? ⟨nb, 5, none⟩ = some (.int .i64 0) := NX.cell 5 rfl
        have hh5 : w8.frozen? ⟨nb, 5, none⟩ = false := NX.thaw 5 (by simp)
        have zz6 : w8.cell? ⟨nb, 6, none⟩ = some (.int .i64 0) := NX.cell 6 rfl
        have hh6 : w8.frozen? ⟨nb, 6, none⟩ = false := NX.thaw 6 (by simp)
        have zz7 : w8.cell? ⟨nb, 7, none⟩ = some (.int .i64 0) := NX.cell 7 rfl
        have hh7 : w8.frozen? ⟨nb, 7, none⟩ = false := NX.thaw 7 (by simp)
        have zz8 : w8.cell? ⟨nb, 8, none⟩ = some (.string ⟨#[]⟩) := NX.cell 8 rfl
        have hh8 : w8.frozen? ⟨nb, 8, none⟩ = false := NX.thaw 8 (by simp)
        have zz9 : w8.cell? ⟨nb, 9, none⟩ = some (.string ⟨#[]⟩) := NX.cell 9 rfl
        have hh9 : w8.frozen? ⟨nb, 9, none⟩ = false := NX.thaw 9 (by simp)
        have zz10 : w8.cell? ⟨nb, 10, none⟩ = some (.bool false) := NX.cell 10 rfl
        have hh10 : w8.frozen? ⟨nb, 10, none⟩ = false := NX.thaw 10 (by simp)
        clear b7 o7
        refine hK.out _ _ ?_ (fun hH1014 => ?_)
        · (try dsimp only)
          first | (with_reducible exact L8.out) | (with_reducible exact L9.out) | (with_reducible exact L7.out) | (with_reducible exact L6.out) | (with_reducible exact FRR.out _ _ G9 L8.out)
        clear hK K hH1013
        refine wpAnyH_take (i := 6) (v := ?v1015) rfl (by kernel_rfl) (by kernel_rfl) (by kernel_rfl) (fun _ _ _ h => h) (Or.inl ⟨by rfl, ?hy1015⟩) (by assumption) ?rest1015
        case hy1015 => (intro w hSw; (try dsimp only at hSw); go_simp; (try with_reducible rfl))
        refine wpAnyH_take (i := 7) (v := ?v1016) rfl (by kernel_rfl) (by kernel_rfl) (by kernel_rfl) (fun _ _ _ h => h) (Or.inl ⟨by rfl, ?hy1016⟩) (by assumption) ?rest1016
        case hy1016 => (intro w hSw; (try dsimp only at hSw); go_simp; (try with_reducible rfl))
        refine wpAnyH_take (i := 8) (v := ?v1017) rfl (by kernel_rfl) (by kernel_rfl) (by kernel_rfl) (fun _ _ _ h => h) (Or.inl ⟨by rfl, ?hy1017⟩) (by assumption) ?rest1017
        case hy1017 => (intro w hSw; (try dsimp only at hSw); go_simp; (try with_reducible rfl))
        refine wpAnyH_ready (rs := [10]) (by kernel_rfl) (by simp) ?_
        refine AllReadyH.cons rfl (fun K hK => ?_) ?_
        · go_simp
          refine hK.out _ _ ?_ (fun hH1018 => ?_)
          · (try dsimp only)
            first | (with_reducible exact L8.out) | (with_reducible exact L9.out) | (with_reducible exact L7.out) | (with_reducible exact L6.out) | (with_reducible exact FRR.out _ _ G9 L8.out)
          clear hK K hH1014
          refine wpAnyH_take (i := 11) (v := ?v1019) rfl (by kernel_rfl) (by kernel_rfl) (by kernel_rfl) (fun _ _ _ h => h) (Or.inl ⟨by rfl, ?hy1019⟩) (by assumption) ?rest1019
          case hy1019 => (intro w hSw; (try dsimp only at hSw); go_simp; (try with_reducible rfl))
          refine wpAnyH_done (by kernel_rfl) ?_ _
          have FZ : Hid (Bx (((((((((((w8.setCell ⟨nb, 0, none⟩ (.string xm)).setCell ⟨nb, 1, none⟩ (.int .i64 xi)).setCell ⟨nb, 2, none⟩ (.int .i64 xp)).setCell ⟨nb, 3, none⟩ (.int .i64 xd)).setCell ⟨nb, 4, none⟩ (.int .i64 xs)).setCell ⟨nb, 5, none⟩ (.int .i64 xu)).setCell ⟨nb, 6, none⟩ (.int .i64 xn)).setCell ⟨nb, 7, none⟩ (.int .i64 xw)).setCell ⟨nb, 8, none⟩ (.string xI)).setCell ⟨nb, 9, none⟩ (.string xO)).setCell ⟨nb, 10, none⟩ (.bool xF)) nb [.string xm, .int .i64 xi, .int .i64 xp, .int .i64 xd, .int .i64 xs, .int .i64 xu, .int .i64 xn, .int .i64 xw, .string xI, .string xO, .bool xF] ∧ XD w.heap.size [.string mc, .int .i64 ip, .int .i64 po, .int .i64 di, .int .i64 st, .int .i64 un, .int .i64 nx, .int .i64 wa, .string inn, .string out, .bool fin] (w.heap.size + 1) [.int .i64 sp, .int .i64 dp, .int .i64 sq, .int .i64 ac, .int .i64 fl, .int .i64 wi, .string da] (w.heap.size + 1 + 1) [.string ⟨#[]⟩, .int .i64 0, .int .i64 0, .int .i64 0, .int .i64 0, .int .i64 0, .int .i64 0, .int .i64 0, .string ⟨#[]⟩, .string ⟨#[]⟩, .bool false] w (((((((((((w8.setCell ⟨nb, 0, none⟩ (.string xm)).setCell ⟨nb, 1, none⟩ (.int .i64 xi)).setCell ⟨nb, 2, none⟩ (.int .i64 xp)).setCell ⟨nb, 3, none⟩ (.int .i64 xd)).setCell ⟨nb, 4, none⟩ (.int .i64 xs)).setCell ⟨nb, 5, none⟩ (.int .i64 xu)).setCell ⟨nb, 6, none⟩ (.int .i64 xn)).setCell ⟨nb, 7, none⟩ (.int .i64 xw)).setCell ⟨nb, 8, none⟩ (.string xI)).setCell ⟨nb, 9, none⟩ (.string xO)).setCell ⟨nb, 10, none⟩ (.bool xF)) ∧ OwnS sgG 7 27 (((((((((((w8.setCell ⟨nb, 0, none⟩ (.string xm)).setCell ⟨nb, 1, none⟩ (.int .i64 xi)).setCell ⟨nb, 2, none⟩ (.int .i64 xp)).setCell ⟨nb, 3, none⟩ (.int .i64 xd)).setCell ⟨nb, 4, none⟩ (.int .i64 xs)).setCell ⟨nb, 5, none⟩ (.int .i64 xu)).setCell ⟨nb, 6, none⟩ (.int .i64 xn)).setCell ⟨nb, 7, none⟩ (.int .i64 xw)).setCell ⟨nb, 8, none⟩ (.string xI)).setCell ⟨nb, 9, none⟩ (.string xO)).setCell ⟨nb, 10, none⟩ (.bool xF)) (w.heap.size + 3) v7 XL) := ⟨(((((((((((NX.field 0 (.string xm)).field 1 (.int .i64 xi)).field 2 (.int .i64 xp)).field 3 (.int .i64 xd)).field 4 (.int .i64 xs)).field 5 (.int .i64 xu)).field 6 (.int .i64 xn)).field 7 (.int .i64 xw)).field 8 (.string xI)).field 9 (.string xO)).field 10 (.bool xF)), FRR.out _ _ G9 L8.out, (((((((((((O8.out.apart9 ⟨nb, 0, none⟩ (.string xm) NE.out).apart9 ⟨nb, 1, none⟩ (.int .i64 xi) NE.out).apart9 ⟨nb, 2, none⟩ (.int .i64 xp) NE.out).apart9 ⟨nb, 3, none⟩ (.int .i64 xd) NE.out).apart9 ⟨nb, 4, none⟩ (.int .i64 xs) NE.out).apart9 ⟨nb, 5, none⟩ (.int .i64 xu) NE.out).apart9 ⟨nb, 6, none⟩ (.int .i64 xn) NE.out).apart9 ⟨nb, 7, none⟩ (.int .i64 xw) NE.out).apart9 ⟨nb, 8, none⟩ (.string xI) NE.out).apart9 ⟨nb, 9, none⟩ (.string xO) NE.out).apart9 ⟨nb, 10, none⟩ (.bool xF) NE.out)⟩
          clear hH1018 zz0 hh0 zz1 hh1 zz2 hh2 zz3 hh3 zz4 hh4 zz5 hh5 zz6 hh6 zz7 hh7 zz8 hh8 zz9 hh9 zz10 hh10 NX L8 O8 FRR
          generalize (((((((((((w8.setCell ⟨nb, 0, none⟩ (.string xm)).setCell ⟨nb, 1, none⟩ (.int .i64 xi)).setCell ⟨nb, 2, none⟩ (.int .i64 xp)).setCell ⟨nb, 3, none⟩ (.int .i64 xd)).setCell ⟨nb, 4, none⟩ (.int .i64 xs)).setCell ⟨nb, 5, none⟩ (.int .i64 xu)).setCell ⟨nb, 6, none⟩ (.int .i64 xn)).setCell ⟨nb, 7, none⟩ (.int .i64 xw)).setCell ⟨nb, 8, none⟩ (.string xI)).setCell ⟨nb, 9, none⟩ (.string xO)).setCell ⟨nb, 10, none⟩ (.bool xF)) = wz at FZ ⊢
          have CZ : Bx wz nb [.string xm, .int .i64 xi, .int .i64 xp, .int .i64 xd, .int .i64 xs, .int .i64 xu, .int .i64 xn, .int .i64 xw, .string xI, .string xO, .bool xF] := FZ.out.1
          have RZ : Bx wz (w.heap.size + 1 + 1) [.string ⟨#[]⟩, .int .i64 0, .int .i64 0, .int .i64 0, .int .i64 0, .int .i64 0, .int .i64 0, .int .i64 0, .string ⟨#[]⟩, .string ⟨#[]⟩, .bool false] := FZ.out.2.1.r
          have BZ9 : Hid (Below w.heap.size w wz) := FZ.out.2.1.out
          have OZ : Hid (OwnS sgG 7 27 wz (w.heap.size + 3) v7 XL) := FZ.out.2.2
          go_wp2_with (first | (refine wpl_put rfl _ _ rfl (w.heap.size + 1 + 1) _ rfl rfl RZ rfl rfl rfl ?_; intro w5 hw5 R5; have B5 : Hid (Below w.heap.size w w5) := (by rw [hw5]; exact below_cells (by omega) _ _ _ BZ9.out); have O5 : Hid (OwnS sgG 7 27 w5 w.heap.size v7 XL) := (by rw [hw5]; exact (own_cells (by omega) _ _ _ OZ.out).lower (by omega)); clear hw5) | (refine wpl_get rfl _ rfl _ rfl (by assumption) rfl ?_) | fail)
          have xx0 : w5.cell? ⟨w.heap.size + 1 + 1, 0, none⟩ = some (.string xm) := R5.cell 0 rfl
          have xx1 : w5.cell? ⟨w.heap.size + 1 + 1, 1, none⟩ = some (.int .i64 xi) := R5.cell 1 rfl
          have xx2 : w5.cell? ⟨w.heap.size + 1 + 1, 2, none⟩ = some (.int .i64 xp) := R5.cell 2 rfl
          have xx3 : w5.cell? ⟨w.heap.size + 1 + 1, 3, none⟩ = some (.int .i64 xd) := R5.cell 3 rfl
          have xx4 : w5.cell? ⟨w.heap.size + 1 + 1, 4, none⟩ = some (.int .i64 xs) := R5.cell 4 rfl
          have xx5 : w5.cell? ⟨w.heap.size + 1 + 1, 5, none⟩ = some (.int .i64 xu) := R5.cell 5 rfl
          have xx6 : w5.cell? ⟨w.heap.size + 1 + 1, 6, none⟩ = some (.int .i64 xn) := R5.cell 6 rfl
          have xx7 : w5.cell? ⟨w.heap.size + 1 + 1, 7, none⟩ = some (.int .i64 xw) := R5.cell 7 rfl
          have xx8 : w5.cell? ⟨w.heap.size + 1 + 1, 8, none⟩ = some (.string xI) := R5.cell 8 rfl
          have xx9 : w5.cell? ⟨w.heap.size + 1 + 1, 9, none⟩ = some (.string xO) := R5.cell 9 rfl
          have xx10 : w5.cell? ⟨w.heap.size + 1 + 1, 10, none⟩ = some (.bool xF) := R5.cell 10 rfl
          (try simp only [Exit.inBlock, Exit.then])
          refine bodyPost_ret (v := .tuple #[.agg #[.string xm, .int .i64 xi, .int .i64 xp, .int .i64 xd, .int .i64 xs, .int .i64 xu, .int .i64 xn, .int .i64 xw, .string xI, .string xO, .bool xF], v7, .int .i64 0]) (by simp [results, Try.results8, go_sem, xx0, xx1, xx2, xx3, xx4, xx5, xx6, xx7, xx8, xx9, xx10]; try rfl) rfl ?_
          exact ⟨_, rfl, O5.out, B5.out⟩
        exact AllReadyH.nil
      exact AllReadyH.nil
    exact AllReadyH.nil
  refine AllReadyH.cons rfl (fun K hK => ?_) ?_
  · go_simp
    have N9 : Bx (w2.alloc (.cells #[.string ⟨#[]⟩, .int .i64 0, .int .i64 0, .int .i64 0, .int .i64 0, .int .i64 0, .int .i64 0, .int .i64 0, .string ⟨#[]⟩, .string ⟨#[]⟩, .bool false] 24)).drew w2.heap.size [.string ⟨#[]⟩, .int .i64 0, .int .i64 0, .int .i64 0, .int .i64 0, .int .i64 0, .int .i64 0, .int .i64 0, .string ⟨#[]⟩, .string ⟨#[]⟩, .bool false] := (Bx.new w2 #[.string ⟨#[]⟩, .int .i64 0, .int .i64 0, .int .i64 0, .int .i64 0, .int .i64 0, .int .i64 0, .int .i64 0, .string ⟨#[]⟩, .string ⟨#[]⟩, .bool false] _).below ((Below.refl _ _).drew)
    have L9 : Hid (XD w.heap.size [.string mc, .int .i64 ip, .int .i64 po, .int .i64 di, .int .i64 st, .int .i64 un, .int .i64 nx, .int .i64 wa, .string inn, .string out, .bool fin] (w.heap.size + 1) [.int .i64 sp, .int .i64 dp, .int .i64 sq, .int .i64 ac, .int .i64 fl, .int .i64 wi, .string da] (w.heap.size + 1 + 1) [.string ⟨#[]⟩, .int .i64 0, .int .i64 0, .int .i64 0, .int .i64 0, .int .i64 0, .int .i64 0, .int .i64 0, .string ⟨#[]⟩, .string ⟨#[]⟩, .bool false] w (w2.alloc (.cells #[.string ⟨#[]⟩, .int .i64 0, .int .i64 0, .int .i64 0, .int .i64 0, .int .i64 0, .int .i64 0, .int .i64 0, .string ⟨#[]⟩, .string ⟨#[]⟩, .bool false] 24)).drew) := SS2.out.below (((Below.refl _ _).alloc (Nat.le_refl _) _).drew)
    have S9 : Hid (w2.heap.size < (w2.alloc (.cells #[.string ⟨#[]⟩, .int .i64 0, .int .i64 0, .int .i64 0, .int .i64 0, .int .i64 0, .int .i64 0, .int .i64 0, .string ⟨#[]⟩, .string ⟨#[]⟩, .bool false] 24)).drew.heap.size) := by show _ < _; simp
    have G9 : w.heap.size + 3 ≤ w2.heap.size := H2
    generalize (w2.alloc (.cells #[.string ⟨#[]⟩, .int .i64 0, .int .i64 0, .int .i64 0, .int .i64 0, .int .i64 0, .int .i64 0, .int .i64 0, .string ⟨#[]⟩, .string ⟨#[]⟩, .bool false] 24)).drew = w9 at N9 L9 S9 ⊢
    obtain ⟨nb, hnb⟩ : ∃ nb, nb = w2.heap.size := ⟨_, rfl⟩
    rw [← hnb] at N9 S9 G9 ⊢
    clear hnb
    refine hK.out _ _ ?_ (fun hH1020 => ?_)
    · (try dsimp only)
      first | (with_reducible exact L8.out) | (with_reducible exact L9.out) | (with_reducible exact L7.out) | (with_reducible exact L6.out) | (with_reducible exact FRR.out _ _ G9 L8.out)
    clear hK K hH0
    refine wpAnyH_ready (rs := [2]) (by kernel_rfl) (by simp) ?_
    refine AllReadyH.cons rfl (fun K hK => ?_) ?_
    · go_simp
      go_at_call 34
      with_reducible refine (TC.out _).mono ?_
      rintro e w6 ⟨rfl, hw6⟩
      have b6 : Below w9.heap.size w9 w6 := by rw [hw6]; exact Below.refl _ _
      clear hw6
      have L6 : Hid (XD w.heap.size [.string mc, .int .i64 ip, .int .i64 po, .int .i64 di, .int .i64 st, .int .i64 un, .int .i64 nx, .int .i64 wa, .string inn, .string out, .bool fin] (w.heap.size + 1) [.int .i64 sp, .int .i64 dp, .int .i64 sq, .int .i64 ac, .int .i64 fl, .int .i64 wi, .string da] (w.heap.size + 1 + 1) [.string ⟨#[]⟩, .int .i64 0, .int .i64 0, .int .i64 0, .int .i64 0, .int .i64 0, .int .i64 0, .int .i64 0, .string ⟨#[]⟩, .string ⟨#[]⟩, .bool false] w w6) := L9.out.below b6
      have N6 : Bx w6 nb [.string ⟨#[]⟩, .int .i64 0, .int .i64 0, .int .i64 0, .int .i64 0, .int .i64 0, .int .i64 0, .int .i64 0, .string ⟨#[]⟩, .string ⟨#[]⟩, .bool false] := N9.below b6
      have S6 : Hid (nb < w6.heap.size) := Nat.lt_of_lt_of_le S9.out b6.size
      clear N9 L9 S9
      clear b6
      refine hK.out _ _ ?_ (fun hH1021 => ?_)
      · (try dsimp only)
        first | (with_reducible exact L8.out) | (with_reducible exact L9.out) | (with_reducible exact L7.out) | (with_reducible exact L6.out) | (with_reducible exact FRR.out _ _ G9 L8.out)
      clear hK K hH1020
      refine wpAnyH_ready (rs := [5]) (by kernel_rfl) (by simp) ?_
      refine AllReadyH.cons rfl (fun K hK => ?_) ?_
      · go_simp
        go_at_call 70
        with_reducible refine (TL.out _).mono ?_
        rintro e w8 ⟨v7, rfl, o7, b7⟩
        first | (have L8 : Hid (XD w.heap.size [.string mc, .int .i64 ip, .int .i64 po, .int .i64 di, .int .i64 st, .int .i64 un, .int .i64 nx, .int .i64 wa, .string inn, .string out, .bool fin] (w.heap.size + 1) [.int .i64 sp, .int .i64 dp, .int .i64 sq, .int .i64 ac, .int .i64 fl, .int .i64 wi, .string da] (w.heap.size + 1 + 1) [.string ⟨#[]⟩, .int .i64 0, .int .i64 0, .int .i64 0, .int .i64 0, .int .i64 0, .int .i64 0, .int .i64 0, .string ⟨#[]⟩, .string ⟨#[]⟩, .bool false] w w8) := L9.out.below b7; have NX : Bx w8 nb [.string ⟨#[]⟩, .int .i64 0, .int .i64 0, .int .i64 0, .int .i64 0, .int .i64 0, .int .i64 0, .int .i64 0, .string ⟨#[]⟩, .string ⟨#[]⟩, .bool false] := N9.below b7; have NE : Hid (∀ k, v7.ownBlock = some k → k ≠ nb) := (fun k hk => by have h1 := (o7.lt k hk).1; have h2 := S9.out; omega); have O8 : Hid (OwnS sgG 7 27 w8 (w.heap.size + 3) v7 XL) := o7.lower (HS.out _ L9.out)) | (have L8 : Hid (XD w.heap.size [.string mc, .int .i64 ip, .int .i64 po, .int .i64 di, .int .i64 st, .int .i64 un, .int .i64 nx, .int .i64 wa, .string inn, .string out, .bool fin] (w.heap.size + 1) [.int .i64 sp, .int .i64 dp, .int .i64 sq, .int .i64 ac, .int .i64 fl, .int .i64 wi, .string da] (w.heap.size + 1 + 1) [.string ⟨#[]⟩, .int .i64 0, .int .i64 0, .int .i64 0, .int .i64 0, .int .i64 0, .int .i64 0, .int .i64 0, .string ⟨#[]⟩, .string ⟨#[]⟩, .bool false] w w8) := L6.out.below b7; have NX : Bx w8 nb [.string ⟨#[]⟩, .int .i64 0, .int .i64 0, .int .i64 0, .int .i64 0, .int .i64 0, .int .i64 0, .int .i64 0, .string ⟨#[]⟩, .string ⟨#[]⟩, .bool false] := N6.below b7; have NE : Hid (∀ k, v7.ownBlock = some k → k ≠ nb) := (fun k hk => by have h1 := (o7.lt k hk).1; have h2 := S6.out; omega); have O8 : Hid (OwnS sgG 7 27 w8 (w.heap.size + 3) v7 XL) := o7.lower (HS.out _ L6.out))
        have zz0 : w8.cell? ⟨nb, 0, none⟩ = some (.string ⟨#[]⟩) := NX.cell 0 rfl
        have hh0 : w8.frozen? ⟨nb, 0, none⟩ = false := NX.thaw 0 (by simp)
        have zz1 : w8.cell? ⟨nb, 1, none⟩ = some (.int .i64 0) := NX.cell 1 rfl
        have hh1 : w8.frozen? ⟨nb, 1, none⟩ = false := NX.thaw 1 (by simp)
        have zz2 : w8.cell? ⟨nb, 2, none⟩ = some (.int .i64 0) := NX.cell 2 rfl
        have hh2 : w8.frozen? ⟨nb, 2, none⟩ = false := NX.thaw 2 (by simp)
        have zz3 : w8.cell? ⟨nb, 3, none⟩ = some (.int .i64 0) := NX.cell 3 rfl
        have hh3 : w8.frozen? ⟨nb, 3, none⟩ = false := NX.thaw 3 (by simp)
        have zz4 : w8.cell? ⟨nb, 4, none⟩ = some (.int .i64 0) := NX.cell 4 rfl
        have hh4 : w8.frozen? ⟨nb, 4, none⟩ = false := NX.thaw 4 (by simp)
        have zz5 : w8.cell? ⟨nb, 5, none⟩ = some (.int .i64 0) := NX.cell 5 rfl
        have hh5 : w8.frozen? ⟨nb, 5, none⟩ = false := NX.thaw 5 (by simp)
        have zz6 : w8.cell? ⟨nb, 6, none⟩ = some (.int .i64 0) := NX.cell 6 rfl
        have hh6 : w8.frozen? ⟨nb, 6, none⟩ = false := NX.thaw 6 (by simp)
        have zz7 : w8.cell? ⟨nb, 7, none⟩ = some (.int .i64 0) := NX.cell 7 rfl
        have hh7 : w8.frozen? ⟨nb, 7, none⟩ = false := NX.thaw 7 (by simp)
        have zz8 : w8.cell? ⟨nb, 8, none⟩ = some (.string ⟨#[]⟩) := NX.cell 8 rfl
        have hh8 : w8.frozen? ⟨nb, 8, none⟩ = false := NX.thaw 8 (by simp)
        have zz9 : w8.cell? ⟨nb, 9, none⟩ = some (.string ⟨#[]⟩) := NX.cell 9 rfl
        have hh9 : w8.frozen? ⟨nb, 9, none⟩ = false := NX.thaw 9 (by simp)
        have zz10 : w8.cell? ⟨nb, 10, none⟩ = some (.bool false) := NX.cell 10 rfl
        have hh10 : w8.frozen? ⟨nb, 10, none⟩ = false := NX.thaw 10 (by simp)
        clear b7 o7
        refine hK.out _ _ ?_ (fun hH1022 => ?_)
        · (try dsimp only)
          first | (with_reducible exact L8.out) | (with_reducible exact L9.out) | (with_reducible exact L7.out) | (with_reducible exact L6.out) | (with_reducible exact FRR.out _ _ G9 L8.out)
        clear hK K hH1021
        refine wpAnyH_take (i := 6) (v := ?v1023) rfl (by kernel_rfl) (by kernel_rfl) (by kernel_rfl) (fun _ _ _ h => h) (Or.inl ⟨by rfl, ?hy1023⟩) (by assumption) ?rest1023
        case hy1023 => (intro w hSw; (try dsimp only at hSw); go_simp; (try with_reducible rfl))
        refine wpAnyH_take (i := 7) (v := ?v1024) rfl (by kernel_rfl) (by kernel_rfl) (by kernel_rfl) (fun _ _ _ h => h) (Or.inl ⟨by rfl, ?hy1024⟩) (by assumption) ?rest1024
        case hy1024 => (intro w hSw; (try dsimp only at hSw); go_simp; (try with_reducible rfl))
        refine wpAnyH_take (i := 8) (v := ?v1025) rfl (by kernel_rfl) (by kernel_rfl) (by kernel_rfl) (fun _ _ _ h => h) (Or.inl ⟨by rfl, ?hy1025⟩) (by assumption) ?rest1025
        case hy1025 => (intro w hSw; (try dsimp only at hSw); go_simp; (try with_reducible rfl))
        refine wpAnyH_ready (rs := [10]) (by kernel_rfl) (by simp) ?_
        refine AllReadyH.cons rfl (fun K hK => ?_) ?_
        · go_simp
          refine hK.out _ _ ?_ (fun hH1026 => ?_)
          · (try dsimp only)
            first | (with_reducible exact L8.out) | (with_reducible exact L9.out) | (with_reducible exact L7.out) | (with_reducible exact L6.out) | (with_reducible exact FRR.out _ _ G9 L8.out)
          clear hK K hH1022
          refine wpAnyH_take (i := 11) (v := ?v1027) rfl (by kernel_rfl) (by kernel_rfl) (by kernel_rfl) (fun _ _ _ h => h) (Or.inl ⟨by rfl, ?hy1027⟩) (by assumption) ?rest1027
          case hy1027 => (intro w hSw; (try dsimp only at hSw); go_simp; (try with_reducible rfl))
          refine wpAnyH_done (by kernel_rfl) ?_ _
          have FZ : Hid (Bx (((((((((((w8.setCell ⟨nb, 0, none⟩ (.string xm)).setCell ⟨nb, 1, none⟩ (.int .i64 xi)).setCell ⟨nb, 2, none⟩ (.int .i64 xp)).setCell ⟨nb, 3, none⟩ (.int .i64 xd)).setCell ⟨nb, 4, none⟩ (.int .i64 xs)).setCell ⟨nb, 5, none⟩ (.int .i64 xu)).setCell ⟨nb, 6, none⟩ (.int .i64 xn)).setCell ⟨nb, 7, none⟩ (.int .i64 xw)).setCell ⟨nb, 8, none⟩ (.string xI)).setCell ⟨nb, 9, none⟩ (.string xO)).setCell ⟨nb, 10, none⟩ (.bool xF)) nb [.string xm, .int .i64 xi, .int .i64 xp, .int .i64 xd, .int .i64 xs, .int .i64 xu, .int .i64 xn, .int .i64 xw, .string xI, .string xO, .bool xF] ∧ XD w.heap.size [.string mc, .int .i64 ip, .int .i64 po, .int .i64 di, .int .i64 st, .int .i64 un, .int .i64 nx, .int .i64 wa, .string inn, .string out, .bool fin] (w.heap.size + 1) [.int .i64 sp, .int .i64 dp, .int .i64 sq, .int .i64 ac, .int .i64 fl, .int .i64 wi, .string da] (w.heap.size + 1 + 1) [.string ⟨#[]⟩, .int .i64 0, .int .i64 0, .int .i64 0, .int .i64 0, .int .i64 0, .int .i64 0, .int .i64 0, .string ⟨#[]⟩, .string ⟨#[]⟩, .bool false] w (((((((((((w8.setCell ⟨nb, 0, none⟩ (.string xm)).setCell ⟨nb, 1, none⟩ (.int .i64 xi)).setCell ⟨nb, 2, none⟩ (.int .i64 xp)).setCell ⟨nb, 3, none⟩ (.int .i64 xd)).setCell ⟨nb, 4, none⟩ (.int .i64 xs)).setCell ⟨nb, 5, none⟩ (.int .i64 xu)).setCell ⟨nb, 6, none⟩ (.int .i64 xn)).setCell ⟨nb, 7, none⟩ (.int .i64 xw)).setCell ⟨nb, 8, none⟩ (.string xI)).setCell ⟨nb, 9, none⟩ (.string xO)).setCell ⟨nb, 10, none⟩ (.bool xF)) ∧ OwnS sgG 7 27 (((((((((((w8.setCell ⟨nb, 0, none⟩ (.string xm)).setCell ⟨nb, 1, none⟩ (.int .i64 xi)).setCell ⟨nb, 2, none⟩ (.int .i64 xp)).setCell ⟨nb, 3, none⟩ (.int .i64 xd)).setCell ⟨nb, 4, none⟩ (.int .i64 xs)).setCell ⟨nb, 5, none⟩ (.int .i64 xu)).setCell ⟨nb, 6, none⟩ (.int .i64 xn)).setCell ⟨nb, 7, none⟩ (.int .i64 xw)).setCell ⟨nb, 8, none⟩ (.string xI)).setCell ⟨nb, 9, none⟩ (.string xO)).setCell ⟨nb, 10, none⟩ (.bool xF)) (w.heap.size + 3) v7 XL) := ⟨(((((((((((NX.field 0 (.string xm)).field 1 (.int .i64 xi)).field 2 (.int .i64 xp)).field 3 (.int .i64 xd)).field 4 (.int .i64 xs)).field 5 (.int .i64 xu)).field 6 (.int .i64 xn)).field 7 (.int .i64 xw)).field 8 (.string xI)).field 9 (.string xO)).field 10 (.bool xF)), FRR.out _ _ G9 L8.out, (((((((((((O8.out.apart9 ⟨nb, 0, none⟩ (.string xm) NE.out).apart9 ⟨nb, 1, none⟩ (.int .i64 xi) NE.out).apart9 ⟨nb, 2, none⟩ (.int .i64 xp) NE.out).apart9 ⟨nb, 3, none⟩ (.int .i64 xd) NE.out).apart9 ⟨nb, 4, none⟩ (.int .i64 xs) NE.out).apart9 ⟨nb, 5, none⟩ (.int .i64 xu) NE.out).apart9 ⟨nb, 6, none⟩ (.int .i64 xn) NE.out).apart9 ⟨nb, 7, none⟩ (.int .i64 xw) NE.out).apart9 ⟨nb, 8, none⟩ (.string xI) NE.out).apart9 ⟨nb, 9, none⟩ (.string xO) NE.out).apart9 ⟨nb, 10, none⟩ (.bool xF) NE.out)⟩
          clear hH1026 zz0 hh0 zz1 hh1 zz2 hh2 zz3 hh3 zz4 hh4 zz5 hh5 zz6 hh6 zz7 hh7 zz8 hh8 zz9 hh9 zz10 hh10 NX L8 O8 FRR
          generalize (((((((((((w8.setCell ⟨nb, 0, none⟩ (.string xm)).setCell ⟨nb, 1, none⟩ (.int .i64 xi)).setCell ⟨nb, 2, none⟩ (.int .i64 xp)).setCell ⟨nb, 3, none⟩ (.int .i64 xd)).setCell ⟨nb, 4, none⟩ (.int .i64 xs)).setCell ⟨nb, 5, none⟩ (.int .i64 xu)).setCell ⟨nb, 6, none⟩ (.int .i64 xn)).setCell ⟨nb, 7, none⟩ (.int .i64 xw)).setCell ⟨nb, 8, none⟩ (.string xI)).setCell ⟨nb, 9, none⟩ (.string xO)).setCell ⟨nb, 10, none⟩ (.bool xF)) = wz at FZ ⊢
          have CZ : Bx wz nb [.string xm, .int .i64 xi, .int .i64 xp, .int .i64 xd, .int .i64 xs, .int .i64 xu, .int .i64 xn, .int .i64 xw, .string xI, .string xO, .bool xF] := FZ.out.1
          have RZ : Bx wz (w.heap.size + 1 + 1) [.string ⟨#[]⟩, .int .i64 0, .int .i64 0, .int .i64 0, .int .i64 0, .int .i64 0, .int .i64 0, .int .i64 0, .string ⟨#[]⟩, .string ⟨#[]⟩, .bool false] := FZ.out.2.1.r
          have BZ9 : Hid (Below w.heap.size w wz) := FZ.out.2.1.out
          have OZ : Hid (OwnS sgG 7 27 wz (w.heap.size + 3) v7 XL) := FZ.out.2.2
          go_wp2_with (first | (refine wpl_put rfl _ _ rfl (w.heap.size + 1 + 1) _ rfl rfl RZ rfl rfl rfl ?_; intro w5 hw5 R5; have B5 : Hid (Below w.heap.size w w5) := (by rw [hw5]; exact below_cells (by omega) _ _ _ BZ9.out); have O5 : Hid (OwnS sgG 7 27 w5 w.heap.size v7 XL) := (by rw [hw5]; exact (own_cells (by omega) _ _ _ OZ.out).lower (by omega)); clear hw5) | (refine wpl_get rfl _ rfl _ rfl (by assumption) rfl ?_) | fail)
          have xx0 : w5.cell? ⟨w.heap.size + 1 + 1, 0, none⟩ = some (.string xm) := R5.cell 0 rfl
          have xx1 : w5.cell? ⟨w.heap.size + 1 + 1, 1, none⟩ = some (.int .i64 xi) := R5.cell 1 rfl
          have xx2 : w5.cell? ⟨w.heap.size + 1 + 1, 2, none⟩ = some (.int .i64 xp) := R5.cell 2 rfl
          have xx3 : w5.cell? ⟨w.heap.size + 1 + 1, 3, none⟩ = some (.int .i64 xd) := R5.cell 3 rfl
          have xx4 : w5.cell? ⟨w.heap.size + 1 + 1, 4, none⟩ = some (.int .i64 xs) := R5.cell 4 rfl
          have xx5 : w5.cell? ⟨w.heap.size + 1 + 1, 5, none⟩ = some (.int .i64 xu) := R5.cell 5 rfl
          have xx6 : w5.cell? ⟨w.heap.size + 1 + 1, 6, none⟩ = some (.int .i64 xn) := R5.cell 6 rfl
          have xx7 : w5.cell? ⟨w.heap.size + 1 + 1, 7, none⟩ = some (.int .i64 xw) := R5.cell 7 rfl
          have xx8 : w5.cell? ⟨w.heap.size + 1 + 1, 8, none⟩ = some (.string xI) := R5.cell 8 rfl
          have xx9 : w5.cell? ⟨w.heap.size + 1 + 1, 9, none⟩ = some (.string xO) := R5.cell 9 rfl
          have xx10 : w5.cell? ⟨w.heap.size + 1 + 1, 10, none⟩ = some (.bool xF) := R5.cell 10 rfl
          (try simp only [Exit.inBlock, Exit.then])
          refine bodyPost_ret (v := .tuple #[.agg #[.string xm, .int .i64 xi, .int .i64 xp, .int .i64 xd, .int .i64 xs, .int .i64 xu, .int .i64 xn, .int .i64 xw, .string xI, .string xO, .bool xF], v7, .int .i64 0]) (by simp [results, Try.results8, go_sem, xx0, xx1, xx2, xx3, xx4, xx5, xx6, xx7, xx8, xx9, xx10]; try rfl) rfl ?_
          exact ⟨_, rfl, O5.out, B5.out⟩
        exact AllReadyH.nil
      exact AllReadyH.nil
    exact AllReadyH.nil
  exact AllReadyH.nil
end Go.Proofs.Ytfgghffgfefgpaa

namespace Go.Proofs.Ytfgghffgfefgpaa
open Go.RowKit Go.PlainAid Go.Proofs.Ytfgghffgfefgpaa.Bt Go.Sort
set_option linter.unusedVariables false
set_option maxRecDepth 20000
set_option maxHeartbeats 4000000 in
theorem livS_all (mc : ByteArray) (ip po di st un nx wa : Int) (inn out : ByteArray) (fin : Bool) (sp dp sq ac fl wi : Int) (da : ByteArray) (hok : okB ⟨mc, ip, po, di, st, un, nx, wa, inn, out, fin⟩ = true) (hsg : sgB ⟨sp, dp, sq, ac, fl, wi, da⟩ = true) (hst : st = 1) (p2 p3 : Nat) (w : World) (lt2 : p2 < w.heap.size) (lt3 : p3 < w.heap.size) (hp2 : w.cell? ⟨p2, 0, none⟩ = some (.func (.func 66) #[] #[])) (hp3 : w.cell? ⟨p3, 0, none⟩ = some (.func (.func 67) #[] #[])) :
    Calls Try.prog 82 #[.agg #[.string mc, .int .i64 ip, .int .i64 po, .int .i64 di, .int .i64 st, .int .i64 un, .int .i64 nx, .int .i64 wa, .string inn, .string out, .bool fin], .agg #[.int .i64 sp, .int .i64 dp, .int .i64 sq, .int .i64 ac, .int .i64 fl, .int .i64 wi, .string da], .pointer (some ⟨p2, 0, none⟩), .pointer (some ⟨p3, 0, none⟩)] w fun e w' => ∃ v, e = .returned (.tuple #[cvA (tkV ⟨mc, ip, po, di, st, un, nx, wa, inn, out, fin⟩ ⟨sp, dp, sq, ac, fl, wi, da⟩), v]) ∧ OwnS sgG 7 27 w' w.heap.size v (tkL ⟨mc, ip, po, di, st, un, nx, wa, inn, out, fin⟩ ⟨sp, dp, sq, ac, fl, wi, da⟩) ∧ Below w.heap.size w w' := by
  have hn := nuB_bd (okB_says hok).1
  have hx := txB_bd (okB_says hok).2
  have hg := sgB_bd hsg
  dsimp only at hn hx hg
  have h4 : st ≠ 4 := by omega
  cases f4 : tfB ⟨sp, dp, sq, ac, fl, wi, da⟩ 4 with
  | true =>
    obtain ⟨X, hX⟩ : ∃ X, brV ⟨mc, ip, po, di, st, un, nx, wa, inn, out, fin⟩ ⟨sp, dp, sq, ac, fl, wi, da⟩ = X := ⟨_, rfl⟩
    have E : tkV ⟨mc, ip, po, di, st, un, nx, wa, inn, out, fin⟩ ⟨sp, dp, sq, ac, fl, wi, da⟩ = X := by unfold tkV; dsimp only; rw [if_neg h4, if_pos f4, hX]
    have EL : tkL ⟨mc, ip, po, di, st, un, nx, wa, inn, out, fin⟩ ⟨sp, dp, sq, ac, fl, wi, da⟩ = [] := by unfold tkL; dsimp only; rw [if_neg h4, if_pos f4]
    rw [E, EL]
    clear E EL
    obtain ⟨xm, xi, xp, xd, xs, xu, xn, xw, xI, xO, xF⟩ := X
    exact livSg1_any mc ip po di st un nx wa inn out fin sp dp sq ac fl wi da p2 p3 w lt2 lt3 hp2 hp3 xm xi xp xd xs xu xn xw xI xO xF hX f4
  | false =>
  cases f2 : tfB ⟨sp, dp, sq, ac, fl, wi, da⟩ 2 with
  | true =>
    by_cases q : sqN (sq + 1) = wa
    · have B : syS ⟨mc, ip, po, di, st, un, nx, wa, inn, out, fin⟩ ⟨sp, dp, sq, ac, fl, wi, da⟩ = ⟨80, po, un, wa, 18, 1000, ⟨#[]⟩⟩ := by unfold syS; dsimp only; rw [if_pos ⟨hst, q⟩]; rfl
      have E : tkV ⟨mc, ip, po, di, st, un, nx, wa, inn, out, fin⟩ ⟨sp, dp, sq, ac, fl, wi, da⟩ = ⟨mc, ip, po, di, st, un, nx, wa, inn, out, fin⟩ := by unfold tkV; dsimp only; rw [if_neg h4, if_neg (by simp [f4]), if_pos f2]
      have EL : tkL ⟨mc, ip, po, di, st, un, nx, wa, inn, out, fin⟩ ⟨sp, dp, sq, ac, fl, wi, da⟩ = [⟨80, po, un, wa, 18, 1000, ⟨#[]⟩⟩] := by unfold tkL; dsimp only; rw [if_neg h4, if_neg (by simp [f4]), if_pos f2, B]
      rw [E, EL]
      exact livSg2_any mc ip po di st un nx wa inn out fin sp dp sq ac fl wi da p2 p3 w lt2 lt3 hp2 hp3 f4 f2 hg.1 q
    · have B : syS ⟨mc, ip, po, di, st, un, nx, wa, inn, out, fin⟩ ⟨sp, dp, sq, ac, fl, wi, da⟩ = ⟨80, po, nx, wa, 16, 1000, ⟨#[]⟩⟩ := by unfold syS; dsimp only; rw [if_neg (fun h => q h.2)]; rfl
      have E : tkV ⟨mc, ip, po, di, st, un, nx, wa, inn, out, fin⟩ ⟨sp, dp, sq, ac, fl, wi, da⟩ = ⟨mc, ip, po, di, st, un, nx, wa, inn, out, fin⟩ := by unfold tkV; dsimp only; rw [if_neg h4, if_neg (by simp [f4]), if_pos f2]
      have EL : tkL ⟨mc, ip, po, di, st, un, nx, wa, inn, out, fin⟩ ⟨sp, dp, sq, ac, fl, wi, da⟩ = [⟨80, po, nx, wa, 16, 1000, ⟨#[]⟩⟩] := by unfold tkL; dsimp only; rw [if_neg h4, if_neg (by simp [f4]), if_pos f2, B]
      rw [E, EL]
      exact livSa2_any mc ip po di st un nx wa inn out fin sp dp sq ac fl wi da p2 p3 w lt2 lt3 hp2 hp3 f4 f2 hg.1 q
  | false =>
  cases f16 : tfB ⟨sp, dp, sq, ac, fl, wi, da⟩ 16 with
  | false =>
    have E : tkV ⟨mc, ip, po, di, st, un, nx, wa, inn, out, fin⟩ ⟨sp, dp, sq, ac, fl, wi, da⟩ = ⟨mc, ip, po, di, st, un, nx, wa, inn, out, fin⟩ := by unfold tkV; dsimp only; rw [if_neg h4, if_neg (by simp [f4]), if_neg (by simp [f2]), if_pos f16]
    have EL : tkL ⟨mc, ip, po, di, st, un, nx, wa, inn, out, fin⟩ ⟨sp, dp, sq, ac, fl, wi, da⟩ = [] := by unfold tkL; dsimp only; rw [if_neg h4, if_neg (by simp [f4]), if_neg (by simp [f2]), if_pos f16]
    rw [E, EL]
    exact livSg3_any mc ip po di st un nx wa inn out fin sp dp sq ac fl wi da p2 p3 w lt2 lt3 hp2 hp3 f4 f2 f16
  | true =>
    obtain ⟨D, hD⟩ : ∃ D, akV ⟨mc, ip, po, di, st, un, nx, wa, inn, out, fin⟩ ac = D := ⟨_, rfl⟩
    have TA0 : ∀ w, Calls Try.prog 86 #[.agg #[.string mc, .int .i64 ip, .int .i64 po, .int .i64 di, .int .i64 st, .int .i64 un, .int .i64 nx, .int .i64 wa, .string inn, .string out, .bool fin], .agg #[.int .i64 sp, .int .i64 dp, .int .i64 sq, .int .i64 ac, .int .i64 fl, .int .i64 wi, .string da], .func (.func 67) #[] #[]] w fun e w' => e = .returned (cvA D) ∧ Below w.heap.size w w' := fun w => by rw [← hD]; exact ackS_any mc ip po di st un nx wa inn out fin sp dp sq ac fl wi da w hok hst hg.2.1
    have hkI : D.inn = inn := by rw [← hD]; exact (akV_keep _ _).1
    have hkW : D.wa = wa := by rw [← hD]; exact (akV_keep _ _).2
    have E : tkV ⟨mc, ip, po, di, st, un, nx, wa, inn, out, fin⟩ ⟨sp, dp, sq, ac, fl, wi, da⟩ = if tdN D ⟨sp, dp, sq, ac, fl, wi, da⟩ = true then D else tdV D ⟨sp, dp, sq, ac, fl, wi, da⟩ := by unfold tkV; dsimp only; rw [if_neg h4, if_neg (by simp [f4]), if_neg (by simp [f2]), if_neg (by simp [f16]), hD]
    have EL : tkL ⟨mc, ip, po, di, st, un, nx, wa, inn, out, fin⟩ ⟨sp, dp, sq, ac, fl, wi, da⟩ = if tdN D ⟨sp, dp, sq, ac, fl, wi, da⟩ = true then [] else [agS (tdV D ⟨sp, dp, sq, ac, fl, wi, da⟩)] := by unfold tkL; dsimp only; rw [if_neg h4, if_neg (by simp [f4]), if_neg (by simp [f2]), if_neg (by simp [f16]), hD]
    rw [E, EL]
    clear E EL hD
    obtain ⟨dm, di1, dp1, dd, ds, du, dn, dw, dI, dO, dF⟩ := D
    dsimp only at hkI hkW
    have TD0 : ∀ w, Calls Try.prog 85 #[.agg #[.string dm, .int .i64 di1, .int .i64 dp1, .int .i64 dd, .int .i64 ds, .int .i64 du, .int .i64 dn, .int .i64 dw, .string dI, .string dO, .bool dF], .agg #[.int .i64 sp, .int .i64 dp, .int .i64 sq, .int .i64 ac, .int .i64 fl, .int .i64 wi, .string da]] w fun e w' => ∃ v, e = .returned (.tuple #[cvA (if tdN ⟨dm, di1, dp1, dd, ds, du, dn, dw, dI, dO, dF⟩ ⟨sp, dp, sq, ac, fl, wi, da⟩ = true then ⟨dm, di1, dp1, dd, ds, du, dn, dw, dI, dO, dF⟩ else tdV ⟨dm, di1, dp1, dd, ds, du, dn, dw, dI, dO, dF⟩ ⟨sp, dp, sq, ac, fl, wi, da⟩), v]) ∧ OwnS sgG 7 27 w' w.heap.size v (if tdN ⟨dm, di1, dp1, dd, ds, du, dn, dw, dI, dO, dF⟩ ⟨sp, dp, sq, ac, fl, wi, da⟩ = true then [] else [agS (tdV ⟨dm, di1, dp1, dd, ds, du, dn, dw, dI, dO, dF⟩ ⟨sp, dp, sq, ac, fl, wi, da⟩)]) ∧ Below w.heap.size w w' := fun w => takeData_any dm di1 dp1 dd ds du dn dw dI dO dF sp dp sq ac fl wi da w (by rw [hkI]; exact hx.2.1) hg.2.2 (by rw [hkW]; exact hn.2.2.2.2.2.2)
    generalize (if tdN ⟨dm, di1, dp1, dd, ds, du, dn, dw, dI, dO, dF⟩ ⟨sp, dp, sq, ac, fl, wi, da⟩ = true then ([] : List SegV) else [agS (tdV ⟨dm, di1, dp1, dd, ds, du, dn, dw, dI, dO, dF⟩ ⟨sp, dp, sq, ac, fl, wi, da⟩)]) = XL at TD0 ⊢
    generalize (if tdN ⟨dm, di1, dp1, dd, ds, du, dn, dw, dI, dO, dF⟩ ⟨sp, dp, sq, ac, fl, wi, da⟩ = true then ⟨dm, di1, dp1, dd, ds, du, dn, dw, dI, dO, dF⟩ else tdV ⟨dm, di1, dp1, dd, ds, du, dn, dw, dI, dO, dF⟩ ⟨sp, dp, sq, ac, fl, wi, da⟩) = X at TD0 ⊢
    obtain ⟨xm, xi, xp, xd, xs, xu, xn, xw, xI, xO, xF⟩ := X
    exact livSg4_any mc ip po di st un nx wa inn out fin sp dp sq ac fl wi da p2 p3 w lt2 lt3 hp2 hp3 dm di1 dp1 dd ds du dn dw dI dO dF xm xi xp xd xs xu xn xw xI xO xF XL TA0 TD0 f4 f2 f16
set_option maxHeartbeats 4000000 in
theorem livT_all (mc : ByteArray) (ip po di st un nx wa : Int) (inn out : ByteArray) (fin : Bool) (sp dp sq ac fl wi : Int) (da : ByteArray) (hok : okB ⟨mc, ip, po, di, st, un, nx, wa, inn, out, fin⟩ = true) (hsg : sgB ⟨sp, dp, sq, ac, fl, wi, da⟩ = true) (hst1 : st ≠ 1) (hst4 : st ≠ 4) (p2 p3 : Nat) (w : World) (lt2 : p2 < w.heap.size) (lt3 : p3 < w.heap.size) (hp2 : w.cell? ⟨p2, 0, none⟩ = some (.func (.func 68) #[] #[])) (hp3 : w.cell? ⟨p3, 0, none⟩ = some (.func (.func 69) #[] #[])) :
    Calls Try.prog 82 #[.agg #[.string mc, .int .i64 ip, .int .i64 po, .int .i64 di, .int .i64 st, .int .i64 un, .int .i64 nx, .int .i64 wa, .string inn, .string out, .bool fin], .agg #[.int .i64 sp, .int .i64 dp, .int .i64 sq, .int .i64 ac, .int .i64 fl, .int .i64 wi, .string da], .pointer (some ⟨p2, 0, none⟩), .pointer (some ⟨p3, 0, none⟩)] w fun e w' => ∃ v, e = .returned (.tuple #[cvA (tkV ⟨mc, ip, po, di, st, un, nx, wa, inn, out, fin⟩ ⟨sp, dp, sq, ac, fl, wi, da⟩), v]) ∧ OwnS sgG 7 27 w' w.heap.size v (tkL ⟨mc, ip, po, di, st, un, nx, wa, inn, out, fin⟩ ⟨sp, dp, sq, ac, fl, wi, da⟩) ∧ Below w.heap.size w w' := by
  have hn := nuB_bd (okB_says hok).1
  have hx := txB_bd (okB_says hok).2
  have hg := sgB_bd hsg
  dsimp only at hn hx hg
  have h4 : st ≠ 4 := by omega
  cases f4 : tfB ⟨sp, dp, sq, ac, fl, wi, da⟩ 4 with
  | true =>
    obtain ⟨X, hX⟩ : ∃ X, brV ⟨mc, ip, po, di, st, un, nx, wa, inn, out, fin⟩ ⟨sp, dp, sq, ac, fl, wi, da⟩ = X := ⟨_, rfl⟩
    have E : tkV ⟨mc, ip, po, di, st, un, nx, wa, inn, out, fin⟩ ⟨sp, dp, sq, ac, fl, wi, da⟩ = X := by unfold tkV; dsimp only; rw [if_neg h4, if_pos f4, hX]
    have EL : tkL ⟨mc, ip, po, di, st, un, nx, wa, inn, out, fin⟩ ⟨sp, dp, sq, ac, fl, wi, da⟩ = [] := by unfold tkL; dsimp only; rw [if_neg h4, if_pos f4]
    rw [E, EL]
    clear E EL
    obtain ⟨xm, xi, xp, xd, xs, xu, xn, xw, xI, xO, xF⟩ := X
    exact livT1_any mc ip po di st un nx wa inn out fin sp dp sq ac fl wi da p2 p3 w lt2 lt3 hp2 hp3 xm xi xp xd xs xu xn xw xI xO xF hX f4
  | false =>
  cases f2 : tfB ⟨sp, dp, sq, ac, fl, wi, da⟩ 2 with
  | true =>
    have B : syS ⟨mc, ip, po, di, st, un, nx, wa, inn, out, fin⟩ ⟨sp, dp, sq, ac, fl, wi, da⟩ = ⟨80, po, nx, wa, 16, 1000, ⟨#[]⟩⟩ := by unfold syS; dsimp only; rw [if_neg (fun h => hst1 h.1)]; rfl
    have E : tkV ⟨mc, ip, po, di, st, un, nx, wa, inn, out, fin⟩ ⟨sp, dp, sq, ac, fl, wi, da⟩ = ⟨mc, ip, po, di, st, un, nx, wa, inn, out, fin⟩ := by unfold tkV; dsimp only; rw [if_neg h4, if_neg (by simp [f4]), if_pos f2]
    have EL : tkL ⟨mc, ip, po, di, st, un, nx, wa, inn, out, fin⟩ ⟨sp, dp, sq, ac, fl, wi, da⟩ = [⟨80, po, nx, wa, 16, 1000, ⟨#[]⟩⟩] := by unfold tkL; dsimp only; rw [if_neg h4, if_neg (by simp [f4]), if_pos f2, B]
    rw [E, EL]
    exact livT2_any mc ip po di st un nx wa inn out fin sp dp sq ac fl wi da p2 p3 w lt2 lt3 hp2 hp3 f4 f2
  | false =>
  cases f16 : tfB ⟨sp, dp, sq, ac, fl, wi, da⟩ 16 with
  | false =>
    have E : tkV ⟨mc, ip, po, di, st, un, nx, wa, inn, out, fin⟩ ⟨sp, dp, sq, ac, fl, wi, da⟩ = ⟨mc, ip, po, di, st, un, nx, wa, inn, out, fin⟩ := by unfold tkV; dsimp only; rw [if_neg h4, if_neg (by simp [f4]), if_neg (by simp [f2]), if_pos f16]
    have EL : tkL ⟨mc, ip, po, di, st, un, nx, wa, inn, out, fin⟩ ⟨sp, dp, sq, ac, fl, wi, da⟩ = [] := by unfold tkL; dsimp only; rw [if_neg h4, if_neg (by simp [f4]), if_neg (by simp [f2]), if_pos f16]
    rw [E, EL]
    exact livT3_any mc ip po di st un nx wa inn out fin sp dp sq ac fl wi da p2 p3 w lt2 lt3 hp2 hp3 f4 f2 f16
  | true =>
    obtain ⟨D, hD⟩ : ∃ D, akV ⟨mc, ip, po, di, st, un, nx, wa, inn, out, fin⟩ ac = D := ⟨_, rfl⟩
    have TA0 : ∀ w, Calls Try.prog 86 #[.agg #[.string mc, .int .i64 ip, .int .i64 po, .int .i64 di, .int .i64 st, .int .i64 un, .int .i64 nx, .int .i64 wa, .string inn, .string out, .bool fin], .agg #[.int .i64 sp, .int .i64 dp, .int .i64 sq, .int .i64 ac, .int .i64 fl, .int .i64 wi, .string da], .func (.func 69) #[] #[]] w fun e w' => e = .returned (cvA D) ∧ Below w.heap.size w w' := fun w => by rw [← hD]; exact ackT_any mc ip po di st un nx wa inn out fin sp dp sq ac fl wi da w hok hst1 hg.2.1
    have hkI : D.inn = inn := by rw [← hD]; exact (akV_keep _ _).1
    have hkW : D.wa = wa := by rw [← hD]; exact (akV_keep _ _).2
    have E : tkV ⟨mc, ip, po, di, st, un, nx, wa, inn, out, fin⟩ ⟨sp, dp, sq, ac, fl, wi, da⟩ = if tdN D ⟨sp, dp, sq, ac, fl, wi, da⟩ = true then D else tdV D ⟨sp, dp, sq, ac, fl, wi, da⟩ := by unfold tkV; dsimp only; rw [if_neg h4, if_neg (by simp [f4]), if_neg (by simp [f2]), if_neg (by simp [f16]), hD]
    have EL : tkL ⟨mc, ip, po, di, st, un, nx, wa, inn, out, fin⟩ ⟨sp, dp, sq, ac, fl, wi, da⟩ = if tdN D ⟨sp, dp, sq, ac, fl, wi, da⟩ = true then [] else [agS (tdV D ⟨sp, dp, sq, ac, fl, wi, da⟩)] := by unfold tkL; dsimp only; rw [if_neg h4, if_neg (by simp [f4]), if_neg (by simp [f2]), if_neg (by simp [f16]), hD]
    rw [E, EL]
    clear E EL hD
    obtain ⟨dm, di1, dp1, dd, ds, du, dn, dw, dI, dO, dF⟩ := D
    dsimp only at hkI hkW
    have TD0 : ∀ w, Calls Try.prog 85 #[.agg #[.string dm, .int .i64 di1, .int .i64 dp1, .int .i64 dd, .int .i64 ds, .int .i64 du, .int .i64 dn, .int .i64 dw, .string dI, .string dO, .bool dF], .agg #[.int .i64 sp, .int .i64 dp, .int .i64 sq, .int .i64 ac, .int .i64 fl, .int .i64 wi, .string da]] w fun e w' => ∃ v, e = .returned (.tuple #[cvA (if tdN ⟨dm, di1, dp1, dd, ds, du, dn, dw, dI, dO, dF⟩ ⟨sp, dp, sq, ac, fl, wi, da⟩ = true then ⟨dm, di1, dp1, dd, ds, du, dn, dw, dI, dO, dF⟩ else tdV ⟨dm, di1, dp1, dd, ds, du, dn, dw, dI, dO, dF⟩ ⟨sp, dp, sq, ac, fl, wi, da⟩), v]) ∧ OwnS sgG 7 27 w' w.heap.size v (if tdN ⟨dm, di1, dp1, dd, ds, du, dn, dw, dI, dO, dF⟩ ⟨sp, dp, sq, ac, fl, wi, da⟩ = true then [] else [agS (tdV ⟨dm, di1, dp1, dd, ds, du, dn, dw, dI, dO, dF⟩ ⟨sp, dp, sq, ac, fl, wi, da⟩)]) ∧ Below w.heap.size w w' := fun w => takeData_any dm di1 dp1 dd ds du dn dw dI dO dF sp dp sq ac fl wi da w (by rw [hkI]; exact hx.2.1) hg.2.2 (by rw [hkW]; exact hn.2.2.2.2.2.2)
    generalize (if tdN ⟨dm, di1, dp1, dd, ds, du, dn, dw, dI, dO, dF⟩ ⟨sp, dp, sq, ac, fl, wi, da⟩ = true then ([] : List SegV) else [agS (tdV ⟨dm, di1, dp1, dd, ds, du, dn, dw, dI, dO, dF⟩ ⟨sp, dp, sq, ac, fl, wi, da⟩)]) = XL at TD0 ⊢
    generalize (if tdN ⟨dm, di1, dp1, dd, ds, du, dn, dw, dI, dO, dF⟩ ⟨sp, dp, sq, ac, fl, wi, da⟩ = true then ⟨dm, di1, dp1, dd, ds, du, dn, dw, dI, dO, dF⟩ else tdV ⟨dm, di1, dp1, dd, ds, du, dn, dw, dI, dO, dF⟩ ⟨sp, dp, sq, ac, fl, wi, da⟩) = X at TD0 ⊢
    obtain ⟨xm, xi, xp, xd, xs, xu, xn, xw, xI, xO, xF⟩ := X
    exact livT4_any mc ip po di st un nx wa inn out fin sp dp sq ac fl wi da p2 p3 w lt2 lt3 hp2 hp3 dm di1 dp1 dd ds du dn dw dI dO dF xm xi xp xd xs xu xn xw xI xO xF XL TA0 TD0 f4 f2 f16
def tkC (c : ConnV) (g : SegV) : Int := if okB c = true ∧ sgB g = true then 0 else 1
def tkW (c : ConnV) (g : SegV) : ConnV := if okB c = true ∧ sgB g = true then tkV c g else cnZ
def tkM (c : ConnV) (g : SegV) : List SegV := if okB c = true ∧ sgB g = true then tkL c g else []
theorem implTk_any (mc : ByteArray) (ip po di st un nx wa : Int) (inn out : ByteArray) (fin : Bool) (sp dp sq ac fl wi : Int) (da : ByteArray) (w : World) (hp : po ≤ 9223372036854775807) (hmc : mc.size ≤ 1048576) (hi : inn.size ≤ 1048576) (ho : out.size ≤ 1048576) (hs : sp ≤ 9223372036854775807) (hd : dp ≤ 9223372036854775807) (hq : sq ≤ 9223372036854775807) (ha : ac ≤ 9223372036854775807) (hw : wi ≤ 9223372036854775807) (hda : da.size ≤ 9223372036854775807) :
    Calls Try.prog 8 #[.agg #[.string mc, .int .i64 ip, .int .i64 po, .int .i64 di, .int .i64 st, .int .i64 un, .int .i64 nx, .int .i64 wa, .string inn, .string out, .bool fin], .agg #[.int .i64 sp, .int .i64 dp, .int .i64 sq, .int .i64 ac, .int .i64 fl, .int .i64 wi, .string da]] w fun e w' => ∃ v, e = .returned (.tuple #[cvA (tkW ⟨mc, ip, po, di, st, un, nx, wa, inn, out, fin⟩ ⟨sp, dp, sq, ac, fl, wi, da⟩), v, .int .i64 (tkC ⟨mc, ip, po, di, st, un, nx, wa, inn, out, fin⟩ ⟨sp, dp, sq, ac, fl, wi, da⟩)]) ∧ OwnS sgG 7 27 w' w.heap.size v (tkM ⟨mc, ip, po, di, st, un, nx, wa, inn, out, fin⟩ ⟨sp, dp, sq, ac, fl, wi, da⟩) ∧ Below w.heap.size w w' := by
  cases hok : okB ⟨mc, ip, po, di, st, un, nx, wa, inn, out, fin⟩ with
  | false =>
    have e1 : tkC ⟨mc, ip, po, di, st, un, nx, wa, inn, out, fin⟩ ⟨sp, dp, sq, ac, fl, wi, da⟩ = 1 := if_neg (by simp [hok])
    have e2 : tkW ⟨mc, ip, po, di, st, un, nx, wa, inn, out, fin⟩ ⟨sp, dp, sq, ac, fl, wi, da⟩ = cnZ := if_neg (by simp [hok])
    have e3 : tkM ⟨mc, ip, po, di, st, un, nx, wa, inn, out, fin⟩ ⟨sp, dp, sq, ac, fl, wi, da⟩ = [] := if_neg (by simp [hok])
    rw [e1, e2, e3]
    exact implTk_bad1 mc ip po di st un nx wa inn out fin sp dp sq ac fl wi da w hp hmc hi ho hs hd hq ha hw hda hok
  | true =>
  cases hsg : sgB ⟨sp, dp, sq, ac, fl, wi, da⟩ with
  | false =>
    have e1 : tkC ⟨mc, ip, po, di, st, un, nx, wa, inn, out, fin⟩ ⟨sp, dp, sq, ac, fl, wi, da⟩ = 1 := if_neg (by simp [hsg])
    have e2 : tkW ⟨mc, ip, po, di, st, un, nx, wa, inn, out, fin⟩ ⟨sp, dp, sq, ac, fl, wi, da⟩ = cnZ := if_neg (by simp [hsg])
    have e3 : tkM ⟨mc, ip, po, di, st, un, nx, wa, inn, out, fin⟩ ⟨sp, dp, sq, ac, fl, wi, da⟩ = [] := if_neg (by simp [hsg])
    rw [e1, e2, e3]
    exact implTk_bad2 mc ip po di st un nx wa inn out fin sp dp sq ac fl wi da w hp hmc hi ho hs hd hq ha hw hda hok hsg
  | true =>
    have e1 : tkC ⟨mc, ip, po, di, st, un, nx, wa, inn, out, fin⟩ ⟨sp, dp, sq, ac, fl, wi, da⟩ = 0 := if_pos ⟨hok, hsg⟩
    have e2 : tkW ⟨mc, ip, po, di, st, un, nx, wa, inn, out, fin⟩ ⟨sp, dp, sq, ac, fl, wi, da⟩ = tkV ⟨mc, ip, po, di, st, un, nx, wa, inn, out, fin⟩ ⟨sp, dp, sq, ac, fl, wi, da⟩ := if_pos ⟨hok, hsg⟩
    have e3 : tkM ⟨mc, ip, po, di, st, un, nx, wa, inn, out, fin⟩ ⟨sp, dp, sq, ac, fl, wi, da⟩ = tkL ⟨mc, ip, po, di, st, un, nx, wa, inn, out, fin⟩ ⟨sp, dp, sq, ac, fl, wi, da⟩ := if_pos ⟨hok, hsg⟩
    rw [e1, e2, e3]
    have hn := nuB_bd (okB_says hok).1
    dsimp only at hn
    by_cases h1 : st = 1
    · have TL0 := livS_all mc ip po di st un nx wa inn out fin sp dp sq ac fl wi da hok hsg h1
      generalize tkV ⟨mc, ip, po, di, st, un, nx, wa, inn, out, fin⟩ ⟨sp, dp, sq, ac, fl, wi, da⟩ = X at TL0 ⊢
      generalize tkL ⟨mc, ip, po, di, st, un, nx, wa, inn, out, fin⟩ ⟨sp, dp, sq, ac, fl, wi, da⟩ = XL at TL0 ⊢
      obtain ⟨xm, xi, xp, xd, xs, xu, xn, xw, xI, xO, xF⟩ := X
      exact implTk_S mc ip po di st un nx wa inn out fin sp dp sq ac fl wi da xm xi xp xd xs xu xn xw xI xO xF XL w hp hmc hi ho hs hd hq ha hw hda hok hsg h1 TL0
    by_cases h4 : st = 4
    · have E : tkV ⟨mc, ip, po, di, st, un, nx, wa, inn, out, fin⟩ ⟨sp, dp, sq, ac, fl, wi, da⟩ = ⟨mc, ip, po, di, st, un, nx, wa, inn, out, fin⟩ := if_pos h4
      have EL : tkL ⟨mc, ip, po, di, st, un, nx, wa, inn, out, fin⟩ ⟨sp, dp, sq, ac, fl, wi, da⟩ = [] := if_pos h4
      rw [E, EL]
      exact implTk_G mc ip po di st un nx wa inn out fin sp dp sq ac fl wi da mc ip po di st un nx wa inn out fin [] w hp hmc hi ho hs hd hq ha hw hda hok hsg h4 (fun w => gone_any mc ip po di st un nx wa inn out fin sp dp sq ac fl wi da w)
    have TL0 := livT_all mc ip po di st un nx wa inn out fin sp dp sq ac fl wi da hok hsg h1 h4
    generalize tkV ⟨mc, ip, po, di, st, un, nx, wa, inn, out, fin⟩ ⟨sp, dp, sq, ac, fl, wi, da⟩ = X at TL0 ⊢
    generalize tkL ⟨mc, ip, po, di, st, un, nx, wa, inn, out, fin⟩ ⟨sp, dp, sq, ac, fl, wi, da⟩ = XL at TL0 ⊢
    obtain ⟨xm, xi, xp, xd, xs, xu, xn, xw, xI, xO, xF⟩ := X
    by_cases h2 : st = 2
    · exact implTk_T2 mc ip po di st un nx wa inn out fin sp dp sq ac fl wi da xm xi xp xd xs xu xn xw xI xO xF XL w hp hmc hi ho hs hd hq ha hw hda hok hsg h2 TL0
    · exact implTk_T3 mc ip po di st un nx wa inn out fin sp dp sq ac fl wi da xm xi xp xd xs xu xn xw xI xO xF XL w hp hmc hi ho hs hd hq ha hw hda hok hsg (by omega) TL0
end Go.Proofs.Ytfgghffgfefgpaa

namespace Go.Proofs.Ytfgghffgfefgpaa
open Go.RowKit Go.PlainAid Go.Proofs.Ytfgghffgfefgpaa.Bt Go.Sort
set_option linter.unusedVariables false
set_option maxRecDepth 20000
set_option maxHeartbeats 8000000 in
theorem specTk_bad1 (mc : ByteArray) (ip po di st un nx wa : Int) (inn out : ByteArray) (fin : Bool) (sp dp sq ac fl wi : Int) (da : ByteArray) (w : World) (hmc : mc.size ≤ 1048576) (hi : inn.size ≤ 1048576) (ho : out.size ≤ 1048576) (hda : da.size ≤ 9223372036854775807) (hok : okB ⟨mc, ip, po, di, st, un, nx, wa, inn, out, fin⟩ = false) :
    Calls Try.prog 9 #[.agg #[.string mc, .int .i64 ip, .int .i64 po, .int .i64 di, .int .i64 st, .int .i64 un, .int .i64 nx, .int .i64 wa, .string inn, .string out, .bool fin], .agg #[.int .i64 sp, .int .i64 dp, .int .i64 sq, .int .i64 ac, .int .i64 fl, .int .i64 wi, .string da]] w fun e w' => ∃ v, e = .returned (.tuple #[cvA cnZ, v, .int .i64 1]) ∧ OwnS sgG 7 27 w' w.heap.size v [] ∧ Below w.heap.size w w' := by
  have TK : Hid (∀ w, Calls Try.prog 35 #[.agg #[.string mc, .int .i64 ip, .int .i64 po, .int .i64 di, .int .i64 st, .int .i64 un, .int .i64 nx, .int .i64 wa, .string inn, .string out, .bool fin]] w fun e w' => e = .returned (.bool false) ∧ Grw w w') := fun w => by rw [← hok]; exact specConOK_any mc ip po di st un nx wa inn out fin w hmc hi ho
  clear hok
  have C0 : Bx (((w.alloc (.cells #[.string mc, .int .i64 ip, .int .i64 po, .int .i64 di, .int .i64 st, .int .i64 un, .int .i64 nx, .int .i64 wa, .string inn, .string out, .bool fin] 24)).alloc (.cells #[.int .i64 sp, .int .i64 dp, .int .i64 sq, .int .i64 ac, .int .i64 fl, .int .i64 wi, .string da] 27)).alloc (.cells #[.string ⟨#[]⟩, .int .i64 0, .int .i64 0, .int .i64 0, .int .i64 0, .int .i64 0, .int .i64 0, .int .i64 0, .string ⟨#[]⟩, .string ⟨#[]⟩, .bool false] 24)) w.heap.size [.string mc, .int .i64 ip, .int .i64 po, .int .i64 di, .int .i64 st, .int .i64 un, .int .i64 nx, .int .i64 wa, .string inn, .string out, .bool fin] := ((Bx.new w _ _).below ((Below.refl _ _).alloc (Nat.le_refl _) _)).below ((Below.refl _ _).alloc (Nat.le_refl _) _)
  have G0 : Bx (((w.alloc (.cells #[.string mc, .int .i64 ip, .int .i64 po, .int .i64 di, .int .i64 st, .int .i64 un, .int .i64 nx, .int .i64 wa, .string inn, .string out, .bool fin] 24)).alloc (.cells #[.int .i64 sp, .int .i64 dp, .int .i64 sq, .int .i64 ac, .int .i64 fl, .int .i64 wi, .string da] 27)).alloc (.cells #[.string ⟨#[]⟩, .int .i64 0, .int .i64 0, .int .i64 0, .int .i64 0, .int .i64 0, .int .i64 0, .int .i64 0, .string ⟨#[]⟩, .string ⟨#[]⟩, .bool false] 24)) (w.heap.size + 1) [.int .i64 sp, .int .i64 dp, .int .i64 sq, .int .i64 ac, .int .i64 fl, .int .i64 wi, .string da] := by
    have h := (Bx.new (w.alloc (.cells #[.string mc, .int .i64 ip, .int .i64 po, .int .i64 di, .int .i64 st, .int .i64 un, .int .i64 nx, .int .i64 wa, .string inn, .string out, .bool fin] 24)) #[.int .i64 sp, .int .i64 dp, .int .i64 sq, .int .i64 ac, .int .i64 fl, .int .i64 wi, .string da] 27).below ((Below.refl _ _).alloc (Nat.le_refl _) (.cells #[.string ⟨#[]⟩, .int .i64 0, .int .i64 0, .int .i64 0, .int .i64 0, .int .i64 0, .int .i64 0, .int .i64 0, .string ⟨#[]⟩, .string ⟨#[]⟩, .bool false] 24))
    rw [World.size_alloc] at h
    exact h
  have R0 : Bx (((w.alloc (.cells #[.string mc, .int .i64 ip, .int .i64 po, .int .i64 di, .int .i64 st, .int .i64 un, .int .i64 nx, .int .i64 wa, .string inn, .string out, .bool fin] 24)).alloc (.cells #[.int .i64 sp, .int .i64 dp, .int .i64 sq, .int .i64 ac, .int .i64 fl, .int .i64 wi, .string da] 27)).alloc (.cells #[.string ⟨#[]⟩, .int .i64 0, .int .i64 0, .int .i64 0, .int .i64 0, .int .i64 0, .int .i64 0, .int .i64 0, .string ⟨#[]⟩, .string ⟨#[]⟩, .bool false] 24)) (w.heap.size + 1 + 1) [.string ⟨#[]⟩, .int .i64 0, .int .i64 0, .int .i64 0, .int .i64 0, .int .i64 0, .int .i64 0, .int .i64 0, .string ⟨#[]⟩, .string ⟨#[]⟩, .bool false] := by
    have h := Bx.new ((w.alloc (.cells #[.string mc, .int .i64 ip, .int .i64 po, .int .i64 di, .int .i64 st, .int .i64 un, .int .i64 nx, .int .i64 wa, .string inn, .string out, .bool fin] 24)).alloc (.cells #[.int .i64 sp, .int .i64 dp, .int .i64 sq, .int .i64 ac, .int .i64 fl, .int .i64 wi, .string da] 27)) #[.string ⟨#[]⟩, .int .i64 0, .int .i64 0, .int .i64 0, .int .i64 0, .int .i64 0, .int .i64 0, .int .i64 0, .string ⟨#[]⟩, .string ⟨#[]⟩, .bool false] 24
    rw [World.size_alloc, World.size_alloc] at h
    exact h
  have B0 : Hid (Below w.heap.size w (((w.alloc (.cells #[.string mc, .int .i64 ip, .int .i64 po, .int .i64 di, .int .i64 st, .int .i64 un, .int .i64 nx, .int .i64 wa, .string inn, .string out, .bool fin] 24)).alloc (.cells #[.int .i64 sp, .int .i64 dp, .int .i64 sq, .int .i64 ac, .int .i64 fl, .int .i64 wi, .string da] 27)).alloc (.cells #[.string ⟨#[]⟩, .int .i64 0, .int .i64 0, .int .i64 0, .int .i64 0, .int .i64 0, .int .i64 0, .int .i64 0, .string ⟨#[]⟩, .string ⟨#[]⟩, .bool false] 24))) := ((((Below.refl _ _).alloc (Nat.le_refl _) _).alloc (by simp) _).alloc (by simp; omega) _)
  go_enter Try.func9, Try.ntmps9
  go_wp2_with (first | (refine wpl_get rfl _ rfl _ rfl (by assumption) rfl ?_) | (refine wpl_getS rfl _ rfl _ rfl (by assumption) rfl ?_) | fail)
  refine (TK.out _).mono ?_
  rintro e w1 ⟨rfl, g1⟩
  have b1 := g1.below
  have C1 : Bx w1 w.heap.size [.string mc, .int .i64 ip, .int .i64 po, .int .i64 di, .int .i64 st, .int .i64 un, .int .i64 nx, .int .i64 wa, .string inn, .string out, .bool fin] := C0.below b1
  have G1 : Bx w1 (w.heap.size + 1) [.int .i64 sp, .int .i64 dp, .int .i64 sq, .int .i64 ac, .int .i64 fl, .int .i64 wi, .string da] := G0.below b1
  have R1 : Bx w1 (w.heap.size + 1 + 1) [.string ⟨#[]⟩, .int .i64 0, .int .i64 0, .int .i64 0, .int .i64 0, .int .i64 0, .int .i64 0, .int .i64 0, .string ⟨#[]⟩, .string ⟨#[]⟩, .bool false] := R0.below b1
  have B1 : Hid (Below w.heap.size w w1) := B0.out.trans (b1.mono B0.out.size)
  clear b1 g1
  have hs1 : w.heap.size + 3 ≤ w1.heap.size := by
    have := World.block_lt_of_cell? w1 _ (R1.cell 0 rfl)
    dsimp only at this
    omega
  have RA : Bx (w1.alloc (.cells #[] 27)) (w.heap.size + 1 + 1) [.string ⟨#[]⟩, .int .i64 0, .int .i64 0, .int .i64 0, .int .i64 0, .int .i64 0, .int .i64 0, .int .i64 0, .string ⟨#[]⟩, .string ⟨#[]⟩, .bool false] := R1.below ((Below.refl _ _).alloc (Nat.le_refl _) _)
  have BA : Hid (Below w.heap.size w (w1.alloc (.cells #[] 27))) := B1.out.alloc B1.out.size _
  have OA : Hid (OwnS sgG 7 27 (w1.alloc (.cells #[] 27)) (w.heap.size + 3) (.slice (some ⟨w1.heap.size, 0, none⟩) 0 0) []) := lit_at hs1 rfl
  go_wp2_with (first | (refine wpl_put rfl _ _ rfl (w.heap.size + 1 + 1) _ rfl rfl RA rfl rfl rfl ?_; intro w5 hw5 R5; have B5 : Hid (Below w.heap.size w w5) := (by rw [hw5]; exact below_cells (by omega) _ _ _ BA.out); have O5 : Hid (OwnS sgG 7 27 w5 w.heap.size (.slice (some ⟨w1.heap.size, 0, none⟩) 0 0) []) := (by rw [hw5]; exact (own_cells (by omega) _ _ _ OA.out).lower (by omega)); clear hw5) | (refine wpl_get rfl _ rfl _ rfl (by assumption) rfl ?_) | fail)
  have xx0 : w5.cell? ⟨w.heap.size + 1 + 1, 0, none⟩ = some (.string ⟨#[]⟩) := R5.cell 0 rfl
  have xx1 : w5.cell? ⟨w.heap.size + 1 + 1, 1, none⟩ = some (.int .i64 0) := R5.cell 1 rfl
  have xx2 : w5.cell? ⟨w.heap.size + 1 + 1, 2, none⟩ = some (.int .i64 0) := R5.cell 2 rfl
  have xx3 : w5.cell? ⟨w.heap.size + 1 + 1, 3, none⟩ = some (.int .i64 0) := R5.cell 3 rfl
  have xx4 : w5.cell? ⟨w.heap.size + 1 + 1, 4, none⟩ = some (.int .i64 0) := R5.cell 4 rfl
  have xx5 : w5.cell? ⟨w.heap.size + 1 + 1, 5, none⟩ = some (.int .i64 0) := R5.cell 5 rfl
  have xx6 : w5.cell? ⟨w.heap.size + 1 + 1, 6, none⟩ = some (.int .i64 0) := R5.cell 6 rfl
  have xx7 : w5.cell? ⟨w.heap.size + 1 + 1, 7, none⟩ = some (.int .i64 0) := R5.cell 7 rfl
  have xx8 : w5.cell? ⟨w.heap.size + 1 + 1, 8, none⟩ = some (.string ⟨#[]⟩) := R5.cell 8 rfl
  have xx9 : w5.cell? ⟨w.heap.size + 1 + 1, 9, none⟩ = some (.string ⟨#[]⟩) := R5.cell 9 rfl
  have xx10 : w5.cell? ⟨w.heap.size + 1 + 1, 10, none⟩ = some (.bool false) := R5.cell 10 rfl
  (try simp only [Exit.inBlock, Exit.then])
  refine bodyPost_ret (v := .tuple #[.agg #[.string ⟨#[]⟩, .int .i64 0, .int .i64 0, .int .i64 0, .int .i64 0, .int .i64 0, .int .i64 0, .int .i64 0, .string ⟨#[]⟩, .string ⟨#[]⟩, .bool false], .slice (some ⟨w1.heap.size, 0, none⟩) 0 0, .int .i64 1]) (by simp [results, Try.results9, go_sem, xx0, xx1, xx2, xx3, xx4, xx5, xx6, xx7, xx8, xx9, xx10]; try rfl) rfl ?_
  exact ⟨_, rfl, O5.out, B5.out⟩
set_option maxHeartbeats 8000000 in
theorem specTk_bad2 (mc : ByteArray) (ip po di st un nx wa : Int) (inn out : ByteArray) (fin : Bool) (sp dp sq ac fl wi : Int) (da : ByteArray) (w : World) (hmc : mc.size ≤ 1048576) (hi : inn.size ≤ 1048576) (ho : out.size ≤ 1048576) (hda : da.size ≤ 9223372036854775807) (hok : okB ⟨mc, ip, po, di, st, un, nx, wa, inn, out, fin⟩ = true) (hsg : sgB ⟨sp, dp, sq, ac, fl, wi, da⟩ = false) :
    Calls Try.prog 9 #[.agg #[.string mc, .int .i64 ip, .int .i64 po, .int .i64 di, .int .i64 st, .int .i64 un, .int .i64 nx, .int .i64 wa, .string inn, .string out, .bool fin], .agg #[.int .i64 sp, .int .i64 dp, .int .i64 sq, .int .i64 ac, .int .i64 fl, .int .i64 wi, .string da]] w fun e w' => ∃ v, e = .returned (.tuple #[cvA cnZ, v, .int .i64 1]) ∧ OwnS sgG 7 27 w' w.heap.size v [] ∧ Below w.heap.size w w' := by
  have TK : Hid (∀ w, Calls Try.prog 35 #[.agg #[.string mc, .int .i64 ip, .int .i64 po, .int .i64 di, .int .i64 st, .int .i64 un, .int .i64 nx, .int .i64 wa, .string inn, .string out, .bool fin]] w fun e w' => e = .returned (.bool true) ∧ Grw w w') := fun w => by rw [← hok]; exact specConOK_any mc ip po di st un nx wa inn out fin w hmc hi ho
  have TSG : Hid (∀ w, Calls Try.prog 36 #[.agg #[.int .i64 sp, .int .i64 dp, .int .i64 sq, .int .i64 ac, .int .i64 fl, .int .i64 wi, .string da]] w fun e w' => e = .returned (.bool false) ∧ Grw w w') := fun w => by rw [← hsg]; exact l02Seg9_any sp dp sq ac fl wi da w hda
  clear hok hsg
  have C0 : Bx (((w.alloc (.cells #[.string mc, .int .i64 ip, .int .i64 po, .int .i64 di, .int .i64 st, .int .i64 un, .int .i64 nx, .int .i64 wa, .string inn, .string out, .bool fin] 24)).alloc (.cells #[.int .i64 sp, .int .i64 dp, .int .i64 sq, .int .i64 ac, .int .i64 fl, .int .i64 wi, .string da] 27)).alloc (.cells #[.string ⟨#[]⟩, .int .i64 0, .int .i64 0, .int .i64 0, .int .i64 0, .int .i64 0, .int .i64 0, .int .i64 0, .string ⟨#[]⟩, .string ⟨#[]⟩, .bool false] 24)) w.heap.size [.string mc, .int .i64 ip, .int .i64 po, .int .i64 di, .int .i64 st, .int .i64 un, .int .i64 nx, .int .i64 wa, .string inn, .string out, .bool fin] := ((Bx.new w _ _).below ((Below.refl _ _).alloc (Nat.le_refl _) _)).below ((Below.refl _ _).alloc (Nat.le_refl _) _)
  have G0 : Bx (((w.alloc (.cells #[.string mc, .int .i64 ip, .int .i64 po, .int .i64 di, .int .i64 st, .int .i64 un, .int .i64 nx, .int .i64 wa, .string inn, .string out, .bool fin] 24)).alloc (.cells #[.int .i64 sp, .int .i64 dp, .int .i64 sq, .int .i64 ac, .int .i64 fl, .int .i64 wi, .string da] 27)).alloc (.cells #[.string ⟨#[]⟩, .int .i64 0, .int .i64 0, .int .i64 0, .int .i64 0, .int .i64 0, .int .i64 0, .int .i64 0, .string ⟨#[]⟩, .string ⟨#[]⟩, .bool false] 24)) (w.heap.size + 1) [.int .i64 sp, .int .i64 dp, .int .i64 sq, .int .i64 ac, .int .i64 fl, .int .i64 wi, .string da] := by
    have h := (Bx.new (w.alloc (.cells #[.string mc, .int .i64 ip, .int .i64 po, .int .i64 di, .int .i64 st, .int .i64 un, .int .i64 nx, .int .i64 wa, .string inn, .string out, .bool fin] 24)) #[.int .i64 sp, .int .i64 dp, .int .i64 sq, .int .i64 ac, .int .i64 fl, .int .i64 wi, .string da] 27).below ((Below.refl _ _).alloc (Nat.le_refl _) (.cells #[.string ⟨#[]⟩, .int .i64 0, .int .i64 0, .int .i64 0, .int .i64 0, .int .i64 0, .int .i64 0, .int .i64 0, .string ⟨#[]⟩, .string ⟨#[]⟩, .bool false] 24))
    rw [World.size_alloc] at h
    exact h
  have R0 : Bx (((w.alloc (.cells #[.string mc, .int .i64 ip, .int .i64 po, .int .i64 di, .int .i64 st, .int .i64 un, .int .i64 nx, .int .i64 wa, .string inn, .string out, .bool fin] 24)).alloc (.cells #[.int .i64 sp, .int .i64 dp, .int .i64 sq, .int .i64 ac, .int .i64 fl, .int .i64 wi, .string da] 27)).alloc (.cells #[.string ⟨#[]⟩, .int .i64 0, .int .i64 0, .int .i64 0, .int .i64 0, .int .i64 0, .int .i64 0, .int .i64 0, .string ⟨#[]⟩, .string ⟨#[]⟩, .bool false] 24)) (w.heap.size + 1 + 1) [.string ⟨#[]⟩, .int .i64 0, .int .i64 0, .int .i64 0, .int .i64 0, .int .i64 0, .int .i64 0, .int .i64 0, .string ⟨#[]⟩, .string ⟨#[]⟩, .bool false] := by
    have h := Bx.new ((w.alloc (.cells #[.string mc, .int .i64 ip, .int .i64 po, .int .i64 di, .int .i64 st, .int .i64 un, .int .i64 nx, .int .i64 wa, .string inn, .string out, .bool fin] 24)).alloc (.cells #[.int .i64 sp, .int .i64 dp, .int .i64 sq, .int .i64 ac, .int .i64 fl, .int .i64 wi, .string da] 27)) #[.string ⟨#[]⟩, .int .i64 0, .int .i64 0, .int .i64 0, .int .i64 0, .int .i64 0, .int .i64 0, .int .i64 0, .string ⟨#[]⟩, .string ⟨#[]⟩, .bool false] 24
    rw [World.size_alloc, World.size_alloc] at h
    exact h
  have B0 : Hid (Below w.heap.size w (((w.alloc (.cells #[.string mc, .int .i64 ip, .int .i64 po, .int .i64 di, .int .i64 st, .int .i64 un, .int .i64 nx, .int .i64 wa, .string inn, .string out, .bool fin] 24)).alloc (.cells #[.int .i64 sp, .int .i64 dp, .int .i64 sq, .int .i64 ac, .int .i64 fl, .int .i64 wi, .string da] 27)).alloc (.cells #[.string ⟨#[]⟩, .int .i64 0, .int .i64 0, .int .i64 0, .int .i64 0, .int .i64 0, .int .i64 0, .int .i64 0, .string ⟨#[]⟩, .string ⟨#[]⟩, .bool false] 24))) := ((((Below.refl _ _).alloc (Nat.le_refl _) _).alloc (by simp) _).alloc (by simp; omega) _)
  go_enter Try.func9, Try.ntmps9
  go_wp2_with (first | (refine wpl_get rfl _ rfl _ rfl (by assumption) rfl ?_) | (refine wpl_getS rfl _ rfl _ rfl (by assumption) rfl ?_) | fail)
  refine (TK.out _).mono ?_
  rintro e w1 ⟨rfl, g1⟩
  have b1 := g1.below
  have C1 : Bx w1 w.heap.size [.string mc, .int .i64 ip, .int .i64 po, .int .i64 di, .int .i64 st, .int .i64 un, .int .i64 nx, .int .i64 wa, .string inn, .string out, .bool fin] := C0.below b1
  have G1 : Bx w1 (w.heap.size + 1) [.int .i64 sp, .int .i64 dp, .int .i64 sq, .int .i64 ac, .int .i64 fl, .int .i64 wi, .string da] := G0.below b1
  have R1 : Bx w1 (w.heap.size + 1 + 1) [.string ⟨#[]⟩, .int .i64 0, .int .i64 0, .int .i64 0, .int .i64 0, .int .i64 0, .int .i64 0, .int .i64 0, .string ⟨#[]⟩, .string ⟨#[]⟩, .bool false] := R0.below b1
  have B1 : Hid (Below w.heap.size w w1) := B0.out.trans (b1.mono B0.out.size)
  clear b1 g1
  have gq0 : w1.cell? ⟨w.heap.size + 1, 0, none⟩ = some (.int .i64 sp) := G1.cell 0 rfl
  have gq1 : w1.cell? ⟨w.heap.size + 1, 1, none⟩ = some (.int .i64 dp) := G1.cell 1 rfl
  have gq2 : w1.cell? ⟨w.heap.size + 1, 2, none⟩ = some (.int .i64 sq) := G1.cell 2 rfl
  have gq3 : w1.cell? ⟨w.heap.size + 1, 3, none⟩ = some (.int .i64 ac) := G1.cell 3 rfl
  have gq4 : w1.cell? ⟨w.heap.size + 1, 4, none⟩ = some (.int .i64 fl) := G1.cell 4 rfl
  have gq5 : w1.cell? ⟨w.heap.size + 1, 5, none⟩ = some (.int .i64 wi) := G1.cell 5 rfl
  have gq6 : w1.cell? ⟨w.heap.size + 1, 6, none⟩ = some (.string da) := G1.cell 6 rfl
  go_wp2_with (first | (refine wpl_get rfl _ rfl _ rfl (by assumption) rfl ?_) | (refine wpl_getS rfl _ rfl _ rfl (by assumption) rfl ?_) | fail)
  refine (TSG.out _).mono ?_
  rintro e w2 ⟨rfl, g2⟩
  have b2 := g2.below
  have C2 : Bx w2 w.heap.size [.string mc, .int .i64 ip, .int .i64 po, .int .i64 di, .int .i64 st, .int .i64 un, .int .i64 nx, .int .i64 wa, .string inn, .string out, .bool fin] := C1.below b2
  have G2 : Bx w2 (w.heap.size + 1) [.int .i64 sp, .int .i64 dp, .int .i64 sq, .int .i64 ac, .int .i64 fl, .int .i64 wi, .string da] := G1.below b2
  have R2 : Bx w2 (w.heap.size + 1 + 1) [.string ⟨#[]⟩, .int .i64 0, .int .i64 0, .int .i64 0, .int .i64 0, .int .i64 0, .int .i64 0, .int .i64 0, .string ⟨#[]⟩, .string ⟨#[]⟩, .bool false] := R1.below b2
  have B2 : Hid (Below w.heap.size w w2) := B1.out.trans (b2.mono B1.out.size)
  clear b2 g2
  have hs2 : w.heap.size + 3 ≤ w2.heap.size := by
    have := World.block_lt_of_cell? w2 _ (R2.cell 0 rfl)
    dsimp only at this
    omega
  have RA : Bx (w2.alloc (.cells #[] 27)) (w.heap.size + 1 + 1) [.string ⟨#[]⟩, .int .i64 0, .int .i64 0, .int .i64 0, .int .i64 0, .int .i64 0, .int .i64 0, .int .i64 0, .string ⟨#[]⟩, .string ⟨#[]⟩, .bool false] := R2.below ((Below.refl _ _).alloc (Nat.le_refl _) _)
  have BA : Hid (Below w.heap.size w (w2.alloc (.cells #[] 27))) := B2.out.alloc B2.out.size _
  have OA : Hid (OwnS sgG 7 27 (w2.alloc (.cells #[] 27)) (w.heap.size + 3) (.slice (some ⟨w2.heap.size, 0, none⟩) 0 0) []) := lit_at hs2 rfl
  go_wp2_with (first | (refine wpl_put rfl _ _ rfl (w.heap.size + 1 + 1) _ rfl rfl RA rfl rfl rfl ?_; intro w5 hw5 R5; have B5 : Hid (Below w.heap.size w w5) := (by rw [hw5]; exact below_cells (by omega) _ _ _ BA.out); have O5 : Hid (OwnS sgG 7 27 w5 w.heap.size (.slice (some ⟨w2.heap.size, 0, none⟩) 0 0) []) := (by rw [hw5]; exact (own_cells (by omega) _ _ _ OA.out).lower (by omega)); clear hw5) | (refine wpl_get rfl _ rfl _ rfl (by assumption) rfl ?_) | fail)
  have xx0 : w5.cell? ⟨w.heap.size + 1 + 1, 0, none⟩ = some (.string ⟨#[]⟩) := R5.cell 0 rfl
  have xx1 : w5.cell? ⟨w.heap.size + 1 + 1, 1, none⟩ = some (.int .i64 0) := R5.cell 1 rfl
  have xx2 : w5.cell? ⟨w.heap.size + 1 + 1, 2, none⟩ = some (.int .i64 0) := R5.cell 2 rfl
  have xx3 : w5.cell? ⟨w.heap.size + 1 + 1, 3, none⟩ = some (.int .i64 0) := R5.cell 3 rfl
  have xx4 : w5.cell? ⟨w.heap.size + 1 + 1, 4, none⟩ = some (.int .i64 0) := R5.cell 4 rfl
  have xx5 : w5.cell? ⟨w.heap.size + 1 + 1, 5, none⟩ = some (.int .i64 0) := R5.cell 5 rfl
  have xx6 : w5.cell? ⟨w.heap.size + 1 + 1, 6, none⟩ = some (.int .i64 0) := R5.cell 6 rfl
  have xx7 : w5.cell? ⟨w.heap.size + 1 + 1, 7, none⟩ = some (.int .i64 0) := R5.cell 7 rfl
  have xx8 : w5.cell? ⟨w.heap.size + 1 + 1, 8, none⟩ = some (.string ⟨#[]⟩) := R5.cell 8 rfl
  have xx9 : w5.cell? ⟨w.heap.size + 1 + 1, 9, none⟩ = some (.string ⟨#[]⟩) := R5.cell 9 rfl
  have xx10 : w5.cell? ⟨w.heap.size + 1 + 1, 10, none⟩ = some (.bool false) := R5.cell 10 rfl
  (try simp only [Exit.inBlock, Exit.then])
  refine bodyPost_ret (v := .tuple #[.agg #[.string ⟨#[]⟩, .int .i64 0, .int .i64 0, .int .i64 0, .int .i64 0, .int .i64 0, .int .i64 0, .int .i64 0, .string ⟨#[]⟩, .string ⟨#[]⟩, .bool false], .slice (some ⟨w2.heap.size, 0, none⟩) 0 0, .int .i64 1]) (by simp [results, Try.results9, go_sem, xx0, xx1, xx2, xx3, xx4, xx5, xx6, xx7, xx8, xx9, xx10]; try rfl) rfl ?_
  exact ⟨_, rfl, O5.out, B5.out⟩
set_option maxHeartbeats 8000000 in
theorem specTk_ok (mc : ByteArray) (ip po di st un nx wa : Int) (inn out : ByteArray) (fin : Bool) (sp dp sq ac fl wi : Int) (da : ByteArray) (xm : ByteArray) (xi xp xd xs xu xn xw : Int) (xI xO : ByteArray) (xF : Bool) (XL : List SegV) (w : World) (hmc : mc.size ≤ 1048576) (hi : inn.size ≤ 1048576) (ho : out.size ≤ 1048576) (hda : da.size ≤ 9223372036854775807) (hok : okB ⟨mc, ip, po, di, st, un, nx, wa, inn, out, fin⟩ = true) (hsg : sgB ⟨sp, dp, sq, ac, fl, wi, da⟩ = true) (TT0 : ∀ w, Calls Try.prog 37 #[.agg #[.string mc, .int .i64 ip, .int .i64 po, .int .i64 di, .int .i64 st, .int .i64 un, .int .i64 nx, .int .i64 wa, .string inn, .string out, .bool fin], .agg #[.int .i64 sp, .int .i64 dp, .int .i64 sq, .int .i64 ac, .int .i64 fl, .int .i64 wi, .string da]] w fun e w' => ∃ v, e = .returned (.tuple #[.agg #[.string xm, .int .i64 xi, .int .i64 xp, .int .i64 xd, .int .i64 xs, .int .i64 xu, .int .i64 xn, .int .i64 xw, .string xI, .string xO, .bool xF], v]) ∧ OwnS sgG 7 27 w' w.heap.size v XL ∧ Below w.heap.size w w') :
    Calls Try.prog 9 #[.agg #[.string mc, .int .i64 ip, .int .i64 po, .int .i64 di, .int .i64 st, .int .i64 un, .int .i64 nx, .int .i64 wa, .string inn, .string out, .bool fin], .agg #[.int .i64 sp, .int .i64 dp, .int .i64 sq, .int .i64 ac, .int .i64 fl, .int .i64 wi, .string da]] w fun e w' => ∃ v, e = .returned (.tuple #[.agg #[.string xm, .int .i64 xi, .int .i64 xp, .int .i64 xd, .int .i64 xs, .int .i64 xu, .int .i64 xn, .int .i64 xw, .string xI, .string xO, .bool xF], v, .int .i64 0]) ∧ OwnS sgG 7 27 w' w.heap.size v XL ∧ Below w.heap.size w w' := by
  have TK : Hid (∀ w, Calls Try.prog 35 #[.agg #[.string mc, .int .i64 ip, .int .i64 po, .int .i64 di, .int .i64 st, .int .i64 un, .int .i64 nx, .int .i64 wa, .string inn, .string out, .bool fin]] w fun e w' => e = .returned (.bool true) ∧ Grw w w') := fun w => by rw [← hok]; exact specConOK_any mc ip po di st un nx wa inn out fin w hmc hi ho
  have TSG : Hid (∀ w, Calls Try.prog 36 #[.agg #[.int .i64 sp, .int .i64 dp, .int .i64 sq, .int .i64 ac, .int .i64 fl, .int .i64 wi, .string da]] w fun e w' => e = .returned (.bool true) ∧ Grw w w') := fun w => by rw [← hsg]; exact l02Seg9_any sp dp sq ac fl wi da w hda
  have TT : Hid _ := TT0
  clear TT0 hok hsg
  have C0 : Bx (((w.alloc (.cells #[.string mc, .int .i64 ip, .int .i64 po, .int .i64 di, .int .i64 st, .int .i64 un, .int .i64 nx, .int .i64 wa, .string inn, .string out, .bool fin] 24)).alloc (.cells #[.int .i64 sp, .int .i64 dp, .int .i64 sq, .int .i64 ac, .int .i64 fl, .int .i64 wi, .string da] 27)).alloc (.cells #[.string ⟨#[]⟩, .int .i64 0, .int .i64 0, .int .i64 0, .int .i64 0, .int .i64 0, .int .i64 0, .int .i64 0, .string ⟨#[]⟩, .string ⟨#[]⟩, .bool false] 24)) w.heap.size [.string mc, .int .i64 ip, .int .i64 po, .int .i64 di, .int .i64 st, .int .i64 un, .int .i64 nx, .int .i64 wa, .string inn, .string out, .bool fin] := ((Bx.new w _ _).below ((Below.refl _ _).alloc (Nat.le_refl _) _)).below ((Below.refl _ _).alloc (Nat.le_refl _) _)
  have G0 : Bx (((w.alloc (.cells #[.string mc, .int .i64 ip, .int .i64 po, .int .i64 di, .int .i64 st, .int .i64 un, .int .i64 nx, .int .i64 wa, .string inn, .string out, .bool fin] 24)).alloc (.cells #[.int .i64 sp, .int .i64 dp, .int .i64 sq, .int .i64 ac, .int .i64 fl, .int .i64 wi, .string da] 27)).alloc (.cells #[.string ⟨#[]⟩, .int .i64 0, .int .i64 0, .int .i64 0, .int .i64 0, .int .i64 0, .int .i64 0, .int .i64 0, .string ⟨#[]⟩, .string ⟨#[]⟩, .bool false] 24)) (w.heap.size + 1) [.int .i64 sp, .int .i64 dp, .int .i64 sq, .int .i64 ac, .int .i64 fl, .int .i64 wi, .string da] := by
    have h := (Bx.new (w.alloc (.cells #[.string mc, .int .i64 ip, .int .i64 po, .int .i64 di, .int .i64 st, .int .i64 un, .int .i64 nx, .int .i64 wa, .string inn, .string out, .bool fin] 24)) #[.int .i64 sp, .int .i64 dp, .int .i64 sq, .int .i64 ac, .int .i64 fl, .int .i64 wi, .string da] 27).below ((Below.refl _ _).alloc (Nat.le_refl _) (.cells #[.string ⟨#[]⟩, .int .i64 0, .int .i64 0, .int .i64 0, .int .i64 0, .int .i64 0, .int .i64 0, .int .i64 0, .string ⟨#[]⟩, .string ⟨#[]⟩, .bool false] 24))
    rw [World.size_alloc] at h
    exact h
  have R0 : Bx (((w.alloc (.cells #[.string mc, .int .i64 ip, .int .i64 po, .int .i64 di, .int .i64 st, .int .i64 un, .int .i64 nx, .int .i64 wa, .string inn, .string out, .bool fin] 24)).alloc (.cells #[.int .i64 sp, .int .i64 dp, .int .i64 sq, .int .i64 ac, .int .i64 fl, .int .i64 wi, .string da] 27)).alloc (.cells #[.string ⟨#[]⟩, .int .i64 0, .int .i64 0, .int .i64 0, .int .i64 0, .int .i64 0, .int .i64 0, .int .i64 0, .string ⟨#[]⟩, .string ⟨#[]⟩, .bool false] 24)) (w.heap.size + 1 + 1) [.string ⟨#[]⟩, .int .i64 0, .int .i64 0, .int .i64 0, .int .i64 0, .int .i64 0, .int .i64 0, .int .i64 0, .string ⟨#[]⟩, .string ⟨#[]⟩, .bool false] := by
    have h := Bx.new ((w.alloc (.cells #[.string mc, .int .i64 ip, .int .i64 po, .int .i64 di, .int .i64 st, .int .i64 un, .int .i64 nx, .int .i64 wa, .string inn, .string out, .bool fin] 24)).alloc (.cells #[.int .i64 sp, .int .i64 dp, .int .i64 sq, .int .i64 ac, .int .i64 fl, .int .i64 wi, .string da] 27)) #[.string ⟨#[]⟩, .int .i64 0, .int .i64 0, .int .i64 0, .int .i64 0, .int .i64 0, .int .i64 0, .int .i64 0, .string ⟨#[]⟩, .string ⟨#[]⟩, .bool false] 24
    rw [World.size_alloc, World.size_alloc] at h
    exact h
  have B0 : Hid (Below w.heap.size w (((w.alloc (.cells #[.string mc, .int .i64 ip, .int .i64 po, .int .i64 di, .int .i64 st, .int .i64 un, .int .i64 nx, .int .i64 wa, .string inn, .string out, .bool fin] 24)).alloc (.cells #[.int .i64 sp, .int .i64 dp, .int .i64 sq, .int .i64 ac, .int .i64 fl, .int .i64 wi, .string da] 27)).alloc (.cells #[.string ⟨#[]⟩, .int .i64 0, .int .i64 0, .int .i64 0, .int .i64 0, .int .i64 0, .int .i64 0, .int .i64 0, .string ⟨#[]⟩, .string ⟨#[]⟩, .bool false] 24))) := ((((Below.refl _ _).alloc (Nat.le_refl _) _).alloc (by simp) _).alloc (by simp; omega) _)
  go_enter Try.func9, Try.ntmps9
  go_wp2_with (first | (refine wpl_get rfl _ rfl _ rfl (by assumption) rfl ?_) | (refine wpl_getS rfl _ rfl _ rfl (by assumption) rfl ?_) | fail)
  refine (TK.out _).mono ?_
  rintro e w1 ⟨rfl, g1⟩
  have b1 := g1.below
  have C1 : Bx w1 w.heap.size [.string mc, .int .i64 ip, .int .i64 po, .int .i64 di, .int .i64 st, .int .i64 un, .int .i64 nx, .int .i64 wa, .string inn, .string out, .bool fin] := C0.below b1
  have G1 : Bx w1 (w.heap.size + 1) [.int .i64 sp, .int .i64 dp, .int .i64 sq, .int .i64 ac, .int .i64 fl, .int .i64 wi, .string da] := G0.below b1
  have R1 : Bx w1 (w.heap.size + 1 + 1) [.string ⟨#[]⟩, .int .i64 0, .int .i64 0, .int .i64 0, .int .i64 0, .int .i64 0, .int .i64 0, .int .i64 0, .string ⟨#[]⟩, .string ⟨#[]⟩, .bool false] := R0.below b1
  have B1 : Hid (Below w.heap.size w w1) := B0.out.trans (b1.mono B0.out.size)
  clear b1 g1
  have gq0 : w1.cell? ⟨w.heap.size + 1, 0, none⟩ = some (.int .i64 sp) := G1.cell 0 rfl
  have gq1 : w1.cell? ⟨w.heap.size + 1, 1, none⟩ = some (.int .i64 dp) := G1.cell 1 rfl
  have gq2 : w1.cell? ⟨w.heap.size + 1, 2, none⟩ = some (.int .i64 sq) := G1.cell 2 rfl
  have gq3 : w1.cell? ⟨w.heap.size + 1, 3, none⟩ = some (.int .i64 ac) := G1.cell 3 rfl
  have gq4 : w1.cell? ⟨w.heap.size + 1, 4, none⟩ = some (.int .i64 fl) := G1.cell 4 rfl
  have gq5 : w1.cell? ⟨w.heap.size + 1, 5, none⟩ = some (.int .i64 wi) := G1.cell 5 rfl
  have gq6 : w1.cell? ⟨w.heap.size + 1, 6, none⟩ = some (.string da) := G1.cell 6 rfl
  go_wp2_with (first | (refine wpl_get rfl _ rfl _ rfl (by assumption) rfl ?_) | (refine wpl_getS rfl _ rfl _ rfl (by assumption) rfl ?_) | fail)
  refine (TSG.out _).mono ?_
  rintro e w2 ⟨rfl, g2⟩
  have b2 := g2.below
  have C2 : Bx w2 w.heap.size [.string mc, .int .i64 ip, .int .i64 po, .int .i64 di, .int .i64 st, .int .i64 un, .int .i64 nx, .int .i64 wa, .string inn, .string out, .bool fin] := C1.below b2
  have G2 : Bx w2 (w.heap.size + 1) [.int .i64 sp, .int .i64 dp, .int .i64 sq, .int .i64 ac, .int .i64 fl, .int .i64 wi, .string da] := G1.below b2
  have R2 : Bx w2 (w.heap.size + 1 + 1) [.string ⟨#[]⟩, .int .i64 0, .int .i64 0, .int .i64 0, .int .i64 0, .int .i64 0, .int .i64 0, .int .i64 0, .string ⟨#[]⟩, .string ⟨#[]⟩, .bool false] := R1.below b2
  have B2 : Hid (Below w.heap.size w w2) := B1.out.trans (b2.mono B1.out.size)
  clear b2 g2
  clear C1 G1 R1 B1 gq0 gq1 gq2 gq3 gq4 gq5 gq6
  have hs2 : w.heap.size + 3 ≤ w2.heap.size := by
    have := World.block_lt_of_cell? w2 _ (R2.cell 0 rfl)
    dsimp only at this
    omega
  go_wp2_with (first | (refine wpl_get rfl _ rfl _ rfl (by assumption) rfl ?_) | (refine wpl_getS rfl _ rfl _ rfl (by assumption) rfl ?_) | fail)
  refine (TT.out _).mono ?_
  rintro e w3 ⟨v3, rfl, o3, b3⟩
  have R3 : Bx w3 (w.heap.size + 1 + 1) [.string ⟨#[]⟩, .int .i64 0, .int .i64 0, .int .i64 0, .int .i64 0, .int .i64 0, .int .i64 0, .int .i64 0, .string ⟨#[]⟩, .string ⟨#[]⟩, .bool false] := R2.below b3
  have B3 : Hid (Below w.heap.size w w3) := B2.out.trans (b3.mono B2.out.size)
  have O3 : Hid (OwnS sgG 7 27 w3 (w.heap.size + 3) v3 XL) := o3.lower hs2
  clear o3 b3 C2 G2 R2 B2
  have RA : Bx (w3.alloc (.cells #[.string xm, .int .i64 xi, .int .i64 xp, .int .i64 xd, .int .i64 xs, .int .i64 xu, .int .i64 xn, .int .i64 xw, .string xI, .string xO, .bool xF] 24)) (w.heap.size + 1 + 1) [.string ⟨#[]⟩, .int .i64 0, .int .i64 0, .int .i64 0, .int .i64 0, .int .i64 0, .int .i64 0, .int .i64 0, .string ⟨#[]⟩, .string ⟨#[]⟩, .bool false] := R3.below ((Below.refl _ _).alloc (Nat.le_refl _) _)
  have BA : Hid (Below w.heap.size w (w3.alloc (.cells #[.string xm, .int .i64 xi, .int .i64 xp, .int .i64 xd, .int .i64 xs, .int .i64 xu, .int .i64 xn, .int .i64 xw, .string xI, .string xO, .bool xF] 24))) := B3.out.alloc B3.out.size _
  have OA : Hid (OwnS sgG 7 27 (w3.alloc (.cells #[.string xm, .int .i64 xi, .int .i64 xp, .int .i64 xd, .int .i64 xs, .int .i64 xu, .int .i64 xn, .int .i64 xw, .string xI, .string xO, .bool xF] 24)) (w.heap.size + 3) (v3) XL) := O3.out.now ((Below.refl _ _).alloc (Nat.le_refl _) _)
  go_wp2_with (first | (refine wpl_put rfl _ _ rfl (w.heap.size + 1 + 1) _ rfl rfl RA rfl rfl rfl ?_; intro w5 hw5 R5; have B5 : Hid (Below w.heap.size w w5) := (by rw [hw5]; exact below_cells (by omega) _ _ _ BA.out); have O5 : Hid (OwnS sgG 7 27 w5 w.heap.size (v3) XL) := (by rw [hw5]; exact (own_cells (by omega) _ _ _ OA.out).lower (by omega)); clear hw5) | (refine wpl_get rfl _ rfl _ rfl (by assumption) rfl ?_) | fail)
  have xx0 : w5.cell? ⟨w.heap.size + 1 + 1, 0, none⟩ = some (.string xm) := R5.cell 0 rfl
  have xx1 : w5.cell? ⟨w.heap.size + 1 + 1, 1, none⟩ = some (.int .i64 xi) := R5.cell 1 rfl
  have xx2 : w5.cell? ⟨w.heap.size + 1 + 1, 2, none⟩ = some (.int .i64 xp) := R5.cell 2 rfl
  have xx3 : w5.cell? ⟨w.heap.size + 1 + 1, 3, none⟩ = some (.int .i64 xd) := R5.cell 3 rfl
  have xx4 : w5.cell? ⟨w.heap.size + 1 + 1, 4, none⟩ = some (.int .i64 xs) := R5.cell 4 rfl
  have xx5 : w5.cell? ⟨w.heap.size + 1 + 1, 5, none⟩ = some (.int .i64 xu) := R5.cell 5 rfl
  have xx6 : w5.cell? ⟨w.heap.size + 1 + 1, 6, none⟩ = some (.int .i64 xn) := R5.cell 6 rfl
  have xx7 : w5.cell? ⟨w.heap.size + 1 + 1, 7, none⟩ = some (.int .i64 xw) := R5.cell 7 rfl
  have xx8 : w5.cell? ⟨w.heap.size + 1 + 1, 8, none⟩ = some (.string xI) := R5.cell 8 rfl
  have xx9 : w5.cell? ⟨w.heap.size + 1 + 1, 9, none⟩ = some (.string xO) := R5.cell 9 rfl
  have xx10 : w5.cell? ⟨w.heap.size + 1 + 1, 10, none⟩ = some (.bool xF) := R5.cell 10 rfl
  (try simp only [Exit.inBlock, Exit.then])
  refine bodyPost_ret (v := .tuple #[.agg #[.string xm, .int .i64 xi, .int .i64 xp, .int .i64 xd, .int .i64 xs, .int .i64 xu, .int .i64 xn, .int .i64 xw, .string xI, .string xO, .bool xF], v3, .int .i64 0]) (by simp [results, Try.results9, go_sem, xx0, xx1, xx2, xx3, xx4, xx5, xx6, xx7, xx8, xx9, xx10]; try rfl) rfl ?_
  exact ⟨_, rfl, O5.out, B5.out⟩
end Go.Proofs.Ytfgghffgfefgpaa

namespace Go.Proofs.Ytfgghffgfefgpaa
open Go.RowKit Go.PlainAid Go.Proofs.Ytfgghffgfefgpaa.Bt Go.Sort
set_option linter.unusedVariables false
set_option maxRecDepth 20000
/-- What is marked. -/
def mkSeg (k : Nat) : SegV := ⟨1 + 7 * (k : Int), 1 + 7 * (k : Int) + 1, 1 + 7 * (k : Int) + 1 + 1, 1 + 7 * (k : Int) + 1 + 1 + 1, 1 + 7 * (k : Int) + 1 + 1 + 1 + 1, 1 + 7 * (k : Int) + 1 + 1 + 1 + 1 + 1, mtS (1 + 7 * k + 6)⟩
def mk7 (n : Nat) : List SegV := (List.range n).map mkSeg
theorem mk7_len (n : Nat) : (mk7 n).length = n := by simp [mk7]
theorem mk7_at (n i : Nat) (h : i < n) : (mk7 n)[i]? = some (mkSeg i) := by rw [mk7, List.getElem?_map, List.getElem?_range h]; rfl
theorem mkSeg_ok (k : Nat) (h : k ≤ 1048576) : SgRok (mkSeg k) := by
  unfold SgRok mkSeg
  dsimp only
  exact ⟨int_wf9 (by omega) (by omega), int_wf9 (by omega) (by omega), int_wf9 (by omega) (by omega), int_wf9 (by omega) (by omega), int_wf9 (by omega) (by omega), int_wf9 (by omega) (by omega), Nat.le_trans (mtS_len _ (by omega)) (by unfold maxLen; omega)⟩
theorem mk7_ok (n : Nat) (h : n ≤ 1048576) : ∀ x, x ∈ mk7 n → SgRok x := by
  intro x hx
  unfold mk7 at hx
  simp at hx
  obtain ⟨i, hi, rfl⟩ := hx
  exact mkSeg_ok i (by omega)
set_option maxHeartbeats 4000000 in
theorem markSegmentS_any (a : Option Addr) (n cap B : Nat) (L : List SegV) (w : World) (h : OwnS sgG 7 27 w B (.slice a n cap) L) (hlen : n ≤ 1048576) :
    Calls Try.prog 28 #[.slice a n cap, .int .i64 1] w fun e w' => e = .returned (.int .i64 (1 + 7 * (n : Int))) ∧ OwnS sgG 7 27 w' B (.slice a n cap) (mk7 n) ∧ w.grownBy w' (Value.slice a n cap).ownBlock := by
  have H : Hid (OwnS sgG 7 27 w B (.slice a n cap) L) := h
  have hn := h.len
  clear h
  go_enter Try.func28, Try.ntmps28
  go_wp2
  go_loopw [1, 5] (fun m i wr => ∃ (k : Nat) (L' : List SegV), k ≤ n ∧ i = .int .i64 k ∧ m = .int .i64 (1 + 7 * (k : Int)) ∧ Hid (OwnS sgG 7 27 wr B (.slice a n cap) L' ∧ L'.length = n ∧ L'.take k = (mk7 n).take k ∧ w.grownBy wr (Value.slice a n cap).ownBlock)) (fun _ i _ => n - (intOf i).toNat)
  case atStart => exact ⟨0, L, Nat.zero_le _, rfl, rfl, H.out, hn, rfl, grown_refl w _⟩
  case round =>
    obtain ⟨k, L', hk, rfl, rfl, X⟩ := hrel
    by_cases hlt : k < n
    · obtain ⟨g, rfl, hBg, hg, -⟩ := X.out.1.form (by rw [X.out.2.1]; omega)
      obtain ⟨x, hx⟩ := at_of (k := k) X.out.2.1 hlt
      have hltz : (k : Int) < (n : Int) := by omega
      obtain ⟨c0, z0⟩ := X.out.1.cell sgG_len (j := 0) hx rfl
      obtain ⟨c1, z1⟩ := X.out.1.cell sgG_len (j := 1) hx rfl
      obtain ⟨c2, z2⟩ := X.out.1.cell sgG_len (j := 2) hx rfl
      obtain ⟨c3, z3⟩ := X.out.1.cell sgG_len (j := 3) hx rfl
      obtain ⟨c4, z4⟩ := X.out.1.cell sgG_len (j := 4) hx rfl
      obtain ⟨c5, z5⟩ := X.out.1.cell sgG_len (j := 5) hx rfl
      replace c0 : wr.cell? ⟨g, k * 7, none⟩ = some (.int .i64 x.sp) := c0
      replace z0 : wr.frozen? ⟨g, k * 7, none⟩ = false := z0
      have s0 := X.out.1.set1 sgG_len (j := 0) (y := { x with sp := 1 + 7 * (k : Int) }) hx (by omega) rfl
      have hx0 : (L'.set k { x with sp := 1 + 7 * (k : Int) })[k]? = some { x with sp := 1 + 7 * (k : Int) } := List.getElem?_set_self (by rw [X.out.2.1]; exact hlt)
      have s1 := s0.1.set1 sgG_len (j := 1) (y := { x with sp := 1 + 7 * (k : Int), dp := 1 + 7 * (k : Int) + 1 }) hx0 (by omega) rfl
      rw [List.set_set] at s1
      have hx1 : (L'.set k { x with sp := 1 + 7 * (k : Int), dp := 1 + 7 * (k : Int) + 1 })[k]? = some { x with sp := 1 + 7 * (k : Int), dp := 1 + 7 * (k : Int) + 1 } := List.getElem?_set_self (by rw [X.out.2.1]; exact hlt)
      have s2 := s1.1.set1 sgG_len (j := 2) (y := { x with sp := 1 + 7 * (k : Int), dp := 1 + 7 * (k : Int) + 1, sq := 1 + 7 * (k : Int) + 1 + 1 }) hx1 (by omega) rfl
      rw [List.set_set] at s2
      have hx2 : (L'.set k { x with sp := 1 + 7 * (k : Int), dp := 1 + 7 * (k : Int) + 1, sq := 1 + 7 * (k : Int) + 1 + 1 })[k]? = some { x with sp := 1 + 7 * (k : Int), dp := 1 + 7 * (k : Int) + 1, sq := 1 + 7 * (k : Int) + 1 + 1 } := List.getElem?_set_self (by rw [X.out.2.1]; exact hlt)
      have s3 := s2.1.set1 sgG_len (j := 3) (y := { x with sp := 1 + 7 * (k : Int), dp := 1 + 7 * (k : Int) + 1, sq := 1 + 7 * (k : Int) + 1 + 1, ac := 1 + 7 * (k : Int) + 1 + 1 + 1 }) hx2 (by omega) rfl
      rw [List.set_set] at s3
      have hx3 : (L'.set k { x with sp := 1 + 7 * (k : Int), dp := 1 + 7 * (k : Int) + 1, sq := 1 + 7 * (k : Int) + 1 + 1, ac := 1 + 7 * (k : Int) + 1 + 1 + 1 })[k]? = some { x with sp := 1 + 7 * (k : Int), dp := 1 + 7 * (k : Int) + 1, sq := 1 + 7 * (k : Int) + 1 + 1, ac := 1 + 7 * (k : Int) + 1 + 1 + 1 } := List.getElem?_set_self (by rw [X.out.2.1]; exact hlt)
      have s4 := s3.1.set1 sgG_len (j := 4) (y := { x with sp := 1 + 7 * (k : Int), dp := 1 + 7 * (k : Int) + 1, sq := 1 + 7 * (k : Int) + 1 + 1, ac := 1 + 7 * (k : Int) + 1 + 1 + 1, fl := 1 + 7 * (k : Int) + 1 + 1 + 1 + 1 }) hx3 (by omega) rfl
      rw [List.set_set] at s4
      have hx4 : (L'.set k { x with sp := 1 + 7 * (k : Int), dp := 1 + 7 * (k : Int) + 1, sq := 1 + 7 * (k : Int) + 1 + 1, ac := 1 + 7 * (k : Int) + 1 + 1 + 1, fl := 1 + 7 * (k : Int) + 1 + 1 + 1 + 1 })[k]? = some { x with sp := 1 + 7 * (k : Int), dp := 1 + 7 * (k : Int) + 1, sq := 1 + 7 * (k : Int) + 1 + 1, ac := 1 + 7 * (k : Int) + 1 + 1 + 1, fl := 1 + 7 * (k : Int) + 1 + 1 + 1 + 1 } := List.getElem?_set_self (by rw [X.out.2.1]; exact hlt)
      have s5 := s4.1.set1 sgG_len (j := 5) (y := { x with sp := 1 + 7 * (k : Int), dp := 1 + 7 * (k : Int) + 1, sq := 1 + 7 * (k : Int) + 1 + 1, ac := 1 + 7 * (k : Int) + 1 + 1 + 1, fl := 1 + 7 * (k : Int) + 1 + 1 + 1 + 1, wi := 1 + 7 * (k : Int) + 1 + 1 + 1 + 1 + 1 }) hx4 (by omega) rfl
      rw [List.set_set] at s5
      have hx5 : (L'.set k { x with sp := 1 + 7 * (k : Int), dp := 1 + 7 * (k : Int) + 1, sq := 1 + 7 * (k : Int) + 1 + 1, ac := 1 + 7 * (k : Int) + 1 + 1 + 1, fl := 1 + 7 * (k : Int) + 1 + 1 + 1 + 1, wi := 1 + 7 * (k : Int) + 1 + 1 + 1 + 1 + 1 })[k]? = some { x with sp := 1 + 7 * (k : Int), dp := 1 + 7 * (k : Int) + 1, sq := 1 + 7 * (k : Int) + 1 + 1, ac := 1 + 7 * (k : Int) + 1 + 1 + 1, fl := 1 + 7 * (k : Int) + 1 + 1 + 1 + 1, wi := 1 + 7 * (k : Int) + 1 + 1 + 1 + 1 + 1 } := List.getElem?_set_self (by rw [X.out.2.1]; exact hlt)
      have HM : Hid (∀ w, Calls Try.prog 55 #[.int .i64 (1 + 7 * (k : Int) + 1 + 1 + 1 + 1 + 1 + 1)] w fun e w' => e = .returned (.string (mtS (1 + 7 * k + 6))) ∧ Grw w w') := fun w => by
        have := markText_any (1 + 7 * k + 6) w (by omega) (by omega)
        rw [show (((1 + 7 * k + 6 : Nat)) : Int) = 1 + 7 * (k : Int) + 1 + 1 + 1 + 1 + 1 + 1 by omega] at this
        exact this
      have Y0 : ∀ W1, W1 = ((((((wr.setCell ⟨g, k * 7, none⟩ (.int .i64 (1 + 7 * (k : Int)))).setCell ⟨g, k * 7 + 1, none⟩ (.int .i64 (1 + 7 * (k : Int) + 1))).setCell ⟨g, k * 7 + 2, none⟩ (.int .i64 (1 + 7 * (k : Int) + 1 + 1))).setCell ⟨g, k * 7 + 3, none⟩ (.int .i64 (1 + 7 * (k : Int) + 1 + 1 + 1))).setCell ⟨g, k * 7 + 4, none⟩ (.int .i64 (1 + 7 * (k : Int) + 1 + 1 + 1 + 1))).setCell ⟨g, k * 7 + 5, none⟩ (.int .i64 (1 + 7 * (k : Int) + 1 + 1 + 1 + 1 + 1))) → OwnS sgG 7 27 W1 B (.slice (some ⟨g, 0, none⟩) n cap) (L'.set k { x with sp := 1 + 7 * (k : Int), dp := 1 + 7 * (k : Int) + 1, sq := 1 + 7 * (k : Int) + 1 + 1, ac := 1 + 7 * (k : Int) + 1 + 1 + 1, fl := 1 + 7 * (k : Int) + 1 + 1 + 1 + 1, wi := 1 + 7 * (k : Int) + 1 + 1 + 1 + 1 + 1 }) ∧ w.grownBy W1 (some g) := by
        intro W1 hW1
        subst hW1
        exact ⟨s5.1, grown_tr (grown_tr (grown_tr (grown_tr (grown_tr (grown_tr X.out.2.2.2 s0.2) s1.2) s2.2) s3.2) s4.2) s5.2⟩
      have Y1 : Hid (OwnS sgG 7 27 (((((((wr.setCell ⟨g, k * 7, none⟩ (.int .i64 (1 + 7 * (k : Int)))).setCell ⟨g, k * 7 + 1, none⟩ (.int .i64 (1 + 7 * (k : Int) + 1))).setCell ⟨g, k * 7 + 2, none⟩ (.int .i64 (1 + 7 * (k : Int) + 1 + 1))).setCell ⟨g, k * 7 + 3, none⟩ (.int .i64 (1 + 7 * (k : Int) + 1 + 1 + 1))).setCell ⟨g, k * 7 + 4, none⟩ (.int .i64 (1 + 7 * (k : Int) + 1 + 1 + 1 + 1))).setCell ⟨g, k * 7 + 5, none⟩ (.int .i64 (1 + 7 * (k : Int) + 1 + 1 + 1 + 1 + 1)))) B (.slice (some ⟨g, 0, none⟩) n cap) (L'.set k { x with sp := 1 + 7 * (k : Int), dp := 1 + 7 * (k : Int) + 1, sq := 1 + 7 * (k : Int) + 1 + 1, ac := 1 + 7 * (k : Int) + 1 + 1 + 1, fl := 1 + 7 * (k : Int) + 1 + 1 + 1 + 1, wi := 1 + 7 * (k : Int) + 1 + 1 + 1 + 1 + 1 }) ∧ w.grownBy (((((((wr.setCell ⟨g, k * 7, none⟩ (.int .i64 (1 + 7 * (k : Int)))).setCell ⟨g, k * 7 + 1, none⟩ (.int .i64 (1 + 7 * (k : Int) + 1))).setCell ⟨g, k * 7 + 2, none⟩ (.int .i64 (1 + 7 * (k : Int) + 1 + 1))).setCell ⟨g, k * 7 + 3, none⟩ (.int .i64 (1 + 7 * (k : Int) + 1 + 1 + 1))).setCell ⟨g, k * 7 + 4, none⟩ (.int .i64 (1 + 7 * (k : Int) + 1 + 1 + 1 + 1))).setCell ⟨g, k * 7 + 5, none⟩ (.int .i64 (1 + 7 * (k : Int) + 1 + 1 + 1 + 1 + 1)))) (some g)) := Y0 _ rfl
      have hT : Hid (L'.length = n ∧ L'.take k = (mk7 n).take k) := ⟨X.out.2.1, X.out.2.2.1⟩
      have hx6 : Hid ((L'.set k { x with sp := 1 + 7 * (k : Int), dp := 1 + 7 * (k : Int) + 1, sq := 1 + 7 * (k : Int) + 1 + 1, ac := 1 + 7 * (k : Int) + 1 + 1 + 1, fl := 1 + 7 * (k : Int) + 1 + 1 + 1 + 1, wi := 1 + 7 * (k : Int) + 1 + 1 + 1 + 1 + 1 })[k]? = some { x with sp := 1 + 7 * (k : Int), dp := 1 + 7 * (k : Int) + 1, sq := 1 + 7 * (k : Int) + 1 + 1, ac := 1 + 7 * (k : Int) + 1 + 1 + 1, fl := 1 + 7 * (k : Int) + 1 + 1 + 1 + 1, wi := 1 + 7 * (k : Int) + 1 + 1 + 1 + 1 + 1 }) := hx5
      clear s0 s1 s2 s3 s4 s5 hx0 hx1 hx2 hx3 hx4 hx5 X Y0 hx
      go_wp2_with fail
      refine (HM.out _).mono ?_
      rintro e w3 ⟨rfl, g3⟩
      have o3 := Y1.out.1.now g3.below
      obtain ⟨c6, z6⟩ := o3.cell sgG_len (j := 6) hx6.out rfl
      have Y : Hid (OwnS sgG 7 27 (w3.setCell ⟨g, k * 7 + 6, none⟩ (.string (mtS (1 + 7 * k + 6)))) B (.slice (some ⟨g, 0, none⟩) n cap) (L'.set k (mkSeg k)) ∧ (L'.set k (mkSeg k)).length = n ∧ (L'.set k (mkSeg k)).take (k + 1) = (mk7 n).take (k + 1) ∧ w.grownBy (w3.setCell ⟨g, k * 7 + 6, none⟩ (.string (mtS (1 + 7 * k + 6)))) (some g)) := by
        have h2 := o3.set1 sgG_len (j := 6) (y := mkSeg k) (u := .string (mtS (1 + 7 * k + 6))) hx6.out (by omega) rfl
        rw [List.set_set] at h2
        exact ⟨h2.1, by rw [List.length_set]; exact hT.out.1, takeS_set (by rw [hT.out.1, mk7_len]) (mk7_at n k hlt) hT.out.2, grown_tr (grown_tr Y1.out.2 (g3.grown _)) h2.2⟩
      clear Y1 o3 hx6 g3 hT HM c0 z0 c1 z1 c2 z2 c3 z3 c4 z4 c5 z5
      go_wp2
      go_roundw
      case rel => exact ⟨k + 1, _, by omega, by go_num, by go_num, Y⟩
      case measure => simp [intOf]; omega
    · obtain rfl : k = n := by omega
      have e1 : L' = mk7 k := by
        have := X.out.2.2.1
        rwa [List.take_of_length_le (by rw [X.out.2.1]; exact Nat.le_refl _), List.take_of_length_le (by rw [mk7_len]; exact Nat.le_refl _)] at this
      subst e1
      go_wp2
      go_ret
      exact ⟨rfl, X.out.1, X.out.2.2.2⟩
set_option maxHeartbeats 4000000 in
theorem heldSegmentS_any (a : Option Addr) (n cap : Nat) (w : World) (h : Rw SgR 7 w a (mk7 n)) (hlen : n ≤ 1048576) :
    Calls Try.prog 29 #[.slice a n cap, .int .i64 1] w fun e w' => e = .returned (.int .i64 (1 + 7 * (n : Int))) ∧ Grw w w' := by
  have H : Hid (Rw SgR 7 w a (mk7 n)) := h
  clear h
  have hmix : Try.prog.follows .mixedOrders = true := by kernel_rfl
  go_enter Try.func29, Try.ntmps29
  go_wp2
  go_loopw [1, 5] (fun m i wr => ∃ k : Nat, k ≤ n ∧ i = .int .i64 k ∧ m = .int .i64 (1 + 7 * (k : Int)) ∧ Hid (Grw w wr)) (fun _ i _ => n - (intOf i).toNat)
  case atStart => exact ⟨0, Nat.zero_le _, rfl, rfl, Grw.refl w⟩
  case round =>
    obtain ⟨k, hk, rfl, rfl, HG⟩ := hrel
    by_cases hlt : k < n
    · obtain ⟨b, off, vs, rfl, hb, hvl, hR, hc⟩ := H.out.at FR.kp HG.out.below (mk7_at n k hlt)
      obtain ⟨rfl, -⟩ := hR
      have q0 : wr.cell? ⟨b, off + k * 7, none⟩ = some (.int .i64 (1 + 7 * (k : Int))) := hc 0 _ rfl
      have q1 : wr.cell? ⟨b, off + k * 7 + 1, none⟩ = some (.int .i64 (1 + 7 * (k : Int) + 1)) := hc 1 _ rfl
      have q2 : wr.cell? ⟨b, off + k * 7 + 2, none⟩ = some (.int .i64 (1 + 7 * (k : Int) + 1 + 1)) := hc 2 _ rfl
      have q3 : wr.cell? ⟨b, off + k * 7 + 3, none⟩ = some (.int .i64 (1 + 7 * (k : Int) + 1 + 1 + 1)) := hc 3 _ rfl
      have q4 : wr.cell? ⟨b, off + k * 7 + 4, none⟩ = some (.int .i64 (1 + 7 * (k : Int) + 1 + 1 + 1 + 1)) := hc 4 _ rfl
      have q5 : wr.cell? ⟨b, off + k * 7 + 5, none⟩ = some (.int .i64 (1 + 7 * (k : Int) + 1 + 1 + 1 + 1 + 1)) := hc 5 _ rfl
      have q6 : wr.cell? ⟨b, off + k * 7 + 6, none⟩ = some (.string (mtS (1 + 7 * k + 6))) := hc 6 _ rfl
      have y6 : ∀ n os, (grow (wr.drewN n) os).cell? ⟨b, off + k * 7 + 6, none⟩ = some (.string (mtS (1 + 7 * k + 6))) := fun n os => bkeep (Grw.below ⟨n, os, rfl⟩) q6
      have hn0 : ((1 + 7 * (k : Int)) != (1 + 7 * (k : Int))) = false := by simp
      have hn1 : ((1 + 7 * (k : Int) + 1) != (1 + 7 * (k : Int) + 1)) = false := by simp
      have hn2 : ((1 + 7 * (k : Int) + 1 + 1) != (1 + 7 * (k : Int) + 1 + 1)) = false := by simp
      have hn3 : ((1 + 7 * (k : Int) + 1 + 1 + 1) != (1 + 7 * (k : Int) + 1 + 1 + 1)) = false := by simp
      have hn4 : ((1 + 7 * (k : Int) + 1 + 1 + 1 + 1) != (1 + 7 * (k : Int) + 1 + 1 + 1 + 1)) = false := by simp
      have hn5 : ((1 + 7 * (k : Int) + 1 + 1 + 1 + 1 + 1) != (1 + 7 * (k : Int) + 1 + 1 + 1 + 1 + 1)) = false := by simp
      have HM : Hid (∀ w, Calls Try.prog 55 #[.int .i64 (1 + 7 * (k : Int) + 1 + 1 + 1 + 1 + 1 + 1)] w fun e w' => e = .returned (.string (mtS (1 + 7 * k + 6))) ∧ Grw w w') := fun w => by
        have := markText_any (1 + 7 * k + 6) w (by omega) (by omega)
        rw [show (((1 + 7 * k + 6 : Nat)) : Int) = 1 + 7 * (k : Int) + 1 + 1 + 1 + 1 + 1 + 1 by omega] at this
        exact this
      generalize mtS (1 + 7 * k + 6) = T at *
      have hT : (T.toList == T.toList) = true := by simp
      have hltz : (k : Int) < (n : Int) := by omega
      clear hc hvl
      go_wp2_with fail
      refine wp_region_quiet_grown (by assumption) (by kernel_rfl) ?_
      repeat (go_big_quiet_step (first | fail | (go_at_call 55; exact Calls.grown_of (HM.out _))))
      refine wpQuiet_nil ?_
      intro _ hw'
      obtain ⟨⟨nq, osq⟩, hw''⟩ := hw'
      subst hw''
      have HG2 : Hid (Grw w (grow (wr.drewN nq) osq)) := HG.out.trans ⟨nq, osq, rfl⟩
      clear y6 q0 q1 q2 q3 q4 q5 q6 HG HM
      generalize (grow (wr.drewN nq) osq) = w5 at *
      go_wp2
      go_roundw
      case rel => exact ⟨k + 1, by omega, by go_num, by go_num, HG2⟩
      case measure => simp [intOf]; omega
    · obtain rfl : k = n := by omega
      go_wp2
      go_ret
      exact ⟨rfl, HG.out⟩
end Go.Proofs.Ytfgghffgfefgpaa

namespace Go.Proofs.Ytfgghffgfefgpaa
open Go.RowKit
set_option linter.unusedVariables false

namespace Rel
/-- In the blocks of B nothing has turned; the streams are as they were; no block has gone. -/
structure Keep (B : Nat → Prop) (w w' : World) : Prop where
  os : w'.os = w.os
  tape : w'.tape = w.tape
  output : w'.output = w.output
  size : w.heap.size ≤ w'.heap.size
  block : ∀ k, B k → w'.heap[k]? = w.heap[k]?
theorem Keep.refl (B : Nat → Prop) (w : World) : Keep B w w := ⟨rfl, rfl, rfl, Nat.le_refl _, fun _ _ => rfl⟩
theorem Keep.trans {B : Nat → Prop} {a b c : World} (h : Keep B a b) (k : Keep B b c) : Keep B a c :=
  ⟨k.os.trans h.os, k.tape.trans h.tape, k.output.trans h.output, Nat.le_trans h.size k.size, fun i hi => (k.block i hi).trans (h.block i hi)⟩
theorem Keep.mono {B C : Nat → Prop} {a b : World} (h : Keep B a b) (hc : ∀ k, C k → B k) : Keep C a b := ⟨h.os, h.tape, h.output, h.size, fun i hi => h.block i (hc i hi)⟩

def upd (σ : Nat → Value) (i : Nat) (v : Value) : Nat → Value := fun j => if j = i then v else σ j
theorem upd_self (σ : Nat → Value) (i : Nat) (v : Value) : upd σ i v i = v := if_pos rfl
theorem upd_ne (σ : Nat → Value) {i j : Nat} (v : Value) (h : j ≠ i) : upd σ i v j = σ j := if_neg h

/-- What an operation leaves: a fact of the values so far and of the world, and the blocks that it owns. -/
structure Rsc where
  fact : (Nat → Value) → World → Prop
  own : (Nat → Value) → Nat → Prop
  dm : List Nat
  tk : List Nat
  nd : List Nat

/-- The fact hangs on its own blocks and those of Bs alone, and on the values of dm alone. -/
structure Rsc.Ok (Bs : Nat → Prop) (r : Rsc) : Prop where
  loc : ∀ σ w w', r.fact σ w → Keep (fun b => Bs b ∨ r.own σ b) w w' → r.fact σ w'
  ext : ∀ σ σ' : Nat → Value, (∀ j, j ∈ r.dm → σ' j = σ j) → (∀ w, r.fact σ w → r.fact σ' w) ∧ (∀ b, r.own σ' b → r.own σ b)

def dstOf (ops : Array Oper) (k : Nat) : Option Tmp := (ops[k]?).bind (·.dst)

/-- The frame with the values of those that are listed. -/
def mixFr (ops : Array Oper) (a0 : Act) (σ : Nat → Value) (L : Nat → Bool) : Nat → Act
  | 0 => a0
  | k + 1 => if L k then (mixFr ops a0 σ L k).put (dstOf ops k) (σ k) else mixFr ops a0 σ L k

def look (ops : Array Oper) (a0 : Act) (σ : Nat → Value) (L : Nat → Bool) (t : Nat) : Nat → Option Value
  | 0 => a0.tmps[t]?
  | k + 1 => if L k = true ∧ dstOf ops k = some t ∧ t < a0.tmps.size then some (σ k) else look ops a0 σ L t k

theorem mixFr_size (ops : Array Oper) (a0 : Act) (σ : Nat → Value) (L : Nat → Bool) : ∀ n, (mixFr ops a0 σ L n).tmps.size = a0.tmps.size
  | 0 => rfl
  | k + 1 => by
    unfold mixFr
    split
    · unfold Act.put
      split
      · simp [mixFr_size ops a0 σ L k]
      · exact mixFr_size ops a0 σ L k
    · exact mixFr_size ops a0 σ L k

theorem mixFr_look (ops : Array Oper) (a0 : Act) (σ : Nat → Value) (L : Nat → Bool) (t : Nat) : ∀ n, (mixFr ops a0 σ L n).tmps[t]? = look ops a0 σ L t n
  | 0 => rfl
  | k + 1 => by
    have ih := mixFr_look ops a0 σ L t k
    have hs := mixFr_size ops a0 σ L k
    unfold mixFr look
    by_cases hL : L k = true
    · rw [if_pos hL]
      cases hd : dstOf ops k with
      | none => simp only [Act.put]; rw [if_neg (by rintro ⟨_, h, _⟩; cases h)]; exact ih
      | some d =>
        simp only [Act.put]
        by_cases e : d = t
        · subst e
          by_cases hlt : d < a0.tmps.size
          · rw [if_pos ⟨hL, rfl, hlt⟩, Array.getElem?_setIfInBounds_self_of_lt (by rw [hs]; exact hlt)]
          · have hle : (mixFr ops a0 σ L k).tmps.size ≤ d := by rw [hs]; exact Nat.le_of_not_lt hlt
            rw [if_neg (by rintro ⟨_, _, h⟩; exact hlt h), ← ih, Array.setIfInBounds_eq_of_size_le hle]
        · rw [if_neg (by rintro ⟨_, h, _⟩; exact e (Option.some.inj h)), Array.getElem?_setIfInBounds_ne e]
          exact ih
    · rw [if_neg hL, if_neg (by rintro ⟨h, _⟩; exact hL h)]
      exact ih

theorem look_same {ops : Array Oper} {a0 : Act} {σ : Nat → Value} {L L' : Nat → Bool} {t : Nat} : ∀ n, (∀ k, k < n → dstOf ops k = some t → L k = L' k) → look ops a0 σ L t n = look ops a0 σ L' t n
  | 0, _ => rfl
  | k + 1, h => by
    unfold look
    rw [look_same k (fun j hj => h j (by omega))]
    by_cases e : dstOf ops k = some t
    · rw [h k (by omega) e]
    · rw [if_neg (fun x => e x.2.1), if_neg (fun x => e x.2.1)]
theorem look_cut {ops : Array Oper} {a0 : Act} {σ : Nat → Value} {L : Nat → Bool} {t i : Nat} (h : ∀ k, dstOf ops k = some t → k < i) : ∀ n, i ≤ n → look ops a0 σ L t n = look ops a0 σ L t i
  | 0, hn => by have : i = 0 := by omega
                subst this; rfl
  | k + 1, hn => by
    by_cases e : i = k + 1
    · rw [e]
    · rw [← look_cut h k (by omega)]
      conv => lhs; unfold look
      rw [if_neg (fun x => by have := h k x.2.1; omega)]

theorem mixFr_low {ops : Array Oper} {a0 : Act} {σ σ' : Nat → Value} {L L' : Nat → Bool} : ∀ n, (∀ k, k < n → L k = L' k ∧ σ k = σ' k) → mixFr ops a0 σ L n = mixFr ops a0 σ' L' n
  | 0, _ => rfl
  | k + 1, h => by
    unfold mixFr
    rw [mixFr_low k (fun j hj => h j (by omega)), (h k (by omega)).1, (h k (by omega)).2]

theorem mixFr_add {ops : Array Oper} {a0 : Act} {σ : Nat → Value} {L L' : Nat → Bool} {i : Nat} {v : Value} (hd : ∀ k, k ≠ i → ∀ d, dstOf ops i = some d → dstOf ops k ≠ some d) (hi : L i = false) (hi' : L' i = true) (hL : ∀ k, k ≠ i → L' k = L k) :
    ∀ n, i < n → mixFr ops a0 (upd σ i v) L' n = (mixFr ops a0 σ L n).put (dstOf ops i) v
  | 0, hn => by omega
  | k + 1, hn => by
    by_cases e : i = k
    · subst e
      unfold mixFr
      rw [if_pos hi', if_neg (by rw [hi]; exact Bool.false_ne_true), upd_self]
      rw [mixFr_low i (fun j hj => ⟨hL j (by omega), upd_ne σ v (by omega)⟩)]
    · have ih := mixFr_add (v := v) (σ := σ) (a0 := a0) hd hi hi' hL k (by omega)
      unfold mixFr
      rw [hL k (fun h => e h.symm), upd_ne σ v (fun h => e h.symm), ih]
      split
      · exact Act.put_comm _ _ _ (fun d h => hd k (fun h => e h.symm) d h)
      · rfl

def waits (o : Oper) (j : Nat) : Bool := o.after.any fun e => Region.binds .any e && e.on == j
def waitsAt (ops : Array Oper) (t i : Nat) : Bool := match ops[t]? with | some o => waits o i | none => false

/-- What the region and the resources must show by looking. -/
def check (ops : Array Oper) (R : List Rsc) (ini : List Nat) : Bool :=
  Region.noSelect ops && ini.all (fun k => decide (ops.size ≤ k) && ((R[k]?).map fun r => r.dm.isEmpty && r.tk.isEmpty).getD false) &&
  (List.range ops.size).all fun i => match ops[i]?, R[i]? with
    | some o, some r =>
      (o.after.all fun e => !Region.binds .any e || decide (e.on < i)) &&
      ((List.range ops.size).all fun j => match dstOf ops j with
        | none => true
        | some d => (j == i || dstOf ops i != some d) && (!(o.looksAt ops).contains d || waits o j)) &&
      ((r.tk ++ r.nd).all fun j => (waits o j || ini.contains j) && (List.range ops.size).all fun t => t == i || !(((R[t]?).map (·.tk)).getD []).contains j || waitsAt ops t i) &&
      r.dm.all (fun j => j == i || waits o j)
    | _, _ => false

/-- What an operation that has run has yielded. -/
def relUpon (P : Program) (post : Value → World → Prop) : Result Next → Prop
  | .ok (.value u) w' => post u w'
  | .ok .skip w' => post undef w'
  | .ok (.enter f args) w' => Calls P f args w' fun e w'' => ∃ v, e = .returned v ∧ post v w''
  | .ok (.row row args) w' => Rows P row args w' post
  | _ => False

/-- One operation: run in the frame of those ahead of it in the text, at a world where the facts that it wants hold. -/
def factsOf (Bs : Nat → Prop) (R : List Rsc) (σ : Nat → Value) (w : World) : List Nat → Prop
  | [] => True
  | j :: l => (∃ r, R[j]? = some r ∧ r.fact σ w ∧ ∀ b, r.own σ b → b < w.heap.size ∧ ¬ Bs b) ∧ factsOf Bs R σ w l

/-- What is asked of what it leaves. -/
structure Left (R : List Rsc) (r : Rsc) (i : Nat) (σ : Nat → Value) (w : World) (v : Value) (w' : World) : Prop where
  fact : r.fact (upd σ i v) w'
  own : ∀ b, r.own (upd σ i v) b → (∃ j rj, j ∈ r.tk ∧ R[j]? = some rj ∧ rj.own σ b) ∨ (w.heap.size ≤ b ∧ b < w'.heap.size)
  keep : Keep (fun b => b < w.heap.size ∧ ∀ j rj, j ∈ r.tk → R[j]? = some rj → ¬ rj.own σ b) w w'

def StepAt (P : Program) (ops : Array Oper) (Bs : Nat → Prop) (wS : World) (R : List Rsc) (i : Nat) (o : Oper) (r : Rsc) (Fr : (Nat → Value) → Act) : Prop :=
  ∀ σ w, Keep Bs wS w → factsOf Bs R σ w (r.tk ++ r.nd) →
    if Region.wanted o (yielded ops (Fr σ).tmps) = true then relUpon P (Left R r i σ w) ((execOp (Fr σ).eval o).run P w) else Left R r i σ w undef w

/-- All of them, in the order of the text. -/
def Walk (P : Program) (ops : Array Oper) (Bs : Nat → Prop) (wS : World) (R : List Rsc) : List Oper → List Rsc → Nat → ((Nat → Value) → Act) → Prop
  | o :: l, r :: rs, i, Fr => StepAt P ops Bs wS R i o r Fr ∧ Walk P ops Bs wS R l rs (i + 1) (fun σ => (Fr σ).put o.dst (σ i))
  | _, _, _, _ => True
def putAll : List Oper → Nat → Act → (Nat → Value) → Act
  | [], _, a, _ => a
  | o :: l, k, a, σ => putAll l (k + 1) (a.put o.dst (σ k)) σ

section
variable {P : Program} {ops : Array Oper} {Bs : Nat → Prop} {wS : World} {R : List Rsc} {ini fin : List Nat} {a0 : Act} {Q : Exit → Act → World → Prop}

def Held (ops : Array Oper) (R : List Rsc) (ini : List Nat) (listed : Array Bool) (k : Nat) : Prop :=
  (k ∈ ini ∨ (k < ops.size ∧ listed.getD k false = true)) ∧ ∀ t r, R[t]? = some r → t < ops.size → listed.getD t false = true → k ∉ r.tk

structure Inv (ops : Array Oper) (Bs : Nat → Prop) (wS : World) (R : List Rsc) (ini : List Nat) (a0 : Act) (listed : Array Bool) (σ : Nat → Value) (a : Act) (w : World) : Prop where
  sz : listed.size = ops.size
  fr : a = mixFr ops a0 σ (fun k => listed.getD k false) ops.size
  keep : Keep Bs wS w
  closed : ∀ t o, listed.getD t false = true → ops[t]? = some o → ∀ e ∈ o.after, Region.binds .any e = true → listed.getD e.on false = true
  held : ∀ k r, R[k]? = some r → Held ops R ini listed k → r.fact σ w ∧ ∀ b, r.own σ b → b < w.heap.size ∧ ¬ Bs b
  apart : ∀ j k rj rk, R[j]? = some rj → R[k]? = some rk → Held ops R ini listed j → Held ops R ini listed k → j ≠ k → ∀ b, rj.own σ b → ¬ rk.own σ b

structure Chk (ops : Array Oper) (R : List Rsc) (ini : List Nat) : Prop where
  nosel : Region.noSelect ops = true
  inis : ∀ k, k ∈ ini → ops.size ≤ k ∧ ∃ r, R[k]? = some r ∧ r.dm = []
  has : ∀ i, i < ops.size → ∃ o r, ops[i]? = some o ∧ R[i]? = some r
  low : ∀ (i : Nat) o, ops[i]? = some o → ∀ e ∈ o.after, Region.binds .any e = true → e.on < i
  dst : ∀ i j, i < ops.size → j ≠ i → ∀ d, dstOf ops i = some d → dstOf ops j ≠ some d
  looks : ∀ (i : Nat) o (j : Nat) d, ops[i]? = some o → dstOf ops j = some d → d ∈ o.looksAt ops → waits o j = true
  wants : ∀ (i : Nat) o r (j : Nat), ops[i]? = some o → R[i]? = some r → j ∈ r.tk ++ r.nd → (waits o j = true ∨ j ∈ ini) ∧ ∀ t rt, R[t]? = some rt → t < ops.size → t ≠ i → j ∈ rt.tk → waitsAt ops t i = true
  dm : ∀ (i : Nat) o r (j : Nat), ops[i]? = some o → R[i]? = some r → j ∈ r.dm → j = i ∨ waits o j = true

theorem dstOf_lt {j : Nat} {d : Tmp} (h : dstOf ops j = some d) : j < ops.size := by
  unfold dstOf at h
  cases ho : ops[j]? with
  | none => rw [ho] at h; cases h
  | some o => exact (Array.getElem?_eq_some_iff.1 ho).1

theorem chk_of (h : check ops R ini = true) : Chk ops R ini := by
  unfold check at h
  simp only [Bool.and_eq_true, List.all_eq_true, List.mem_range] at h
  obtain ⟨⟨h1, h2⟩, h3⟩ := h
  have at3 : ∀ i o, ops[i]? = some o → ∃ r, R[i]? = some r ∧
      (o.after.all fun e => !Region.binds .any e || decide (e.on < i)) = true ∧
      ((List.range ops.size).all fun j => match dstOf ops j with
        | none => true
        | some d => (j == i || dstOf ops i != some d) && (!(o.looksAt ops).contains d || waits o j)) = true ∧
      ((r.tk ++ r.nd).all fun j => (waits o j || ini.contains j) && (List.range ops.size).all fun t => t == i || !(((R[t]?).map (·.tk)).getD []).contains j || waitsAt ops t i) = true ∧
      r.dm.all (fun j => j == i || waits o j) = true := by
    intro i o ho
    have hi := (Array.getElem?_eq_some_iff.1 ho).1
    have := h3 i hi
    rw [ho] at this
    cases hr : R[i]? with
    | none => rw [hr] at this; simp at this
    | some r =>
      rw [hr] at this
      simp only [Bool.and_eq_true] at this
      exact ⟨r, rfl, this.1.1.1, this.1.1.2, this.1.2, this.2⟩
  refine ⟨h1, ?_, ?_, ?_, ?_, ?_, ?_, ?_⟩
  · intro k hk
    have := h2 k hk
    rw [decide_eq_true_eq] at this
    refine ⟨this.1, ?_⟩
    cases hr : R[k]? with
    | none => rw [hr] at this; simp at this
    | some r =>
      rw [hr] at this
      simp only [Option.map_some, Option.getD_some, Bool.and_eq_true] at this
      exact ⟨r, rfl, List.isEmpty_iff.1 this.2.1⟩
  · intro i hi
    obtain ⟨r, hr, _⟩ := at3 i ops[i] (Array.getElem?_eq_getElem hi)
    exact ⟨_, r, Array.getElem?_eq_getElem hi, hr⟩
  · intro i o ho e he hb
    obtain ⟨r, hr, h, _⟩ := at3 i o ho
    have := Array.all_eq_true_iff_forall_mem.1 h e he
    simpa [hb] using this
  · intro i j hi hne d hd hj
    obtain ⟨r, hr, _, h, _⟩ := at3 i ops[i] (Array.getElem?_eq_getElem hi)
    have := List.all_eq_true.1 h j (List.mem_range.2 (dstOf_lt hj))
    rw [hj] at this
    simp [hd, hne] at this
  · intro i o j d ho hj hl
    obtain ⟨r, hr, _, h, _⟩ := at3 i o ho
    have := List.all_eq_true.1 h j (List.mem_range.2 (dstOf_lt hj))
    rw [hj] at this
    simp only [Bool.and_eq_true, Bool.or_eq_true, Bool.not_eq_true'] at this
    rcases this.2 with hx | hx
    · rw [List.contains_iff_mem.2 hl] at hx; cases hx
    · exact hx
  · intro i o r j ho hr hj
    obtain ⟨r', hr', _, _, h, _⟩ := at3 i o ho
    rw [hr] at hr'; cases hr'
    have := List.all_eq_true.1 h j hj
    simp only [Bool.and_eq_true, Bool.or_eq_true, List.all_eq_true, List.mem_range, Bool.not_eq_true'] at this
    refine ⟨this.1.imp id (fun hx => List.contains_iff_mem.1 hx), fun t rt ht hlt hne hm => ?_⟩
    rcases this.2 t hlt with (hx | hx) | hx
    · exact absurd (by simpa using hx) hne
    · rw [ht] at hx; simp only [Option.map_some, Option.getD_some] at hx; rw [List.contains_iff_mem.2 hm] at hx; cases hx
    · exact hx
  · intro i o r j ho hr hj
    obtain ⟨r', hr', _, _, _, h⟩ := at3 i o ho
    rw [hr] at hr'; cases hr'
    have := List.all_eq_true.1 h j hj
    simpa using this

theorem waits_listed {listed : Array Bool} {o : Oper} {j : Nat} (hw : waits o j = true) (h : ∀ e ∈ o.after, Region.binds .any e = true → listed.getD e.on false = true) : listed.getD j false = true := by
  unfold waits at hw
  rw [Array.any_eq_true'] at hw
  obtain ⟨e, he, hx⟩ := hw
  simp only [Bool.and_eq_true, beq_iff_eq] at hx
  have := h e he hx.1
  rwa [hx.2] at this

theorem factsOf_of {σ : Nat → Value} {w : World} : ∀ l : List Nat, (∀ j, j ∈ l → ∃ r, R[j]? = some r ∧ r.fact σ w ∧ ∀ b, r.own σ b → b < w.heap.size ∧ ¬ Bs b) → factsOf Bs R σ w l
  | [], _ => trivial
  | j :: l, h => ⟨h j (by simp), factsOf_of l (fun i hi => h i (by simp [hi]))⟩

theorem walk_drop {l : List Oper} {ops : Array Oper} (hW : Walk P ops Bs wS R l R 0 (fun _ => a0)) (ho : ops = l.toArray) : ∀ k, k ≤ l.length → Walk P ops Bs wS R (l.drop k) (R.drop k) k (fun σ => mixFr ops a0 σ (fun _ => true) k) ∨ R.length < k
  | 0, _ => .inl (by
    rw [List.drop_zero, List.drop_zero]
    exact hW)
  | k + 1, hk => by
    rcases walk_drop hW ho k (by omega) with h | h
    · by_cases hr : k < R.length
      · rw [List.drop_eq_getElem_cons (show k < l.length by omega), List.drop_eq_getElem_cons hr] at h
        refine .inl ?_
        have h2 := h.2
        have e : ∀ σ, (mixFr ops a0 σ (fun _ => true) k).put (l[k]'(by omega)).dst (σ k) = mixFr ops a0 σ (fun _ => true) (k + 1) := fun σ => by
          conv => rhs; unfold mixFr
          rw [if_pos rfl]
          congr 1
          unfold dstOf
          rw [ho]
          simp [show k < l.length by omega]
        simp only [e] at h2
        exact h2
      · exact .inr (by omega)
    · exact .inr (by omega)

theorem walk_at {l : List Oper} (hW : Walk P l.toArray Bs wS R l R 0 (fun _ => a0)) {i : Nat} {o : Oper} {r : Rsc} (ho : l.toArray[i]? = some o) (hr : R[i]? = some r) :
    StepAt P l.toArray Bs wS R i o r (fun σ => mixFr l.toArray a0 σ (fun _ => true) i) := by
  have hi : i < l.length := by simpa using (Array.getElem?_eq_some_iff.1 ho).1
  have hri := (List.getElem?_eq_some_iff.1 hr).1
  rcases walk_drop hW rfl i (by omega) with h | h
  · rw [List.drop_eq_getElem_cons hi, List.drop_eq_getElem_cons hri] at h
    have h1 := h.1
    have e1 : l[i] = o := by simpa [hi] using ho
    have e2 : R[i] = r := by simpa [hri] using hr
    rw [e1, e2] at h1
    exact h1
  · omega

theorem putAll_mix {l : List Oper} {σ : Nat → Value} : ∀ m k, k + m = l.length → putAll (l.drop k) k (mixFr l.toArray a0 σ (fun _ => true) k) σ = mixFr l.toArray a0 σ (fun _ => true) l.length
  | 0, k, h => by
    have : k = l.length := by omega
    subst this
    simp [putAll]
  | m + 1, k, h => by
    rw [List.drop_eq_getElem_cons (show k < l.length by omega)]
    unfold putAll
    rw [← putAll_mix m (k + 1) (by omega)]
    congr 1
    conv => rhs; unfold mixFr
    rw [if_pos rfl]
    congr 1
    unfold dstOf
    simp [show k < l.length by omega]

theorem getD_t {listed : Array Bool} {i k : Nat} : (listed.setIfInBounds i true).getD k false = if k = i ∧ i < listed.size then true else listed.getD k false := by
  by_cases h : k = i
  · subst h
    by_cases hs : k < listed.size
    · simp [hs]
    · simp [hs]
  · rw [if_neg (fun x => h x.1)]
    exact getD_set_ne false (fun e => h e.symm)

/-- Whatever operation comes up: it runs as in the frame of the text. -/
theorem inv_run (hc : Chk ops R ini) {listed : Array Bool} {σ : Nat → Value} {a : Act} {w : World} (hI : Inv ops Bs wS R ini a0 listed σ a w) {i : Nat} {o : Oper} (ho : ops[i]? = some o) (hall : ∀ e ∈ o.after, Region.binds .any e = true → listed.getD e.on false = true) :
    execOp a.eval o = execOp (mixFr ops a0 σ (fun _ => true) i).eval o ∧ Region.wanted o (yielded ops a.tmps) = Region.wanted o (yielded ops (mixFr ops a0 σ (fun _ => true) i).tmps) := by
  have hi := (Array.getElem?_eq_some_iff.1 ho).1
  have key : ∀ d, d ∈ o.looksAt ops → a.tmps[d]? = (mixFr ops a0 σ (fun _ => true) i).tmps[d]? := by
    intro d hd
    have hw : ∀ j, dstOf ops j = some d → listed.getD j false = true ∧ j < i := fun j hj => by
      have := hc.looks i o j d ho hj hd
      refine ⟨waits_listed this hall, ?_⟩
      unfold waits at this
      rw [Array.any_eq_true'] at this
      obtain ⟨e, he, hx⟩ := this
      simp only [Bool.and_eq_true, beq_iff_eq] at hx
      have := hc.low i o ho e he hx.1
      omega
    rw [hI.fr, mixFr_look, mixFr_look, ← look_cut (fun k hk => (hw k hk).2) ops.size (by omega)]
    exact look_same _ (fun k _ hk => (hw k hk).1)
  constructor
  · refine execOp_congr o (fun cs b => Region.noSelect_spec hc.nosel i o cs b ho) (fun x hx => ?_)
    cases x with
    | tmp t =>
      have := key t (List.mem_append_left _ (List.mem_filterMap.2 ⟨.tmp t, by simpa using hx, rfl⟩))
      simp only [Act.eval, Array.getD_eq_getD_getElem?, this]
    | _ => rfl
  · unfold Region.wanted
    cases hg : o.guard with
    | none => rfl
    | some gw =>
      obtain ⟨g, want⟩ := gw
      have hy : yielded ops a.tmps g = yielded ops (mixFr ops a0 σ (fun _ => true) i).tmps g := by
        unfold yielded
        cases ht : (ops[g]?).bind (·.dst) with
        | none => rfl
        | some t =>
          have := key t (by simp [Oper.looksAt, hg, ht])
          simp [this]
      simp only [hy]

/-- The operation has run: the invariant holds with it listed. -/
theorem inv_step (hc : Chk ops R ini) (hok : ∀ (k : Nat) (r : Rsc), R[k]? = some r → r.Ok Bs) (hBs : ∀ b, Bs b → b < wS.heap.size) {listed : Array Bool} {σ : Nat → Value} {a : Act} {w : World} (hI : Inv ops Bs wS R ini a0 listed σ a w)
    {i : Nat} {o : Oper} {r : Rsc} (ho : ops[i]? = some o) (hr : R[i]? = some r) (hun : listed.getD i true = false) (hall : ∀ e ∈ o.after, Region.binds .any e = true → listed.getD e.on false = true) {v : Value} {w' : World} (hL : Left R r i σ w v w') :
    Inv ops Bs wS R ini a0 (listed.setIfInBounds i true) (upd σ i v) (a.put o.dst v) w' := by
  have hi := (Array.getElem?_eq_some_iff.1 ho).1
  have hil : i < listed.size := by rw [hI.sz]; exact hi
  have hif : listed.getD i false = false := by
    rw [Array.getD_eq_getD_getElem?, Array.getElem?_eq_getElem hil] at hun ⊢
    exact hun
  have hdst : dstOf ops i = o.dst := by unfold dstOf; rw [ho]; rfl
  -- those that are taken are held
  have htk : ∀ j, j ∈ r.tk ++ r.nd → Held ops R ini listed j := fun j hj => by
    obtain ⟨h1, h2⟩ := hc.wants i o r j ho hr hj
    refine ⟨?_, fun t rt ht hlt hl hm => ?_⟩
    · rcases h1 with h1 | h1
      · have hlj := waits_listed h1 hall
        refine .inr ⟨?_, hlj⟩
        rw [← hI.sz]
        rcases Nat.lt_or_ge j listed.size with h | h
        · exact h
        · rw [Array.getD_eq_getD_getElem?, Array.getElem?_eq_none h] at hlj; cases hlj
      · exact .inl h1
    · have hne : t ≠ i := fun e => by subst e; rw [hif] at hl; cases hl
      have hw := h2 t rt ht hlt hne hm
      unfold waitsAt at hw
      split at hw
      · rename_i ot hot
        have := waits_listed hw (hI.closed t ot hl hot)
        rw [hif] at this; cases this
      · cases hw
  -- who is held behind it
  have hold : ∀ k, k ≠ i → Held ops R ini (listed.setIfInBounds i true) k → Held ops R ini listed k ∧ k ∉ r.tk := fun k hk h => by
    refine ⟨⟨?_, fun t rt ht hlt hl => h.2 t rt ht hlt (getD_set_true hl)⟩, h.2 i r hr hi (by rw [getD_t, if_pos ⟨rfl, hil⟩])⟩
    rcases h.1 with h1 | h1
    · exact .inl h1
    · refine .inr ⟨h1.1, ?_⟩
      have := h1.2
      rw [getD_t, if_neg (fun x => hk x.1)] at this
      exact this
  -- the values that a held fact hangs on are there
  have hdm : ∀ k rk, R[k]? = some rk → k ≠ i → Held ops R ini listed k → ∀ j, j ∈ rk.dm → upd σ i v j = σ j ∧ σ j = upd σ i v j := fun k rk hrk hki hh j hj => by
    have hne : j ≠ i := by
      intro e
      rcases hh.1 with h1 | h1
      · obtain ⟨_, r', hr', hd⟩ := hc.inis k h1
        rw [hrk] at hr'; cases hr'
        rw [hd] at hj; cases hj
      · obtain ⟨ok, rk', hok', hrk'⟩ := hc.has k h1.1
        rw [hrk] at hrk'; cases hrk'
        rcases hc.dm k ok rk j hok' hrk hj with h2 | h2
        · omega
        · have := waits_listed h2 (hI.closed k ok h1.2 hok')
          rw [e, hif] at this; cases this
    exact ⟨upd_ne σ v hne, (upd_ne σ v hne).symm⟩
  have hsz := hL.keep.size
  have hw0 := hI.keep.size
  -- an old fact's blocks are as they were
  have hblk : ∀ k rk, R[k]? = some rk → k ≠ i → Held ops R ini (listed.setIfInBounds i true) k → Keep (fun b => Bs b ∨ rk.own σ b) w w' := fun k rk hrk hki hh => by
    obtain ⟨h1, h2⟩ := hold k hki hh
    refine hL.keep.mono (fun b hb => ?_)
    rcases hb with hb | hb
    · refine ⟨Nat.lt_of_lt_of_le (hBs b hb) hw0, fun j rj hj hrj hob => ?_⟩
      exact ((hI.held j rj hrj (htk j (List.mem_append_left _ hj))).2 b hob).2 hb
    · refine ⟨((hI.held k rk hrk h1).2 b hb).1, fun j rj hj hrj hob => ?_⟩
      exact hI.apart j k rj rk hrj hrk (htk j (List.mem_append_left _ hj)) h1 (fun e => h2 (e ▸ hj)) b hob hb
  have howni : ∀ b, r.own (upd σ i v) b → b < w'.heap.size ∧ ¬ Bs b := fun b hb => by
    rcases hL.own b hb with ⟨j, rj, hj, hrj, hob⟩ | ⟨h1, h2⟩
    · have := (hI.held j rj hrj (htk j (List.mem_append_left _ hj))).2 b hob
      exact ⟨Nat.lt_of_lt_of_le this.1 hsz, this.2⟩
    · exact ⟨h2, fun hb' => by have := hBs b hb'; omega⟩
  have hownk : ∀ k rk, R[k]? = some rk → k ≠ i → Held ops R ini (listed.setIfInBounds i true) k → ∀ b, rk.own (upd σ i v) b → rk.own σ b := fun k rk hrk hki hh b hb =>
    ((hok k rk hrk).ext σ (upd σ i v) (fun j hj => (hdm k rk hrk hki (hold k hki hh).1 j hj).1)).2 b hb
  have hia : ∀ k rk, R[k]? = some rk → k ≠ i → Held ops R ini (listed.setIfInBounds i true) k → ∀ b, r.own (upd σ i v) b → ¬ rk.own (upd σ i v) b := fun k rk hrk hki hh b hb hb' => by
    have hb2 := hownk k rk hrk hki hh b hb'
    obtain ⟨h1, h2⟩ := hold k hki hh
    rcases hL.own b hb with ⟨j, rj, hj, hrj, hob⟩ | ⟨h3, h4⟩
    · exact hI.apart j k rj rk hrj hrk (htk j (List.mem_append_left _ hj)) h1 (fun e => h2 (e ▸ hj)) b hob hb2
    · have := ((hI.held k rk hrk h1).2 b hb2).1
      omega
  refine ⟨by simp [hI.sz], ?_, ?_, ?_, ?_, ?_⟩
  · rw [← hdst, hI.fr]
    refine (mixFr_add (fun k hk d hd => hc.dst i k hi hk d hd) hif (by rw [getD_t, if_pos ⟨rfl, hil⟩]) (fun k hk => by rw [getD_t, if_neg (fun x => hk x.1)]) _ hi).symm
  · exact hI.keep.trans (hL.keep.mono (fun b hb => ⟨Nat.lt_of_lt_of_le (hBs b hb) hw0, fun j rj hj hrj hob => ((hI.held j rj hrj (htk j (List.mem_append_left _ hj))).2 b hob).2 hb⟩))
  · intro t ot hl hot e he hb
    by_cases hti : t = i
    · subst hti
      rw [ho] at hot; cases hot
      exact getD_set_true (hall e he hb)
    · rw [getD_t, if_neg (fun x => hti x.1)] at hl
      exact getD_set_true (hI.closed t ot hl hot e he hb)
  · intro k rk hrk hh
    by_cases hki : k = i
    · subst hki
      rw [hr] at hrk; cases hrk
      exact ⟨hL.fact, howni⟩
    · have h0 := hI.held k rk hrk (hold k hki hh).1
      refine ⟨((hok k rk hrk).ext σ (upd σ i v) (fun j hj => (hdm k rk hrk hki (hold k hki hh).1 j hj).1)).1 _ ((hok k rk hrk).loc σ w w' h0.1 (hblk k rk hrk hki hh)), fun b hb => ?_⟩
      have := h0.2 b (hownk k rk hrk hki hh b hb)
      exact ⟨Nat.lt_of_lt_of_le this.1 hsz, this.2⟩
  · intro j k rj rk hrj hrk hj hk hne b hb hb'
    by_cases hji : j = i
    · subst hji
      rw [hr] at hrj; cases hrj
      exact hia k rk hrk (fun e => hne e.symm) hk b hb hb'
    · by_cases hki : k = i
      · subst hki
        rw [hr] at hrk; cases hrk
        exact hia j rj hrj hji hj b hb' hb
      · exact hI.apart j k rj rk hrj hrk (hold j hji hj).1 (hold k hki hk).1 hne b (hownk j rj hrj hji hj b hb) (hownk k rk hrk hki hk b hb')

theorem rel_wp {o : Oper} {a : Act} {w : World} {K : Act → World → Prop} {post : Value → World → Prop} (h : relUpon P post ((execOp a.eval o).run P w)) (hk : ∀ v w', post v w' → K (a.put o.dst v) w') : o.wp P a w K Q := by
  unfold Oper.wp
  generalize (execOp a.eval o).run P w = res at *
  cases res with
  | ok n w' =>
    cases n <;> simp only [relUpon] at h <;> simp only [Oper.upon]
    case value u => exact hk _ _ h
    case skip => exact hk _ _ h
    case enter f args => exact h.mono fun e w'' ⟨v, he, hp⟩ => by subst he; exact hk _ _ hp
    case row row args => exact h.mono fun v w'' hp => hk _ _ hp
  | halt x w' => simp only [relUpon] at h

theorem count_set {listed : Array Bool} {i : Nat} (hi : i < listed.size) (h : listed[i] = false) : (listed.setIfInBounds i true).toList.count false + 1 = listed.toList.count false := by
  have hl : i < listed.toList.length := by simpa using hi
  have hx : listed.toList[i] = false := by simpa using h
  have h1 : (listed.setIfInBounds i true).toList = listed.toList.set i true := by simp
  have h2 : 0 < listed.toList.count false := List.count_pos_iff.2 (by rw [← hx]; exact List.getElem_mem hl)
  rw [h1, List.count_set hl, hx]
  rw [if_pos (show ((false : Bool) == false) = true from rfl), if_neg (show ¬ ((true : Bool) == false) = true from Bool.false_ne_true)]
  omega

theorem any_of_inv (hc : Chk ops R ini) (hok : ∀ (k : Nat) (r : Rsc), R[k]? = some r → r.Ok Bs) (hBs : ∀ b, Bs b → b < wS.heap.size)
    (hS : ∀ (i : Nat) (o : Oper) (r : Rsc), ops[i]? = some o → R[i]? = some r → StepAt P ops Bs wS R i o r (fun σ => mixFr ops a0 σ (fun _ => true) i))
    (hE : ∀ (listed : Array Bool) (σ : Nat → Value) (a : Act) (w : World), Inv ops Bs wS R ini a0 listed σ a w → (∀ k, k < ops.size → listed.getD k false = true) → Q .normal a w) :
    ∀ (fuel : Nat) (listed : Array Bool) (σ : Nat → Value) (a : Act) (w : World), Inv ops Bs wS R ini a0 listed σ a w → listed.toList.count false ≤ fuel → wpAny P .any ops Q fuel listed a w := by
  have hend : ∀ (listed : Array Bool) (σ : Nat → Value) (a : Act) (w : World), Inv ops Bs wS R ini a0 listed σ a w → Region.ready .any ops listed = [] → Q .normal a w := by
    intro listed σ a w hI hr
    refine hE listed σ a w hI ?_
    intro k
    induction k using Nat.strongRecOn with
    | ind k ih =>
      intro hk
      obtain ⟨o, r, ho, _⟩ := hc.has k hk
      have hkl : k < listed.size := by rw [hI.sz]; exact hk
      cases hx : listed.getD k false with
      | true => rfl
      | false =>
        have : k ∈ Region.ready .any ops listed := mem_ready.2 ⟨by
          rw [Array.getD_eq_getD_getElem?, Array.getElem?_eq_getElem hkl] at hx ⊢
          exact hx, o, ho, fun e he hb => ih e.on (hc.low k o ho e he hb) (by have := hc.low k o ho e he hb; omega)⟩
        rw [hr] at this; cases this
  intro fuel
  induction fuel with
  | zero =>
    intro listed σ a w hI hn
    have hr : Region.ready .any ops listed = [] := by
      cases hx : Region.ready .any ops listed with
      | nil => rfl
      | cons i l =>
        have hm := (mem_ready.1 (show i ∈ Region.ready .any ops listed by rw [hx]; simp)).1
        rcases Nat.lt_or_ge i listed.size with h | h
        · have hf : listed[i] = false := by
            rw [Array.getD_eq_getD_getElem?, Array.getElem?_eq_getElem h] at hm
            exact hm
          have := count_set h hf
          omega
        · rw [Array.getD_eq_getD_getElem?, Array.getElem?_eq_none h] at hm; cases hm
    exact ⟨hr, hend listed σ a w hI hr⟩
  | succ fuel ih =>
    intro listed σ a w hI hn
    refine ⟨hend listed σ a w hI, fun i hi => ?_⟩
    obtain ⟨hun, o, ho, hall⟩ := mem_ready.1 hi
    have hlt := (Array.getElem?_eq_some_iff.1 ho).1
    obtain ⟨_, r, _, hr⟩ := hc.has i hlt
    have hil : i < listed.size := by rw [hI.sz]; exact hlt
    have hf : listed[i] = false := by
      rw [Array.getD_eq_getD_getElem?, Array.getElem?_eq_getElem hil] at hun
      exact hun
    have hcnt := count_set hil hf
    obtain ⟨e1, e2⟩ := inv_run hc hI ho hall
    have hif : listed.getD i false = false := by
      rw [Array.getD_eq_getD_getElem?, Array.getElem?_eq_getElem hil] at hun ⊢
      exact hun
    have hfacts : factsOf Bs R σ w (r.tk ++ r.nd) := factsOf_of _ (fun j hj => by
      obtain ⟨h1, h2⟩ := hc.wants i o r j ho hr hj
      have hheld : Held ops R ini listed j := by
        refine ⟨?_, fun t rt ht hlt hl hm => ?_⟩
        · rcases h1 with h1 | h1
          · have hlj := waits_listed h1 hall
            refine .inr ⟨?_, hlj⟩
            rw [← hI.sz]
            rcases Nat.lt_or_ge j listed.size with h | h
            · exact h
            · rw [Array.getD_eq_getD_getElem?, Array.getElem?_eq_none h] at hlj; cases hlj
          · exact .inl h1
        · have hne : t ≠ i := fun e => by subst e; rw [hif] at hl; cases hl
          have hw := h2 t rt ht hlt hne hm
          unfold waitsAt at hw
          split at hw
          · rename_i ot hot
            have := waits_listed hw (hI.closed t ot hl hot)
            rw [hif] at this; cases this
          · cases hw
      have hR : ∃ rj, R[j]? = some rj := by
        rcases hheld.1 with h | h
        · obtain ⟨_, rj, h, _⟩ := hc.inis j h
          exact ⟨rj, h⟩
        · obtain ⟨_, rj, _, h⟩ := hc.has j h.1
          exact ⟨rj, h⟩
      obtain ⟨rj, hrj⟩ := hR
      exact ⟨rj, hrj, hI.held j rj hrj hheld⟩)
    have hst := hS i o r ho hr σ w hI.keep hfacts
    unfold wpOp
    simp only [ho]
    rw [e2]
    dsimp only at hst
    split
    · rename_i hw
      rw [if_pos hw, ← e1] at hst
      exact .inl (rel_wp hst (fun v w' hL => ih _ _ _ _ (inv_step hc hok hBs hI ho hr hun hall hL) (by omega)))
    · rename_i hw
      rw [if_neg hw] at hst
      exact ih _ _ _ _ (inv_step hc hok hBs hI ho hr hun hall hst) (by omega)

def finB (ops : Array Oper) (R : List Rsc) (ini fin : List Nat) : Bool :=
  fin.all fun k => (decide (k < ops.size) || ini.contains k) && (List.range ops.size).all fun t => !(((R[t]?).map (·.tk)).getD []).contains k

/-- ONE WALK IN THE ORDER OF THE TEXT SERVES EVERY ORDER. -/
theorem wp_region_rel {id : Nat} {l : List Oper} {a : Act} {w : World} (R : List Rsc) (ini fin : List Nat) (Bs : Nat → Prop)
    (hm : P.follows .mixedOrders = true) (hchk : check l.toArray R ini = true) (hfin : finB l.toArray R ini fin = true)
    (hok : ∀ r, r ∈ R → r.Ok Bs) (hBs : ∀ b, Bs b → b < w.heap.size)
    (hini : ∀ (k : Nat) (r : Rsc), k ∈ ini → R[k]? = some r → r.fact (fun _ => undef) { w with drawn := w.drawn + 1 } ∧ ∀ b, r.own (fun _ => undef) b → b < w.heap.size ∧ ¬ Bs b)
    (hap : ∀ (j k : Nat) (rj rk : Rsc), j ∈ ini → k ∈ ini → j ≠ k → R[j]? = some rj → R[k]? = some rk → ∀ b, rj.own (fun _ => undef) b → ¬ rk.own (fun _ => undef) b)
    (hW : Walk P l.toArray Bs { w with drawn := w.drawn + 1 } R l R 0 (fun _ => a))
    (hE : ∀ (σ : Nat → Value) (w' : World), Keep Bs { w with drawn := w.drawn + 1 } w' → factsOf Bs R σ w' fin →
      (∀ (j k : Nat) (rj rk : Rsc), j ∈ fin → k ∈ fin → j ≠ k → R[j]? = some rj → R[k]? = some rk → ∀ b, rj.own σ b → ¬ rk.own σ b) → Q .normal (putAll l 0 a σ) w') :
    (Code.region id l.toArray true).wp P Q a w := by
  have hc := chk_of hchk
  have hok' : ∀ (k : Nat) (r : Rsc), R[k]? = some r → r.Ok Bs := fun k r h => hok r (List.mem_of_getElem? h)
  have hno : ∀ k, (Array.replicate l.toArray.size false).getD k false = false := fun k => by
    rw [Array.getD_eq_getD_getElem?, Array.getElem?_replicate]
    split <;> rfl
  have hHeld : ∀ k, Held l.toArray R ini (Array.replicate l.toArray.size false) k → k ∈ ini := fun k h => by
    rcases h.1 with h | h
    · exact h
    · rw [hno] at h; cases h.2
  refine wp_region_any hm (any_of_inv (R := R) (ini := ini) (Bs := Bs) (wS := { w with drawn := w.drawn + 1 }) (a0 := a) hc hok' hBs (fun i o r ho hr => walk_at hW ho hr) ?_ _ _ (fun _ => undef) _ _ ?_ ?_)
  · intro listed σ a' w' hI hall
    have hheld : ∀ k, k ∈ fin → Held l.toArray R ini listed k ∧ ∃ r, R[k]? = some r := fun k hk => by
      unfold finB at hfin
      have := List.all_eq_true.1 hfin k hk
      simp only [Bool.and_eq_true, Bool.or_eq_true, decide_eq_true_eq, List.all_eq_true, List.mem_range, Bool.not_eq_true'] at this
      refine ⟨⟨?_, fun t r ht hlt _ hmem => ?_⟩, ?_⟩
      · rcases this.1 with h | h
        · exact .inr ⟨h, hall k h⟩
        · exact .inl (List.contains_iff_mem.1 h)
      · have h2 := this.2 t hlt
        rw [ht] at h2
        simp only [Option.map_some, Option.getD_some] at h2
        rw [List.contains_iff_mem.2 hmem] at h2; cases h2
      · rcases this.1 with h | h
        · obtain ⟨_, r, _, h⟩ := hc.has k h
          exact ⟨r, h⟩
        · obtain ⟨_, r, h, _⟩ := hc.inis k (List.contains_iff_mem.1 h)
          exact ⟨r, h⟩
    have hfr : a' = putAll l 0 a σ := by
      rw [hI.fr]
      have := putAll_mix (l := l) (a0 := a) (σ := σ) l.length 0 (by omega)
      rw [List.drop_zero] at this
      refine Eq.trans ?_ this.symm
      rw [show l.toArray.size = l.length from by simp]
      exact mixFr_low _ (fun k hk => ⟨hall k (by simpa using hk), rfl⟩)
    rw [hfr]
    refine hE σ w' hI.keep (factsOf_of _ (fun j hj => ?_)) (fun j k rj rk hj hk hne hrj hrk b => ?_)
    · obtain ⟨hh, r, hr⟩ := hheld j hj
      exact ⟨r, hr, hI.held j r hr hh⟩
    · exact hI.apart j k rj rk hrj hrk (hheld j hj).1 (hheld k hk).1 hne b
  · refine ⟨by simp, ?_, Keep.refl _ _, ?_, ?_, ?_⟩
    · have : ∀ n, mixFr l.toArray a (fun _ => undef) (fun k => (Array.replicate l.toArray.size false).getD k false) n = a := by
        intro n
        induction n with
        | zero => rfl
        | succ n ih => unfold mixFr; rw [hno, if_neg Bool.false_ne_true]; exact ih
      exact (this _).symm
    · intro t o ht
      rw [hno] at ht; cases ht
    · intro k r hr hh
      exact hini k r (hHeld k hh) hr
    · intro j k rj rk hrj hrk hj hk hne b hb
      exact hap j k rj rk (hHeld j hj) (hHeld k hk) hne hrj hrk b hb
  · refine Nat.le_trans (List.count_le_length) ?_
    simp
end

end Rel
end Go.Proofs.Ytfgghffgfefgpaa

namespace Go.Proofs.Ytfgghffgfefgpaa
open Go.RowKit
set_option linter.unusedVariables false
namespace Rel
theorem cell_of {w w' : World} {a : Addr} (h : w'.heap[a.block]? = w.heap[a.block]?) : w'.cell? a = w.cell? a := by
  unfold World.cell?; rw [h]
theorem froz_of {w w' : World} {a : Addr} (h : w'.heap[a.block]? = w.heap[a.block]?) : w'.frozen? a = w.frozen? a := by
  unfold World.frozen?; rw [h]
theorem bx_loc {w w' : World} {q : Nat} {cs : List Value} (h : Bx w q cs) (hq : w'.heap[q]? = w.heap[q]?) : Bx w' q cs :=
  Bx.of (fun j v hv => (cell_of (a := ⟨q, j, none⟩) hq).trans (h.cell j hv)) (fun j hj => (froz_of (a := ⟨q, j, none⟩) hq).trans (h.thaw j hj))
theorem own_loc {e : TypeId} {w w' : World} {B K n : Nat} {v : Value} {F : List Value} (h : w.ownsRow B e K v n F) (hq : ∀ k, v.ownBlock = some k → w'.heap[k]? = w.heap[k]?) : w'.ownsRow B e K v n F := by
  refine ⟨h.1, ?_⟩
  rcases h.2 with h' | ⟨g, cap, cur, h1, hB, hg, h4⟩
  · exact .inl h'
  · exact .inr ⟨g, cap, cur, h1, hB, by rw [hq g (by rw [h1]; rfl)]; exact hg, h4⟩

/-- A value that is known. -/
def valR (i : Nat) (nd : List Nat) (v : Value) : Rsc := ⟨fun σ _ => σ i = v, fun _ _ => False, [i], [], nd⟩
theorem valR_ok {Bs : Nat → Prop} (i : Nat) (nd : List Nat) (v : Value) : (valR i nd v).Ok Bs :=
  ⟨fun σ w w' h _ => h, fun σ σ' h => ⟨fun w hf => (h i (by simp [valR])).trans hf, fun b hb => hb⟩⟩
/-- A value that is another one's. -/
def eqR (i j : Nat) (nd : List Nat) : Rsc := ⟨fun σ _ => σ i = σ j, fun _ _ => False, [i, j], [], nd⟩
theorem eqR_ok {Bs : Nat → Prop} (i j : Nat) (nd : List Nat) : (eqR i j nd).Ok Bs :=
  ⟨fun σ w w' h _ => h, fun σ σ' h => ⟨fun w hf => ((h i (by simp [eqR])).trans hf).trans (h j (by simp [eqR])).symm, fun b hb => hb⟩⟩
/-- Two values that stand to each other so. -/
def twoR (i j : Nat) (nd : List Nat) (p : Value → Value → Prop) : Rsc := ⟨fun σ _ => p (σ i) (σ j), fun _ _ => False, [i, j], [], nd⟩
theorem twoR_ok {Bs : Nat → Prop} (i j : Nat) (nd : List Nat) (p : Value → Value → Prop) : (twoR i j nd p).Ok Bs :=
  ⟨fun σ w w' h _ => h, fun σ σ' h => ⟨fun w hf => by
    have h1 := h i (by simp [twoR]); have h2 := h j (by simp [twoR])
    show p (σ' i) (σ' j)
    rw [h1, h2]; exact hf, fun b hb => hb⟩⟩
/-- A new value, with blocks of its own. -/
def retR (i : Nat) (nd : List Nat) (F : Value → World → Prop) (ow : Value → Nat → Prop) : Rsc := ⟨fun σ w => F (σ i) w, fun σ b => ow (σ i) b, [i], [], nd⟩
theorem retR_ok {Bs : Nat → Prop} (i : Nat) (nd : List Nat) (F : Value → World → Prop) (ow : Value → Nat → Prop) (h : ∀ v w w', F v w → Keep (fun b => Bs b ∨ ow v b) w w' → F v w') : (retR i nd F ow).Ok Bs :=
  ⟨fun σ w w' hf hk => h (σ i) w w' hf hk, fun σ σ' hh => by
    have h1 := hh i (by simp [retR])
    exact ⟨fun w hf => by show F (σ' i) w; rw [h1]; exact hf, fun b hb => by show ow (σ i) b; rw [← h1]; exact hb⟩⟩
/-- A box. -/
def boxF (cs : List Value) (v : Value) (w : World) : Prop := ∃ q, v = .pointer (some ⟨q, 0, none⟩) ∧ Bx w q cs
def boxO (v : Value) (b : Nat) : Prop := v = .pointer (some ⟨b, 0, none⟩)
theorem box_loc {Bs : Nat → Prop} {cs : List Value} (v : Value) (w w' : World) (h : boxF cs v w) (hk : Keep (fun b => Bs b ∨ boxO v b) w w') : boxF cs v w' := by
  obtain ⟨q, hv, hb⟩ := h
  exact ⟨q, hv, bx_loc hb (hk.block q (.inr hv))⟩
def boxR (i : Nat) (nd : List Nat) (cs : List Value) : Rsc := retR i nd (boxF cs) boxO
theorem boxR_ok {Bs : Nat → Prop} (i : Nat) (nd : List Nat) (cs : List Value) : (boxR i nd cs).Ok Bs := retR_ok i nd _ _ box_loc
/-- The box j, filled by operation i. -/
def putR (j : Nat) (nd : List Nat) (cs : List Value) : Rsc := ⟨fun σ w => boxF cs (σ j) w, fun σ b => boxO (σ j) b, [j], [j], nd⟩
theorem putR_ok {Bs : Nat → Prop} (j : Nat) (nd : List Nat) (cs : List Value) : (putR j nd cs).Ok Bs :=
  ⟨fun σ w w' hf hk => box_loc (σ j) w w' hf hk, fun σ σ' hh => by
    have h1 := hh j (by simp [putR])
    exact ⟨fun w hf => by show boxF cs (σ' j) w; rw [h1]; exact hf, fun b hb => by show boxO (σ j) b; rw [← h1]; exact hb⟩⟩

theorem left_below {R : List Rsc} {r : Rsc} {i : Nat} {σ : Nat → Value} {w : World} {v : Value} {w' : World} (hf : r.fact (upd σ i v) w') (ho : ∀ b, r.own (upd σ i v) b → w.heap.size ≤ b ∧ b < w'.heap.size) (hb : Below w.heap.size w w') : Left R r i σ w v w' :=
  ⟨hf, fun b h => .inr (ho b h), ⟨hb.os, hb.tape, hb.output, hb.size, fun k hk => hb.block k hk.1⟩⟩
theorem left_val {R : List Rsc} {i : Nat} {nd : List Nat} {σ : Nat → Value} {w : World} {v : Value} : Left R (valR i nd v) i σ w v w :=
  left_below (upd_self σ i v) (fun b h => h.elim) (Below.refl _ _)
theorem left_valB {R : List Rsc} {i : Nat} {nd : List Nat} {σ : Nat → Value} {w w' : World} {v : Value} (hb : Below w.heap.size w w') : Left R (valR i nd v) i σ w v w' :=
  left_below (upd_self σ i v) (fun b h => h.elim) hb
theorem left_ret {R : List Rsc} {i : Nat} {nd : List Nat} {σ : Nat → Value} {w w' : World} {v : Value} {F : Value → World → Prop} {ow : Value → Nat → Prop} (hf : F v w') (ho : ∀ b, ow v b → w.heap.size ≤ b ∧ b < w'.heap.size) (hb : Below w.heap.size w w') : Left R (retR i nd F ow) i σ w v w' :=
  left_below (by show F (upd σ i v i) w'; rw [upd_self]; exact hf) (fun b h => ho b (by have h2 : ow (upd σ i v i) b := h; rwa [upd_self] at h2)) hb
theorem left_box {R : List Rsc} {i : Nat} {nd : List Nat} {σ : Nat → Value} {w : World} (cs : Array Value) (t : TypeId) : Left R (boxR i nd cs.toList) i σ w (.pointer (some ⟨w.heap.size, 0, none⟩)) (w.alloc (.cells cs t)) :=
  left_ret ⟨_, rfl, Bx.new w cs t⟩ (fun b h => by
    have : w.heap.size = b := by cases h; rfl
    subst this
    simp) ((Below.refl _ _).alloc (Nat.le_refl _) _)
theorem heap_cells {q : Nat} : ∀ (vs : List Value) (o : Nat) (w : World), (w.setCells q o vs).heap.size = w.heap.size ∧ (w.setCells q o vs).os = w.os ∧ (w.setCells q o vs).tape = w.tape ∧ (w.setCells q o vs).output = w.output ∧ ∀ k, k ≠ q → (w.setCells q o vs).heap[k]? = w.heap[k]?
  | [], _, _ => ⟨rfl, rfl, rfl, rfl, fun _ _ => rfl⟩
  | v :: r, o, w => by
    rw [World.setCells]
    obtain ⟨h1, h2, h3, h4, h5⟩ := heap_cells r (o + 1) (w.setCell ⟨q, o, none⟩ v)
    exact ⟨h1.trans (by simp [World.setCell]), h2, h3, h4, fun k hk => (h5 k hk).trans (Below.heap_setCell _ _ _ _ hk)⟩
theorem left_put {R : List Rsc} {i j q : Nat} {nd nd' : List Nat} {σ : Nat → Value} {w : World} {u : Value} {cs vs : List Value} (hR : R[j]? = some (boxR j nd' cs)) (hij : j ≠ i) (hq : σ j = .pointer (some ⟨q, 0, none⟩)) (hb : Bx w q cs) (hl : vs.length = cs.length) : Left R (putR j nd vs) i σ w u (w.setCells q 0 vs) := by
  have hu : upd σ i u j = .pointer (some ⟨q, 0, none⟩) := by rw [upd_ne σ u hij]; exact hq
  obtain ⟨h1, h2, h3, h4, h5⟩ := heap_cells (q := q) vs 0 w
  refine ⟨⟨q, hu, hb.put vs hl⟩, fun b h => .inl ⟨j, _, by simp [putR], hR, ?_⟩, ⟨h2, h3, h4, by omega, fun k hk => h5 k ?_⟩⟩
  · show boxO (σ j) b
    have h6 : boxO (upd σ i u j) b := h
    rwa [upd_ne σ u hij] at h6
  · intro e
    subst e
    exact hk.2 j _ (by simp [putR]) hR hq
theorem tup3 {a b c a' b' c' : Value} (h : Value.tuple #[a, b, c] = Value.tuple #[a', b', c']) : b = b' := by
  injection h with h
  injection h with h
  injection h with _ h
  injection h
theorem keep_below {w w' : World} (h : Keep (fun b => b < w.heap.size) { w with drawn := w.drawn + 1 } w') : Below w.heap.size w w' := ⟨h.os, h.tape, h.output, h.size, h.block⟩
theorem fact_of {Bs : Nat → Prop} {R : List Rsc} {σ : Nat → Value} {w : World} : ∀ {l : List Nat} {j : Nat} {r : Rsc}, factsOf Bs R σ w l → l.contains j = true → R[j]? = some r → r.fact σ w
  | x :: l, j, r, h, hm, hr => by
    rcases List.mem_cons.1 (List.contains_iff_mem.1 hm) with e | e
    · subst e
      obtain ⟨r', hr', hf, _⟩ := h.1
      rw [hr] at hr'; cases hr'
      exact hf
    · exact fact_of h.2 (List.contains_iff_mem.2 e) hr
theorem owns_of {Bs : Nat → Prop} {R : List Rsc} {σ : Nat → Value} {w : World} : ∀ {l : List Nat} {j : Nat} {r : Rsc}, factsOf Bs R σ w l → l.contains j = true → R[j]? = some r → ∀ b, r.own σ b → b < w.heap.size ∧ ¬ Bs b
  | x :: l, j, r, h, hm, hr => by
    rcases List.mem_cons.1 (List.contains_iff_mem.1 hm) with e | e
    · subst e
      obtain ⟨r', hr', _, hf⟩ := h.1
      rw [hr] at hr'; cases hr'
      exact hf
    · exact owns_of h.2 (List.contains_iff_mem.2 e) hr
theorem walk_cons {P : Program} {ops : Array Oper} {Bs : Nat → Prop} {wS : World} {R : List Rsc} {o : Oper} {l : List Oper} {r : Rsc} {rs : List Rsc} {i : Nat} {Fr : (Nat → Value) → Act}
    (h : StepAt P ops Bs wS R i o r Fr) (hr : Walk P ops Bs wS R l rs (i + 1) (fun σ => (Fr σ).put o.dst (σ i))) : Walk P ops Bs wS R (o :: l) (r :: rs) i Fr := ⟨h, hr⟩
theorem walk_nil {P : Program} {ops : Array Oper} {Bs : Nat → Prop} {wS : World} {R : List Rsc} {rs : List Rsc} {i : Nat} {Fr : (Nat → Value) → Act} : Walk P ops Bs wS R [] rs i Fr := trivial
/-- What an operation has yielded, shut (so that no tactic looks into the run). -/
structure Yld (P : Program) (post : Value → World → Prop) (res : Result Next) : Prop where
  out : relUpon P post res
theorem yld_val {P : Program} {post : Value → World → Prop} {u : Value} {w : World} (h : post u w) : Yld P post (.ok (.value u) w) := ⟨h⟩
theorem yld_call {P : Program} {post : Value → World → Prop} {w : World} {f : FuncId} {args : Array Value} (h : Calls P f args w fun e w'' => ∃ v, e = .returned v ∧ post v w'') : Yld P post (.ok (.enter f args) w) := ⟨h⟩
theorem yld_put {P : Program} {post : Value → World → Prop} {o : Oper} {a : Act} {w : World} (t : TypeId) (x y : Operand) (ho : o.op = .store t x y) {q : Nat} {cells : Array Value} (hx : a.eval x = .pointer (some ⟨q, 0, none⟩)) (hy : a.eval y = .agg cells) {cs : List Value} (hb : Bx w q cs)
    (hl : cells.size = cs.length) (hi : (P.info? t).map (·.size) = some cells.size) (h1 : cells.toList.all (·.oneCell') = true) (h : post undef (w.setCells q 0 cells.toList)) : Yld P post ((execOp a.eval o).run P w) := by
  refine ⟨?_⟩
  have hr := run_storeAt_mid w q 0 t cells (by rw [hl]; exact hb.th) hi (by rw [← Array.all_toList]; exact h1)
  unfold execOp
  simp only [ho, hx, hy, Sem.run_bind, Sem.run_pure, Result.andThen_ok, hr]
  exact h
theorem step_want {P : Program} {ops : Array Oper} {Bs : Nat → Prop} {wS : World} {R : List Rsc} {o : Oper} {r : Rsc} {i : Nat} {Fr : (Nat → Value) → Act} (hg : o.guard = none)
    (h : ∀ σ w, Keep Bs wS w → factsOf Bs R σ w (r.tk ++ r.nd) → ∀ post : Value → World → Prop, (∀ v w', Left R r i σ w v w' → post v w') → Yld P post ((execOp (Fr σ).eval o).run P w)) : StepAt P ops Bs wS R i o r Fr := by
  intro σ w hK hF
  rw [if_pos (by unfold Region.wanted; rw [hg])]
  exact (h σ w hK hF _ (fun _ _ h => h)).out
end Rel
end Go.Proofs.Ytfgghffgfefgpaa
