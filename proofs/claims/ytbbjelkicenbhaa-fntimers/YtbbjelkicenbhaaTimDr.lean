/- TimerDrop, the program's and the model's. -/
import Derived.Test.YtbbjelkicenbhaaTimD
import Derived.Test.YtbbjelkicenbhaaTimO
import Derived.Test.YtbbjelkicenbhaaTimS
namespace Go.Proofs.Ytbbjelkicenbhaa
open Go.RowKit Go.PlainAid Go.Sort
set_option linter.unusedVariables false
set_option maxRecDepth 20000

/-- What TimerDrop answers. -/
noncomputable def tdC (zs : List (Int × Int)) (id : Int) : Int := if 4096 < zs.length then 2 else if tmB zs = false then 1 else if (wo zs id zs.length).length = zs.length then 5 else 0
noncomputable def tdL (zs : List (Int × Int)) (id : Int) : List (Int × Int) := if 4096 < zs.length then [] else if tmB zs = false then [] else wo zs id zs.length

theorem tdL_len (zs : List (Int × Int)) (id : Int) : (tdL zs id).length ≤ zs.length := by
  unfold tdL
  split
  · exact Nat.zero_le _
  · split
    · exact Nat.zero_le _
    · exact wo_len zs id _

theorem own_none (w : World) : OwnP 44 w w.heap.size (.slice none 0 0) [] := World.ownsRow_nil w _ _ _
theorem own_lit (w : World) (B : Nat) (hB : B ≤ w.heap.size) : OwnP 44 (w.alloc (.cells #[] 44)) B (.slice (some ⟨w.heap.size, 0, none⟩) 0 0) [] := World.ownsRow_lit w #[] 0 hB (Nat.zero_le _) rfl

set_option maxHeartbeats 1000000 in
theorem implDrop_any (a : Option Addr) (len cap : Nat) (zs : List (Int × Int)) (id : Int) (w : World) (h : Prs w a zs) (hl : zs.length = len) (hcp : len ≤ cap) :
    Calls Try.prog 22 #[.slice a len cap, .int .i64 id] w fun e w' => ∃ v, e = .returned (.tuple #[v, .int .i64 (tdC zs id)]) ∧ OwnP 44 w' w.heap.size v (tdL zs id) ∧ Below w.heap.size w w' := by
  subst hl
  by_cases hbig : 4096 < zs.length
  · have eC : tdC zs id = 2 := if_pos hbig
    have eL : tdL zs id = [] := if_pos hbig
    rw [eC, eL]
    clear eC eL
    generalize zs.length = len at *
    go_enter Try.func22, Try.ntmps22
    go_wp2
    go_ret2
    exact ⟨_, rfl, own_none w, Below.refl _ _⟩
  have HN : Hid (Calls Try.prog 46 #[.slice a zs.length cap] w fun e w' => e = .returned (.bool (tmB zs)) ∧ Grw w w') := timersOK_any a zs.length cap zs w h rfl hcp
  have HD : Hid (∀ w, Prs w a zs → Calls Try.prog 48 #[.slice a zs.length cap, .int .i64 id] w fun e w' => ∃ v, e = .returned v ∧ OwnP 44 w' w.heap.size v (wo zs id zs.length) ∧ Below w.heap.size w w') := fun w h => timersWithout_any a zs.length cap zs id w h rfl (by omega)
  have H : Hid (Prs w a zs) := h
  clear h
  cases hq : tmB zs with
  | false =>
    rw [hq] at HN
    have eC : tdC zs id = 1 := by unfold tdC; rw [if_neg hbig, if_pos hq]
    have eL : tdL zs id = [] := by unfold tdL; rw [if_neg hbig, if_pos hq]
    rw [eC, eL]
    clear eC eL hq
    generalize zs.length = len at *
    go_enter Try.func22, Try.ntmps22
    go_wp2_with fail
    refine HN.out.mono ?_
    rintro e w1 ⟨rfl, b1⟩
    have B1 : Hid (Below w.heap.size w w1) := b1.below
    clear b1
    go_wp2
    go_ret2
    exact ⟨_, rfl, (own_none w1).lower B1.out.size, B1.out⟩
  | true =>
    rw [hq] at HN
    have eL : tdL zs id = wo zs id zs.length := by unfold tdL; rw [if_neg hbig, if_neg (by rw [hq]; simp)]
    have hwl := wo_len zs id zs.length
    by_cases hs : (wo zs id zs.length).length = zs.length
    · have eC : tdC zs id = 5 := by unfold tdC; rw [if_neg hbig, if_neg (by rw [hq]; simp), if_pos hs]
      rw [eC, eL]
      have hsz : (((wo zs id zs.length).length : Int) == (zs.length : Int)) = true := by simp [hs]
      clear eC eL hq hs
      generalize wo zs id zs.length = O at HD hwl hsz ⊢
      generalize zs.length = len at *
      go_enter Try.func22, Try.ntmps22
      go_wp2_with fail
      refine HN.out.mono ?_
      rintro e w1 ⟨rfl, b1⟩
      have B1 : Hid (Below w.heap.size w w1) := b1.below
      clear b1
      go_wp2_with fail
      refine (HD.out _ (H.out.keep B1.out)).mono ?_
      rintro e w2 ⟨v, rfl, o2, b2⟩
      obtain ⟨a2, c2, rfl, _⟩ := o2.slice
      have B2 : Hid (OwnP 44 w2 w1.heap.size (.slice a2 O.length c2) O ∧ Below w.heap.size w w2) := ⟨o2, B1.out.trans (b2.mono B1.out.size)⟩
      clear o2 b2
      go_wp2
      go_ret2
      exact ⟨_, rfl, B2.out.1.lower B1.out.size, B2.out.2⟩
    · have eC : tdC zs id = 0 := by unfold tdC; rw [if_neg hbig, if_neg (by rw [hq]; simp), if_neg hs]
      rw [eC, eL]
      have hsz : (((wo zs id zs.length).length : Int) == (zs.length : Int)) = false := by rw [beq_eq_false_iff_ne]; omega
      clear eC eL hq
      generalize wo zs id zs.length = O at HD hwl hs hsz ⊢
      generalize zs.length = len at *
      go_enter Try.func22, Try.ntmps22
      go_wp2_with fail
      refine HN.out.mono ?_
      rintro e w1 ⟨rfl, b1⟩
      have B1 : Hid (Below w.heap.size w w1) := b1.below
      clear b1
      go_wp2_with fail
      refine (HD.out _ (H.out.keep B1.out)).mono ?_
      rintro e w2 ⟨v, rfl, o2, b2⟩
      obtain ⟨a2, c2, rfl, _⟩ := o2.slice
      have B2 : Hid (OwnP 44 w2 w1.heap.size (.slice a2 O.length c2) O ∧ Below w.heap.size w w2) := ⟨o2, B1.out.trans (b2.mono B1.out.size)⟩
      clear o2 b2
      go_wp2
      go_ret2
      exact ⟨_, rfl, B2.out.1.lower B1.out.size, B2.out.2⟩
end Go.Proofs.Ytbbjelkicenbhaa
