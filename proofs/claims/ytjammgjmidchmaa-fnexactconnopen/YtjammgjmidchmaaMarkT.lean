/- markText of the laws. -/
import Derived.Test.YtjammgjmidchmaaDigits
import Derived.Test.YtjammgjmidchmaaGrw
import Derived.Test.YtjammgjmidchmaaBits
import Derived.Test.YtjammgjmidchmaaTests
namespace Go.Proofs.Ytjammgjmidchmaa
open Go.RowKit Go.PlainAid Go.Proofs.Ytjammgjmidchmaa.Bt Go.Sort
set_option linter.unusedVariables false
set_option maxRecDepth 20000
/-- The digits of a number, laid ahead of others. -/
def mtF (k : Nat) (L : List Int) : List Int := if h : k = 0 then L else mtF (k / 10) ((48 + ((k % 10 : Nat) : Int)) :: L)
termination_by k
decreasing_by omega
theorem mtF_zero (L : List Int) : mtF 0 L = L := by rw [mtF, dif_pos rfl]
theorem mtF_step {k : Nat} (h : 0 < k) (L : List Int) : mtF k L = mtF (k / 10) ((48 + ((k % 10 : Nat) : Int)) :: L) := by rw [mtF, dif_neg (by omega)]
/-- What markText answers. -/
def mtS (k : Nat) : ByteArray := strOfNums [109] ++ strOfNums (mtF k [])
theorem m_lit : (⟨#[109]⟩ : ByteArray) = strOfNums [109] := by
  apply ByteArray.ext
  simp [strOfNums]
set_option maxHeartbeats 1000000 in
theorem markText_any (n : Nat) (w : World) (h0 : 0 < n) (hn : n ≤ 1000000000000) :
    Calls Try.prog 60 #[.int .i64 n] w fun e w' => e = .returned (.string (mtS n)) ∧ Grw w w' := by
  have hpos : decide ((n : Int) ≤ 0) = false := by simp; omega
  go_enter Try.func60, Try.ntmps60
  go_wp2
  go_loopw [0, 3] (fun p q wr => ∃ (k : Nat) (L : List Int), k ≤ n ∧ p = .int .i64 k ∧ q = .string (strOfNums L) ∧ Hid (mtF k L = mtF n [] ∧ k < 10 ^ (20 - L.length) ∧ L.length ≤ 20) ∧ Hid (Grw w wr)) (fun p _ _ => (intOf p).toNat)
  case atStart => exact ⟨n, [], Nat.le_refl _, rfl, rfl, ⟨rfl, by simp; omega, by simp⟩, Grw.refl _⟩
  case round =>
    obtain ⟨k, L, hk, rfl, rfl, HM, HG⟩ := hrel
    by_cases hlt : 0 < k
    · have hltz : (0 : Int) < (k : Int) := by omega
      have hL : L.length + 1 ≤ 20 := by
        have h1 := HM.out.2.1
        have h2 := HM.out.2.2
        by_cases h3 : L.length = 20
        · rw [h3] at h1
          simp at h1
          omega
        · omega
      have HM2 : Hid (mtF (k / 10) ((48 + (k : Int) % 10) :: L) = mtF n [] ∧ k / 10 < 10 ^ (20 - (((48 + (k : Int) % 10) :: L)).length) ∧ (((48 + (k : Int) % 10) :: L)).length ≤ 20) := by
        have e : ((k % 10 : Nat) : Int) = (k : Int) % 10 := by omega
        refine ⟨by rw [← e, ← mtF_step hlt]; exact HM.out.1, ?_, by simpa using hL⟩
        rw [Nat.div_lt_iff_lt_mul (by omega), List.length_cons]
        have := HM.out.2.1
        rw [show 20 - L.length = (20 - (L.length + 1)) + 1 by omega, Nat.pow_succ] at this
        exact this
      have hcv : ∀ (wx : World) (b : Nat), wx.cell? ⟨b, 0, none⟩ = some (.int .u8 (48 + (k : Int) % 10)) → (convert 22 9 (.slice (some ⟨b, 0, none⟩) 1 1)).run Try.prog wx = .ok (.string (strOfNums [48 + (k : Int) % 10])) wx := fun wx b hb => conv_one wx b _ (by omega) (by omega) hb
      have hcv1 := hcv (wr.alloc (.cells #[.int .u8 (48 + (k : Int) % 10)] 5)) wr.heap.size (by simp)
      have hadd : ∀ wx : World, (Op.stringOp .add (strOfNums [48 + (k : Int) % 10]) (strOfNums L)).run Try.prog wx = .ok (.string (strOfNums [48 + (k : Int) % 10] ++ strOfNums L)) wx := fun wx => run_string_add_sum (P := Try.prog) (w := wx) _ _ (by
        rw [strOfNums_size, strOfNums_size]
        simp; omega)
      rw [strOfNums_append] at hadd
      have hadd' : ∀ wx : World, (Op.stringOp .add (strOfNums [48 + (k : Int) % 10]) (strOfNums L)).run Try.prog wx = .ok (.string (strOfNums ((48 + (k : Int) % 10) :: L))) wx := hadd
      have hw1 : IntKind.i64.wrap ((k : Int) / 10) = (k : Int) / 10 := by rw [IntKind.wrap_i64]; omega
      have htm : (k : Int).tmod 10 = (k : Int) % 10 := Int.tmod_eq_emod_of_nonneg (by omega)
      have htd : (k : Int).tdiv 10 = (k : Int) / 10 := Int.tdiv_eq_ediv_of_nonneg (by omega)
      have hw2 : IntKind.i64.wrap ((k : Int) % 10) = (k : Int) % 10 := by rw [IntKind.wrap_i64]; omega
      have hw3 : IntKind.i64.wrap (48 + (k : Int) % 10) = 48 + (k : Int) % 10 := by rw [IntKind.wrap_i64]; omega
      have hw4 : IntKind.u8.wrap (48 + (k : Int) % 10) = 48 + (k : Int) % 10 := by rw [IntKind.wrap_u8]; omega
      have HG2 : Hid (Grw w (wr.alloc (.cells #[.int .u8 (48 + (k : Int) % 10)] 5))) := HG.out.alloc _
      have hdv : Hid ((k : Int) / 10 = ((k / 10 : Nat) : Int)) := by show _ = _; omega
      have hk2 : Hid (k / 10 < k) := Nat.div_lt_self hlt (by omega)
      generalize ((48 + (k : Int) % 10) :: L) = L2 at HM2 hadd'
      clear hadd HM HG
      go_wp2
      go_roundw
      case rel => exact ⟨k / 10, L2, by omega, by rw [hdv.out], rfl, HM2, HG2⟩
      case measure => simp [intOf]; omega
    · obtain rfl : k = 0 := by omega
      have e0 := HM.out.1
      rw [mtF_zero] at e0
      have E : Hid (mtS n = strOfNums [109] ++ strOfNums L) := by
        show mtS n = _
        unfold mtS
        rw [e0]
      have hadd : ∀ wx : World, (Op.stringOp .add (⟨#[109]⟩ : ByteArray) (strOfNums L)).run Try.prog wx = .ok (.string (strOfNums [109] ++ strOfNums L)) wx := fun wx => by
        rw [m_lit]
        exact run_string_add_sum (P := Try.prog) (w := wx) _ _ (by
          have := HM.out.2.2
          rw [strOfNums_size, strOfNums_size]
          simp; omega)
      generalize strOfNums [109] ++ strOfNums L = R at E hadd
      clear e0 HM
      go_wp2
      go_ret
      exact ⟨by rw [E.out]; rfl, HG.out⟩
theorem mtS_len (k : Nat) (h : k ≤ 1000000000000) : (mtS k).size ≤ 1000 := by
  have : ∀ (m k : Nat) (L : List Int), k < 10 ^ m → (mtF k L).length ≤ L.length + m := by
    intro m
    induction m with
    | zero => intro k L h; simp at h; subst h; rw [mtF_zero]; omega
    | succ m ih =>
      intro k L h
      by_cases h0 : k = 0
      · subst h0; rw [mtF_zero]; omega
      · rw [mtF_step (by omega)]
        have := ih (k / 10) ((48 + ((k % 10 : Nat) : Int)) :: L) (by rw [Nat.div_lt_iff_lt_mul (by omega)]; rw [Nat.pow_succ] at h; exact h)
        rw [List.length_cons] at this
        omega
  have h1 := this 13 k [] (by omega)
  unfold mtS
  simp [ByteArray.size_append, strOfNums_size] at h1 ⊢
  omega
theorem int_wf9 {n : Int} (h0 : 0 ≤ n) (h1 : n ≤ 1000000000000) : (Lit.int .i64 n).wf = true := by
  have : IntKind.i64.min = -9223372036854775808 := by decide
  have : IntKind.i64.max = 9223372036854775807 := by decide
  simp [Lit.wf]
  omega
end Go.Proofs.Ytjammgjmidchmaa
