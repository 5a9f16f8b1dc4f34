/- A number's text, whatever stands ahead: both answer the same number, or none. -/
import Derived.Test.YtimhkeebgogfoaaDoorNum
import Derived.Lib.Strings
import Derived.Lib.Split
namespace Go.Proofs.YtimhkeebgogfoaaDoor
open Go.RowKit Go.PlainAid
set_option linter.unusedVariables false

def isNeg (t : ByteArray) : Bool := decide (0 < t.size ∧ bt t 0 = 45)
def dOf (t : ByteArray) : ByteArray := if isNeg t then t.extract 1 t.size else t
def rnV (t : ByteArray) : Int := numV (bt (dOf t)) (dOf t).size (isNeg t)
def rnB (t : ByteArray) : Bool := numOK (bt (dOf t)) (dOf t).size (isNeg t)

theorem ext_size (t : ByteArray) : (t.extract 1 t.size).size = t.size - 1 := by simp [ByteArray.size_extract]

theorem trim_is (t : ByteArray) : (⟨(Lib.trimPrefix t.data.toList [45]).toArray⟩ : ByteArray) = dOf t := by
  unfold dOf isNeg
  obtain ⟨⟨l⟩⟩ := t
  cases l with
  | nil => rfl
  | cons c l =>
    have hb : bt ⟨⟨c :: l⟩⟩ 0 = (c.toNat : Int) := by
      unfold bt; rw [dif_pos (by simp [ByteArray.size])]; rfl
    by_cases hc : c = 45
    · subst hc
      have h1 : decide (0 < (ByteArray.mk ⟨45 :: l⟩).size ∧ bt ⟨⟨45 :: l⟩⟩ 0 = 45) = true := decide_eq_true ⟨by simp [ByteArray.size], by rw [hb]; rfl⟩
      rw [if_pos h1]
      apply ByteArray.ext
      apply Array.ext'
      rw [Lib.extract_data]
      simp [Lib.trimPrefix, Lib.hasPrefix, ByteArray.size]
    · have h1 : ¬ (decide (0 < (ByteArray.mk ⟨c :: l⟩).size ∧ bt ⟨⟨c :: l⟩⟩ 0 = 45) = true) := by
        rw [decide_eq_true_eq]
        rintro ⟨_, h2⟩
        rw [hb] at h2
        exact hc (UInt8.toNat_inj.1 (by simpa using Int.ofNat.inj h2))
      rw [if_neg h1]
      simp [Lib.trimPrefix, Lib.hasPrefix]; exact fun e => hc e.symm

theorem readNumber_any (t : ByteArray) (w : World) (ht : t.size ≤ 1048576) :
    Calls Tryd.prog 45 #[.string t] w fun e w' => e = .returned (.tuple #[.int .i64 (rnV t), .bool (rnB t)]) ∧ w' = w := by
  refine readNumber_core t (dOf t) (isNeg t) w (fun w => ?_) ?_ ht
  · have := Tryd.strings_TrimPrefix t ⟨#[45]⟩ w
    rw [← trim_is]; exact this
  · unfold dOf
    by_cases h : isNeg t = true
    · have : 0 < t.size := (of_decide_eq_true h).1
      rw [if_pos h, if_pos h, ext_size]; omega
    · rw [if_neg h, if_neg h]; rfl

theorem l00Number_any (t : ByteArray) (w : World) (ht : t.size ≤ 1048576) :
    Calls Tryd.prog 74 #[.string t] w fun e w' => e = .returned (.tuple #[.int .i64 (rnV t), .bool (rnB t)]) ∧ w' = w := by
  unfold rnV rnB
  cases h : isNeg t
  · have e : dOf t = t := by unfold dOf; rw [h]; rfl
    rw [e]
    refine l00Number_pos t w ?_ ht
    have := of_decide_eq_false h
    by_cases h0 : t.size = 0
    · exact .inl h0
    · exact .inr fun e => this ⟨by omega, e⟩
  · have e : dOf t = t.extract 1 t.size := by unfold dOf; rw [if_pos h]
    have hh := of_decide_eq_true h
    rw [e]
    exact l00Number_neg t _ w hh.1 hh.2 rfl (by rw [ext_size]; omega) ht
end Go.Proofs.YtimhkeebgogfoaaDoor
