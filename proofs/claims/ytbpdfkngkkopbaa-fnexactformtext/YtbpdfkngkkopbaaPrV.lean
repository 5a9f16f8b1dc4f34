/- Pairs as values. -/
import Derived.Test.YtbpdfkngkkopbaaOwnS
namespace Go.Proofs.Ytbpdfkngkkopbaa
open Go.RowKit Go.PlainAid
set_option linter.unusedVariables false

structure PairV where
  ke : ByteArray
  va : ByteArray

instance : Inhabited PairV := ⟨⟨⟨#[]⟩, ⟨#[]⟩⟩⟩
def pvG (u : PairV) : List Value := [.string u.ke, .string u.va]
def PrRok (u : PairV) : Prop := u.ke.size ≤ maxLen ∧ u.va.size ≤ maxLen
abbrev PrR := FR pvG PrRok
theorem pvG_len (u : PairV) : (pvG u).length = 2 := rfl
theorem wsetsP (w : World) (g i : Nat) (v0 v1 : Value) : wsets w g i [v0, v1] = (w.setCell ⟨g, i, Option.none⟩ v0).setCell ⟨g, i + 1, Option.none⟩ v1 := rfl
end Go.Proofs.Ytbpdfkngkkopbaa
