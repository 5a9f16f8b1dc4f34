/- Flows as values. -/
import Derived.Test.YtlebblmlbhnppaaGreatOwnS
namespace Go.Proofs.YtlebblmlbhnppaaGreat
open Go.RowKit Go.PlainAid
set_option linter.unusedVariables false

structure FlowV where
  pr : Int
  mc : ByteArray
  si : Int
  sp : Int
  di : Int
  dp : Int
  st : Int
  un : Int
  ow : Int

instance : Inhabited FlowV := ⟨⟨0, ⟨#[]⟩, 0, 0, 0, 0, 0, 0, 0⟩⟩
def wvG (u : FlowV) : List Value := [.int .i64 u.pr, .string u.mc, .int .i64 u.si, .int .i64 u.sp, .int .i64 u.di, .int .i64 u.dp, .int .i64 u.st, .int .i64 u.un, .int .i64 u.ow]
def FlRok (u : FlowV) : Prop := (Lit.int .i64 u.pr).wf = true ∧ u.mc.size ≤ maxLen ∧ (Lit.int .i64 u.si).wf = true ∧ (Lit.int .i64 u.sp).wf = true ∧ (Lit.int .i64 u.di).wf = true ∧ (Lit.int .i64 u.dp).wf = true ∧ (Lit.int .i64 u.st).wf = true ∧ (Lit.int .i64 u.un).wf = true ∧ (Lit.int .i64 u.ow).wf = true
abbrev FlR := FR wvG FlRok
theorem wvG_len (u : FlowV) : (wvG u).length = 9 := rfl
theorem wsets9 (w : World) (g i : Nat) (v0 v1 v2 v3 v4 v5 v6 v7 v8 : Value) : wsets w g i [v0, v1, v2, v3, v4, v5, v6, v7, v8] = ((((((((w.setCell ⟨g, i, Option.none⟩ v0).setCell ⟨g, i + 1, Option.none⟩ v1).setCell ⟨g, i + 2, Option.none⟩ v2).setCell ⟨g, i + 3, Option.none⟩ v3).setCell ⟨g, i + 4, Option.none⟩ v4).setCell ⟨g, i + 5, Option.none⟩ v5).setCell ⟨g, i + 6, Option.none⟩ v6).setCell ⟨g, i + 7, Option.none⟩ v7).setCell ⟨g, i + 8, Option.none⟩ v8 := rfl
end Go.Proofs.YtlebblmlbhnppaaGreat
