/- Connections and segments as values. -/
import Derived.Test.YtlebblmlbhnppaaGreatOwnS
namespace Go.Proofs.YtlebblmlbhnppaaGreat
open Go.RowKit Go.PlainAid
set_option linter.unusedVariables false

structure ConnV where
  mc : ByteArray
  ip : Int
  po : Int
  di : Int
  st : Int
  un : Int
  nx : Int
  wa : Int
  inn : ByteArray
  out : ByteArray
  fin : Bool

instance : Inhabited ConnV := ⟨⟨⟨#[]⟩, 0, 0, 0, 0, 0, 0, 0, ⟨#[]⟩, ⟨#[]⟩, false⟩⟩
def cnG (u : ConnV) : List Value := [.string u.mc, .int .i64 u.ip, .int .i64 u.po, .int .i64 u.di, .int .i64 u.st, .int .i64 u.un, .int .i64 u.nx, .int .i64 u.wa, .string u.inn, .string u.out, .bool u.fin]
def CnRok (u : ConnV) : Prop := u.mc.size ≤ maxLen ∧ (Lit.int .i64 u.ip).wf = true ∧ (Lit.int .i64 u.po).wf = true ∧ (Lit.int .i64 u.di).wf = true ∧ (Lit.int .i64 u.st).wf = true ∧ (Lit.int .i64 u.un).wf = true ∧ (Lit.int .i64 u.nx).wf = true ∧ (Lit.int .i64 u.wa).wf = true ∧ u.inn.size ≤ maxLen ∧ u.out.size ≤ maxLen
abbrev CnR := FR cnG CnRok
theorem cnG_len (u : ConnV) : (cnG u).length = 11 := rfl
structure SegV where
  sp : Int
  dp : Int
  sq : Int
  ac : Int
  fl : Int
  wi : Int
  da : ByteArray

instance : Inhabited SegV := ⟨⟨0, 0, 0, 0, 0, 0, ⟨#[]⟩⟩⟩
def sgG (u : SegV) : List Value := [.int .i64 u.sp, .int .i64 u.dp, .int .i64 u.sq, .int .i64 u.ac, .int .i64 u.fl, .int .i64 u.wi, .string u.da]
def SgRok (u : SegV) : Prop := (Lit.int .i64 u.sp).wf = true ∧ (Lit.int .i64 u.dp).wf = true ∧ (Lit.int .i64 u.sq).wf = true ∧ (Lit.int .i64 u.ac).wf = true ∧ (Lit.int .i64 u.fl).wf = true ∧ (Lit.int .i64 u.wi).wf = true ∧ u.da.size ≤ maxLen
abbrev SgR := FR sgG SgRok
theorem sgG_len (u : SegV) : (sgG u).length = 7 := rfl
end Go.Proofs.YtlebblmlbhnppaaGreat
