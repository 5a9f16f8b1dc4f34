/- Users, sessions, fails, records, guests, as values. -/
import Derived.Test.YtmeejholckelgaaGreatRws
namespace Go.Proofs.YtmeejholckelgaaGreat
open Go.RowKit Go.PlainAid
set_option linter.unusedVariables false

structure UserV where
  nm : ByteArray
  sa : ByteArray
  ha : ByteArray
  ro : ByteArray
  bl : Int
  lg : Int

instance : Inhabited UserV := ⟨⟨⟨#[]⟩, ⟨#[]⟩, ⟨#[]⟩, ⟨#[]⟩, 0, 0⟩⟩
def uvG (u : UserV) : List Value := [.string u.nm, .string u.sa, .string u.ha, .string u.ro, .int .i64 u.bl, .int .i64 u.lg]
def UsRok (u : UserV) : Prop := u.nm.size ≤ maxLen ∧ u.sa.size ≤ maxLen ∧ u.ha.size ≤ maxLen ∧ u.ro.size ≤ maxLen ∧ (Lit.int .i64 u.bl).wf = true ∧ (Lit.int .i64 u.lg).wf = true
def UsR (w : World) (u : UserV) (vs : List Value) : Prop := vs = uvG u ∧ UsRok u
theorem UsR.kp : Kp UsR := fun _ _ _ _ h _ => h

structure SessV where
  id : Int
  us : Int
  mc : ByteArray
  ip : Int
  be : Int
  la : Int
  ud : Int
  qu : Int
  un : Int
  il : Int

instance : Inhabited SessV := ⟨⟨0, 0, ⟨#[]⟩, 0, 0, 0, 0, 0, 0, 0⟩⟩
def svG (u : SessV) : List Value := [.int .i64 u.id, .int .i64 u.us, .string u.mc, .int .i64 u.ip, .int .i64 u.be, .int .i64 u.la, .int .i64 u.ud, .int .i64 u.qu, .int .i64 u.un, .int .i64 u.il]
def SeRok (u : SessV) : Prop := (Lit.int .i64 u.id).wf = true ∧ (Lit.int .i64 u.us).wf = true ∧ u.mc.size ≤ maxLen ∧ (Lit.int .i64 u.ip).wf = true ∧ (Lit.int .i64 u.be).wf = true ∧ (Lit.int .i64 u.la).wf = true ∧ (Lit.int .i64 u.ud).wf = true ∧ (Lit.int .i64 u.qu).wf = true ∧ (Lit.int .i64 u.un).wf = true ∧ (Lit.int .i64 u.il).wf = true
def SeR (w : World) (u : SessV) (vs : List Value) : Prop := vs = svG u ∧ SeRok u
theorem SeR.kp : Kp SeR := fun _ _ _ _ h _ => h

structure FailV where
  mc : ByteArray
  ct : Int
  un : Int

instance : Inhabited FailV := ⟨⟨⟨#[]⟩, 0, 0⟩⟩
def fvG (u : FailV) : List Value := [.string u.mc, .int .i64 u.ct, .int .i64 u.un]
def FaRok (u : FailV) : Prop := u.mc.size ≤ maxLen ∧ (Lit.int .i64 u.ct).wf = true ∧ (Lit.int .i64 u.un).wf = true
def FaR (w : World) (u : FailV) (vs : List Value) : Prop := vs = fvG u ∧ FaRok u
theorem FaR.kp : Kp FaR := fun _ _ _ _ h _ => h

structure RecV where
  id : Int
  tm : Int
  ca : Int
  bt : Int
  st : Bool

instance : Inhabited RecV := ⟨⟨0, 0, 0, 0, false⟩⟩
def evG (u : RecV) : List Value := [.int .i64 u.id, .int .i64 u.tm, .int .i64 u.ca, .int .i64 u.bt, .bool u.st]
def ReRok (u : RecV) : Prop := (Lit.int .i64 u.id).wf = true ∧ (Lit.int .i64 u.tm).wf = true ∧ (Lit.int .i64 u.ca).wf = true ∧ (Lit.int .i64 u.bt).wf = true
def ReR (w : World) (u : RecV) (vs : List Value) : Prop := vs = evG u ∧ ReRok u
theorem ReR.kp : Kp ReR := fun _ _ _ _ h _ => h

theorem wsets3 (w : World) (g i : Nat) (v0 v1 v2 : Value) : wsets w g i [v0, v1, v2] = ((w.setCell ⟨g, i, Option.none⟩ v0).setCell ⟨g, i + 1, Option.none⟩ v1).setCell ⟨g, i + 2, Option.none⟩ v2 := rfl
theorem wsets10 (w : World) (g i : Nat) (v0 v1 v2 v3 v4 v5 v6 v7 v8 v9 : Value) : wsets w g i [v0, v1, v2, v3, v4, v5, v6, v7, v8, v9] = (((((((((w.setCell ⟨g, i, Option.none⟩ v0).setCell ⟨g, i + 1, Option.none⟩ v1).setCell ⟨g, i + 2, Option.none⟩ v2).setCell ⟨g, i + 3, Option.none⟩ v3).setCell ⟨g, i + 4, Option.none⟩ v4).setCell ⟨g, i + 5, Option.none⟩ v5).setCell ⟨g, i + 6, Option.none⟩ v6).setCell ⟨g, i + 7, Option.none⟩ v7).setCell ⟨g, i + 8, Option.none⟩ v8).setCell ⟨g, i + 9, Option.none⟩ v9 := rfl
end Go.Proofs.YtmeejholckelgaaGreat
