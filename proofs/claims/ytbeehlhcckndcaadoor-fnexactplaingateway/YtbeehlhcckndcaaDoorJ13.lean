/- Append within a region walked by resources (RelW): the row that comes takes the elder one over, or lies in a new block. Nothing of the program is used. The plain configuration and guests. -/
import Derived.Test.YtbeehlhcckndcaaDoorJ12
import Derived.Test.YtbeehlhcckndcaaDoorJ10
import Derived.Laws.AppendOwnNone
import Derived.Test.YtbeehlhcckndcaaDoorJ3
namespace Go.Proofs.YtbeehlhcckndcaaDoor
open Go.RowKit
set_option linter.unusedVariables false
namespace Rlw
open Rel (Keep)
/-- A part of an elder box (block q) is filled with what operation t has yielded: the box as an initial resource j. -/
def fillR (q j t : Nat) (nd : List Nat) (cs : Value → List Value) : Rsc := ⟨fun σ w => Bx w q (cs (σ t)), fun _ _ b => b = q, [t], [j], nd⟩
theorem fillR_ok {Bs : Nat → Prop} (q j t : Nat) (nd : List Nat) (cs : Value → List Value) : (fillR q j t nd cs).Ok Bs :=
  ⟨fun σ w w' h hk => ⟨bx_loc h (hk.block _ (.inr rfl)), fun b hb => hb⟩, fun σ σ' hs w => ⟨fun h => by have e := hs t (by simp [fillR]); show Bx w q (cs (σ' t)); rw [e]; exact h, fun b hb => hb⟩⟩
def iniR (q : Nat) (cs : List Value) : Rsc := ⟨fun _ w => Bx w q cs, fun _ _ b => b = q, [], [], []⟩
theorem iniR_ok {Bs : Nat → Prop} (q : Nat) (cs : List Value) : (iniR q cs).Ok Bs :=
  ⟨fun σ w w' h hk => ⟨bx_loc h (hk.block _ (.inr rfl)), fun b hb => hb⟩, fun σ σ' hs w => ⟨fun h => h, fun b hb => hb⟩⟩
theorem left_fill {R : List Rsc} {i j q t o : Nat} {nd : List Nat} {σ : Nat → Value} {w : World} {u : Value} {cs : List Value} {cf : Value → List Value} (hR : R[j]? = some (iniR q cs)) (hti : t ≠ i) (hb : Bx w q cs) (vs : List Value) (hcf : cf (σ t) = sets cs o vs) : Left R (fillR q j t nd cf) i σ w u (w.setCells q o vs) := by
  obtain ⟨h1, h2, h3, h4, h5⟩ := heap_cells (q := q) vs o w
  refine ⟨?_, fun b h => .inl ⟨j, _, by simp [fillR], hR, h⟩, ⟨h2, h3, h4, by omega, fun k hk => h5 k ?_⟩⟩
  · show Bx _ q (cf (upd σ i u t))
    rw [upd_ne σ u hti, hcf]
    exact Bx.sets vs o w cs hb
  · intro e
    exact hk.2 j _ (by simp [fillR]) hR e
theorem keep_drew {B : Nat → Prop} {w w' : World} (h : Keep B { w with drawn := w.drawn + 1 } w') : Keep B w w' := ⟨h.os, h.tape, h.output, h.size, h.block⟩
theorem bx_keepW {w w' : World} {q : Nat} {cs : List Value} {P : Nat → Prop} (h : Bx w q cs) (hk : Keep P w w') (hq : P q) : Bx w' q cs := bx_loc h (hk.block q hq)
end Rlw
end Go.Proofs.YtbeehlhcckndcaaDoor

namespace Go.Proofs.YtbeehlhcckndcaaDoor
open Go.RowKit Go.PlainAid Go.Proofs.YtbeehlhcckndcaaDoor.Bt Go.Sort
set_option linter.unusedVariables false
set_option maxRecDepth 20000

def plP : List PlaceV := [⟨151587081, 32, 443, 443⟩]
def plRa : List RuleV := [⟨6, 84215296, 24, 0, 65535, false⟩, ⟨0, 0, 0, 80, 443, true⟩]
def plRb : List RuleV := [⟨0, 0, 0, 0, 65535, true⟩]
def plR : List RoleV := [⟨⟨#[103, 117, 101, 115, 116]⟩, plRa, 400, 40, 10⟩, ⟨⟨#[115, 116, 97, 102, 102]⟩, plRb, 100000, 1000, 100⟩]
def plC : CfV := ⟨167772160, 24, 167772161, ⟨#[2, 0, 0, 0, 0, 0]⟩, ⟨#[2, 0, 0, 0, 0, 255]⟩, 16843009, plP, plR⟩
def plUx (s1 h1 s2 h2 s3 h3 : ByteArray) : List UserV := [⟨⟨#[97, 110, 110]⟩, s1, h1, ⟨#[103, 117, 101, 115, 116]⟩, 600, 3⟩, ⟨⟨#[98, 111, 98]⟩, s2, h2, ⟨#[115, 116, 97, 102, 102]⟩, 100000, 100⟩, ⟨⟨#[116, 105, 99, 107, 101, 116]⟩, s3, h3, ⟨#[103, 117, 101, 115, 116]⟩, 50, 1⟩]
theorem plRow (w : World) (B : Nat) (hB : B ≤ w.heap.size) (s1 h1 s2 h2 s3 h3 : ByteArray) : OwnS uvG 6 46 (w.alloc (.cells #[.string ⟨#[97, 110, 110]⟩, .string s1, .string h1, .string ⟨#[103, 117, 101, 115, 116]⟩, .int .i64 600, .int .i64 3, .string ⟨#[98, 111, 98]⟩, .string s2, .string h2, .string ⟨#[115, 116, 97, 102, 102]⟩, .int .i64 100000, .int .i64 100, .string ⟨#[116, 105, 99, 107, 101, 116]⟩, .string s3, .string h3, .string ⟨#[103, 117, 101, 115, 116]⟩, .int .i64 50, .int .i64 1] 46)) B (.slice (some ⟨w.heap.size, 0, none⟩) 3 3) (plUx s1 h1 s2 h2 s3 h3) := World.ownsRow_lit w #[.string ⟨#[97, 110, 110]⟩, .string s1, .string h1, .string ⟨#[103, 117, 101, 115, 116]⟩, .int .i64 600, .int .i64 3, .string ⟨#[98, 111, 98]⟩, .string s2, .string h2, .string ⟨#[115, 116, 97, 102, 102]⟩, .int .i64 100000, .int .i64 100, .string ⟨#[116, 105, 99, 107, 101, 116]⟩, .string s3, .string h3, .string ⟨#[103, 117, 101, 115, 116]⟩, .int .i64 50, .int .i64 1] 3 hB (by unfold maxLen; omega) rfl
def plS1 : ByteArray := ⟨#[115, 97, 108, 116, 32]⟩ ++ ⟨#[97, 110, 110]⟩
noncomputable def plH1 : ByteArray := passS plS1 ⟨#[97, 112, 112, 108, 101]⟩ 3
def plS2 : ByteArray := ⟨#[115, 97, 108, 116, 32]⟩ ++ ⟨#[98, 111, 98]⟩
noncomputable def plH2 : ByteArray := passS plS2 ⟨#[98, 101, 114, 114, 121]⟩ 3
def plS3 : ByteArray := ⟨#[115, 97, 108, 116, 32]⟩ ++ ⟨#[116, 105, 99, 107, 101, 116]⟩
noncomputable def plH3 : ByteArray := passS plS3 ⟨#[49, 50, 51, 52, 53]⟩ 3
noncomputable def plU : List UserV := plUx plS1 plH1 plS2 plH2 plS3 plH3
def plHx (us : List UserV) : HuV := ⟨us, [], [], [], 1⟩
def plGx (us : List UserV) : GtV := ⟨plC.ip, plC.b, plC.gt, plC.gm, plC.wm, plC.rs, plC.ps, plC.ros, us, [], [], [], 1, [], [], 0, 0, 0⟩
noncomputable def plG : GtV := plGx plU
/-- What the slices of roles point to. -/
def plX (a b : Nat) : List RoX := [⟨⟨⟨#[103, 117, 101, 115, 116]⟩, plRa, 400, 40, 10⟩, some ⟨a, 0, none⟩, 2⟩, ⟨⟨⟨#[115, 116, 97, 102, 102]⟩, plRb, 100000, 1000, 100⟩, some ⟨b, 0, none⟩, 1⟩]
/-- A resource that ties three values. -/
def threeR (i j k : Nat) (nd : List Nat) (p : Value → Value → Value → Prop) : Rlw.Rsc := ⟨fun σ _ => p (σ i) (σ j) (σ k), fun _ _ _ => False, [i, j, k], [], nd⟩
theorem threeR_ok {Bs : Nat → Prop} (i j k : Nat) (nd : List Nat) (p : Value → Value → Value → Prop) : (threeR i j k nd p).Ok Bs :=
  ⟨fun σ w w' h _ => ⟨h, fun b hb => hb⟩, fun σ σ' h w => ⟨fun hf => by
    have h1 := h i (by simp [threeR]); have h2 := h j (by simp [threeR]); have h3 := h k (by simp [threeR])
    show p (σ' i) (σ' j) (σ' k)
    rw [h1, h2, h3]; exact hf, fun b hb => hb⟩⟩
/-- The cells of a struct value. -/
def cellsV : Value → List Value
  | .agg a => a.toList
  | _ => []
theorem plU_ok : ∀ x, x ∈ plU → UsRok x := by
  intro x hx
  have hp1 : plH1.size = 32 := passS_size _ _ 3
  have hp2 : plH2.size = 32 := passS_size _ _ 3
  have hp3 : plH3.size = 32 := passS_size _ _ 3
  simp only [plU, plUx, List.mem_cons, List.not_mem_nil, or_false] at hx
  rcases hx with rfl | rfl | rfl
  all_goals refine ⟨?_, ?_, ?_, ?_, by decide, by decide⟩
  all_goals first | (rw [hp1]; decide) | (rw [hp2]; decide) | (rw [hp3]; decide) | decide
theorem plG_ok : GtOk plG := by
  refine ⟨?_, ?_, plU_ok, (fun _ h => by cases h), (fun _ h => by cases h), (fun _ h => by cases h), (fun _ h => by cases h), (fun _ h => by cases h)⟩
  · intro x hx
    obtain rfl : x = ⟨151587081, 32, 443, 443⟩ := by simpa [plG, plGx, plC, plP] using hx
    exact ⟨by decide, by decide⟩
  · intro x hx
    have hx2 : x = ⟨⟨#[103, 117, 101, 115, 116]⟩, plRa, 400, 40, 10⟩ ∨ x = ⟨⟨#[115, 116, 97, 102, 102]⟩, plRb, 100000, 1000, 100⟩ := by simpa [plG, plGx, plC, plR] using hx
    rcases hx2 with rfl | rfl
    · exact ⟨by decide, fun y hy => by
        have hy2 : y = ⟨6, 84215296, 24, 0, 65535, false⟩ ∨ y = ⟨0, 0, 0, 80, 443, true⟩ := by simpa [plRa] using hy
        rcases hy2 with rfl | rfl <;> exact ⟨by decide, by decide⟩⟩
    · exact ⟨by decide, fun y hy => by
        obtain rfl : y = ⟨0, 0, 0, 0, 65535, true⟩ := by simpa [plRb] using hy
        exact ⟨by decide, by decide⟩⟩
theorem plG_sz : GtS plG := by
  have hp1 : plH1.size = 32 := passS_size _ _ 3
  have hp2 : plH2.size = 32 := passS_size _ _ 3
  have hp3 : plH3.size = 32 := passS_size _ _ 3
  refine ⟨by decide, by decide, by decide, by decide, by decide, by decide, by decide, by decide, by decide, by decide, ?_, ?_, by decide, by decide, (fun x hx => by cases hx), (fun x hx => by cases hx), by decide⟩
  · intro r hr
    have hr2 : r = ⟨⟨#[103, 117, 101, 115, 116]⟩, plRa, 400, 40, 10⟩ ∨ r = ⟨⟨#[115, 116, 97, 102, 102]⟩, plRb, 100000, 1000, 100⟩ := by simpa [plG, plGx, plC, plR] using hr
    rcases hr2 with rfl | rfl <;> exact ⟨by decide, by decide⟩
  · show szL wtUser plU ≤ 1048576
    unfold plU plUx
    simp only [szL, List.foldr, wtUser, hp1, hp2, hp3]
    decide
end Go.Proofs.YtbeehlhcckndcaaDoor
