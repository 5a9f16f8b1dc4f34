/- FlowsDrop, the program's and the model's. -/
import Derived.Test.YthokaemeadhkjaaFloA
namespace Go.Proofs.Ythokaemeadhkjaa
open Go.RowKit Go.PlainAid Go.Proofs.Ythokaemeadhkjaa.Bt Go.Sort
set_option linter.unusedVariables false
set_option maxRecDepth 20000

noncomputable def dpC (fs : List FlowV) (o : Int) : Int := if ffC fs ≠ 0 then ffC fs else if dec (0 ≤ o ∧ o ≤ 10000) = false then 4 else 0
noncomputable def dpL (fs : List FlowV) (o : Int) : List FlowV := if dpC fs o ≠ 0 then [] else fs.filter (fun f => !(f.ow == o))
theorem dpL_len (fs : List FlowV) (o : Int) : (dpL fs o).length ≤ fs.length := by
  unfold dpL
  split
  · exact Nat.zero_le _
  · exact List.length_filter_le _ _
theorem dpL_ok {fs : List FlowV} (o : Int) (h : ∀ x, x ∈ fs → FlRok x) : ∀ x, x ∈ dpL fs o → FlRok x := by
  intro x hx
  unfold dpL at hx
  split at hx
  · simp at hx
  · exact h x (List.mem_filter.1 hx).1
theorem lk_drop {fs : List FlowV} (h : foB fs = true) (o : Int) : fs.filter (lkP (-1) o) = fs.filter (fun f => !(f.ow == o)) := by
  apply List.filter_congr
  intro f hf
  obtain ⟨i, hi⟩ := List.getElem?_of_mem hf
  have := (foB_says h).2.1 i f (lt_at hi) hi
  have hu : 0 ≤ f.un := by
    unfold flB at this
    simp [dec] at this
    omega
  unfold lkP
  have : decide (-1 < f.un) = true := by simp; omega
  rw [this]
  rfl
theorem ff_cases (fs : List FlowV) : (4096 < fs.length ∧ ffC fs = 2) ∨ (fs.length ≤ 4096 ∧ foB fs = false ∧ ffC fs = 1) ∨ (fs.length ≤ 4096 ∧ foB fs = true ∧ ffC fs = 0) := by
  unfold ffC
  by_cases h : 4096 < fs.length
  · exact .inl ⟨h, if_pos h⟩
  · cases hq : foB fs with
    | false => exact .inr (.inl ⟨by omega, rfl, by rw [if_neg h]; rfl⟩)
    | true => exact .inr (.inr ⟨by omega, rfl, by rw [if_neg h]; rfl⟩)
set_option maxHeartbeats 1000000 in
theorem drop1_any (pr : Int) (mc : ByteArray) (si sp di dp st un ow : Int) (o : Int) (B : Nat) (W : World) (h : W.cell? ⟨B, 0, none⟩ = some (.int .i64 o)) :
    Calls Try.prog 53 #[.agg #[.int .i64 pr, .string mc, .int .i64 si, .int .i64 sp, .int .i64 di, .int .i64 dp, .int .i64 st, .int .i64 un, .int .i64 ow], .pointer (some ⟨B, 0, none⟩)] W fun e w' => e = .returned (.bool (ow == o)) ∧ Grw W w' := by
  have hc := acell h (.cells #[.int .i64 pr, .string mc, .int .i64 si, .int .i64 sp, .int .i64 di, .int .i64 dp, .int .i64 st, .int .i64 un, .int .i64 ow] 28)
  clear h
  generalize hq : (ow == o) = q
  cases q <;>
  · go_enter Try.func53, Try.ntmps53
    go_wp2
    go_ret
    exact ⟨rfl, (Grw.refl _).alloc _⟩
set_option maxHeartbeats 2000000 in
theorem implDrop9_any (a : Option Addr) (len cap : Nat) (fs : List FlowV) (o : Int) (w : World) (h : Rw FlR 9 w a fs) (hok : ∀ x, x ∈ fs → FlRok x) (hl : fs.length = len) (hm : len ≤ 1048576) :
    Calls Try.prog 18 #[.slice a len cap, .int .i64 o] w fun e w' => ∃ v, e = .returned (.tuple #[v, .int .i64 (dpC fs o)]) ∧ OwnS wvG 9 28 w' w.heap.size v (dpL fs o) ∧ Below w.heap.size w w' := by
  have RW : Hid (Rw FlR 9 w a fs) := h
  have HF : Hid (∀ w, Rw FlR 9 w a fs → Calls Try.prog 34 #[.slice a len cap] w fun e w' => e = .returned (.int .i64 (ffC fs)) ∧ Below w.heap.size w w') := fun w h => flowsFault_any a len cap fs w h hok hl hm
  have HW : Hid (∀ w, Calls Try.prog 52 #[.int .i64 o] w fun e w' => e = .returned (.bool (dec (0 ≤ o ∧ o ≤ 10000))) ∧ w' = w) := fun w => owner9_any o w
  by_cases hf : ffC fs = 0
  rotate_left
  · have E1 : Hid (dpC fs o = ffC fs) := if_pos hf
    have E2 : Hid (dpL fs o = []) := if_pos (by rw [E1.out]; exact hf)
    rw [E1.out, E2.out]
    clear E1 E2 h hok
    generalize ffC fs = z at HF hf ⊢
    have hz : (z == 0) = false := by simp [hf]
    have hz2 : (z != 0) = true := by simp [hf]
    clear hf
    go_enter Try.func18, Try.ntmps18
    go_wp2_with fail
    refine (HF.out _ (RW.out.keep FR.kp ((Below.refl _ _).alloc (Nat.le_refl _) _))).mono ?_
    rintro e w2 ⟨rfl, g2⟩
    have G2 : Hid (Below w.heap.size w w2) := ((Below.refl _ _).alloc (Nat.le_refl _) _).trans (g2.mono (by simp))
    clear g2
    go_wp2
    go_ret2
    exact ⟨_, rfl, (OwnS.nil w2 _), G2.out⟩
  have hq : foB fs = true := by
    rcases ff_cases fs with h1 | h1 | h1
    · have := h1.2; omega
    · have := h1.2.2; omega
    · exact h1.2.1
  have h4 : fs.length ≤ 4096 := by
    rcases ff_cases fs with h1 | h1 | h1
    · have := h1.2; omega
    · exact h1.1
    · exact h1.1
  have E1 : dpC fs o = if dec (0 ≤ o ∧ o ≤ 10000) = false then 4 else 0 := if_neg (by simp [hf])
  have E2 : dpL fs o = if dpC fs o ≠ 0 then [] else fs.filter (fun f => !(f.ow == o)) := rfl
  rw [hf] at HF
  have HL : Hid (∀ w B, Rw FlR 9 w a fs → w.cell? ⟨B, 0, none⟩ = some (.int .i64 o) → Calls Try.prog 50 #[.slice a len cap, .func (.func 53) #[] #[.pointer (some ⟨B, 0, none⟩)]] w fun e w' => ∃ v, e = .returned v ∧ OwnS wvG 9 28 w' w.heap.size v (fs.filter (fun f => !(f.ow == o))) ∧ Below w.heap.size w w') := fun w B h hc => flowsLeft_any a len cap fs 53 (.pointer (some ⟨B, 0, none⟩)) (fun f => f.ow == o) w h hok hl (by omega) (foB_says hq).2.2 (enters_of Try.func53 (by kernel_rfl) rfl) (fun pr mc si sp di dp st un ow W hW => drop1_any pr mc si sp di dp st un ow o B W (bkeep hW hc))
  clear h hok hf
  generalize dec (0 ≤ o ∧ o ≤ 10000) = t at HW E1
  generalize dpC fs o = y1 at E1 E2 ⊢
  generalize dpL fs o = y2 at E2 ⊢
  generalize fs.filter (fun f => !(f.ow == o)) = R at HL E2
  cases t with
  | false =>
    rw [if_pos rfl] at E1
    subst E1
    rw [if_pos (by simp)] at E2
    subst E2
    go_enter Try.func18, Try.ntmps18
    go_wp2_with fail
    refine (HF.out _ (RW.out.keep FR.kp ((Below.refl _ _).alloc (Nat.le_refl _) _))).mono ?_
    rintro e w2 ⟨rfl, g2⟩
    have k0 : w2.cell? ⟨w.heap.size, 0, none⟩ = some (.int .i64 o) := bkeep g2 (by simp [go_sem])
    have G2 : Hid (Below w.heap.size w w2) := ((Below.refl _ _).alloc (Nat.le_refl _) _).trans (g2.mono (by simp))
    clear g2
    go_wp2_with fail
    refine (HW.out _).mono ?_
    rintro e w9 ⟨rfl, rfl⟩
    go_wp2
    go_ret2
    exact ⟨_, rfl, (OwnS.nil _ _), G2.out⟩
  | true =>
    rw [if_neg (by simp)] at E1
    subst E1
    rw [if_neg (by simp)] at E2
    subst E2
    go_enter Try.func18, Try.ntmps18
    go_wp2_with fail
    refine (HF.out _ (RW.out.keep FR.kp ((Below.refl _ _).alloc (Nat.le_refl _) _))).mono ?_
    rintro e w2 ⟨rfl, g2⟩
    have k0 : w2.cell? ⟨w.heap.size, 0, none⟩ = some (.int .i64 o) := bkeep g2 (by simp [go_sem])
    have G2 : Hid (Below w.heap.size w w2) := ((Below.refl _ _).alloc (Nat.le_refl _) _).trans (g2.mono (by simp))
    clear g2
    go_wp2_with fail
    refine (HW.out _).mono ?_
    rintro e w9 ⟨rfl, rfl⟩
    go_wp2_with fail
    refine (HL.out _ _ (RW.out.keep FR.kp G2.out) k0).mono ?_
    rintro e w3 ⟨v3, rfl, o3, g3⟩
    have G3 : Hid (OwnS wvG 9 28 w3 w9.heap.size v3 y2 ∧ Below w.heap.size w w3) := ⟨o3, G2.out.trans (g3.mono G2.out.size)⟩
    clear o3 g3 k0
    go_wp2
    go_ret2
    exact ⟨_, rfl, G3.out.1.lower G2.out.size, G3.out.2⟩
end Go.Proofs.Ythokaemeadhkjaa
