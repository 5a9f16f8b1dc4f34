/- ConnTake: which state a connection is in. ConnTake of the program: what is refused, and a connection that is greeted. ConnTake of the program: an open connection, or one that says its last. -/
import Derived.Test.YtfgghffgfefgpaaTkG
import Derived.Test.YtfgghffgfefgpaaJ1
namespace Go.Proofs.Ytfgghffgfefgpaa
open Go.RowKit Go.PlainAid Go.Proofs.Ytfgghffgfefgpaa.Bt Go.Sort
set_option linter.unusedVariables false
set_option maxRecDepth 20000
theorem livMakeS (w : World) : Calls Try.prog 65 #[.func (.func 66) #[] #[], .func (.func 67) #[] #[]] w fun e w' => e = .returned (.func (.func 82) #[] #[.pointer (some ⟨w.heap.size, 0, none⟩), .pointer (some ⟨w.heap.size + 1, 0, none⟩)]) ∧ (w'.cell? ⟨w.heap.size, 0, none⟩ = some (.func (.func 66) #[] #[]) ∧ w'.cell? ⟨w.heap.size + 1, 0, none⟩ = some (.func (.func 67) #[] #[]) ∧ w.heap.size + 2 ≤ w'.heap.size ∧ Below w.heap.size w w') := by
  have hmf : ∀ (fn : Fn) (first cap : Array Value) (w : World), (Instr.makeFunc fn first cap).run Try.prog w = .ok (.func fn first cap) w := fun _ _ _ _ => rfl
  go_enter Try.func65, Try.ntmps65
  go_wp2
  go_ret
  exact ⟨rfl, by simp, by simp, by simp, ((Below.refl _ _).alloc (Nat.le_refl _) _).alloc (by simp) _⟩
theorem livMakeT (w : World) : Calls Try.prog 65 #[.func (.func 68) #[] #[], .func (.func 69) #[] #[]] w fun e w' => e = .returned (.func (.func 82) #[] #[.pointer (some ⟨w.heap.size, 0, none⟩), .pointer (some ⟨w.heap.size + 1, 0, none⟩)]) ∧ (w'.cell? ⟨w.heap.size, 0, none⟩ = some (.func (.func 68) #[] #[]) ∧ w'.cell? ⟨w.heap.size + 1, 0, none⟩ = some (.func (.func 69) #[] #[]) ∧ w.heap.size + 2 ≤ w'.heap.size ∧ Below w.heap.size w w') := by
  have hmf : ∀ (fn : Fn) (first cap : Array Value) (w : World), (Instr.makeFunc fn first cap).run Try.prog w = .ok (.func fn first cap) w := fun _ _ _ _ => rfl
  go_enter Try.func65, Try.ntmps65
  go_wp2
  go_ret
  exact ⟨rfl, by simp, by simp, by simp, ((Below.refl _ _).alloc (Nat.le_refl _) _).alloc (by simp) _⟩
theorem connS (st : Int) (w : World) (h : st = 1) : Calls Try.prog 34 #[.int .i64 st] w fun e w' => e = .returned (.func (.func 82) #[] #[.pointer (some ⟨w.heap.size, 0, none⟩), .pointer (some ⟨w.heap.size + 1, 0, none⟩)]) ∧ (w'.cell? ⟨w.heap.size, 0, none⟩ = some (.func (.func 66) #[] #[]) ∧ w'.cell? ⟨w.heap.size + 1, 0, none⟩ = some (.func (.func 67) #[] #[]) ∧ w.heap.size + 2 ≤ w'.heap.size ∧ Below w.heap.size w w') := by
  have T : Hid (∀ w, Calls Try.prog 65 #[.func (.func 66) #[] #[], .func (.func 67) #[] #[]] w fun e w' => e = .returned (.func (.func 82) #[] #[.pointer (some ⟨w.heap.size, 0, none⟩), .pointer (some ⟨w.heap.size + 1, 0, none⟩)]) ∧ (w'.cell? ⟨w.heap.size, 0, none⟩ = some (.func (.func 66) #[] #[]) ∧ w'.cell? ⟨w.heap.size + 1, 0, none⟩ = some (.func (.func 67) #[] #[]) ∧ w.heap.size + 2 ≤ w'.heap.size ∧ Below w.heap.size w w')) := fun w => livMakeS w
  have t1 : (st == 1) = true := by simp [h]
  clear h
  go_enter Try.func34, Try.ntmps34
  go_wp2_with fail
  refine (T.out _).mono ?_
  rintro e w1 ⟨rfl, hp⟩
  have HP : Hid _ := hp
  clear hp
  go_wp2
  go_ret
  exact ⟨rfl, HP.out⟩
theorem connT2 (st : Int) (w : World) (h : st = 2) : Calls Try.prog 34 #[.int .i64 st] w fun e w' => e = .returned (.func (.func 82) #[] #[.pointer (some ⟨w.heap.size, 0, none⟩), .pointer (some ⟨w.heap.size + 1, 0, none⟩)]) ∧ (w'.cell? ⟨w.heap.size, 0, none⟩ = some (.func (.func 68) #[] #[]) ∧ w'.cell? ⟨w.heap.size + 1, 0, none⟩ = some (.func (.func 69) #[] #[]) ∧ w.heap.size + 2 ≤ w'.heap.size ∧ Below w.heap.size w w') := by
  have T : Hid (∀ w, Calls Try.prog 65 #[.func (.func 68) #[] #[], .func (.func 69) #[] #[]] w fun e w' => e = .returned (.func (.func 82) #[] #[.pointer (some ⟨w.heap.size, 0, none⟩), .pointer (some ⟨w.heap.size + 1, 0, none⟩)]) ∧ (w'.cell? ⟨w.heap.size, 0, none⟩ = some (.func (.func 68) #[] #[]) ∧ w'.cell? ⟨w.heap.size + 1, 0, none⟩ = some (.func (.func 69) #[] #[]) ∧ w.heap.size + 2 ≤ w'.heap.size ∧ Below w.heap.size w w')) := fun w => livMakeT w
  have t1 : (st == 1) = false := by simp [h]
  have t2 : (st == 2) = true := by simp [h]
  clear h
  go_enter Try.func34, Try.ntmps34
  go_wp2_with fail
  refine (T.out _).mono ?_
  rintro e w1 ⟨rfl, hp⟩
  have HP : Hid _ := hp
  clear hp
  go_wp2
  go_ret
  exact ⟨rfl, HP.out⟩
theorem connT3 (st : Int) (w : World) (h : st = 3) : Calls Try.prog 34 #[.int .i64 st] w fun e w' => e = .returned (.func (.func 82) #[] #[.pointer (some ⟨w.heap.size, 0, none⟩), .pointer (some ⟨w.heap.size + 1, 0, none⟩)]) ∧ (w'.cell? ⟨w.heap.size, 0, none⟩ = some (.func (.func 68) #[] #[]) ∧ w'.cell? ⟨w.heap.size + 1, 0, none⟩ = some (.func (.func 69) #[] #[]) ∧ w.heap.size + 2 ≤ w'.heap.size ∧ Below w.heap.size w w') := by
  have T : Hid (∀ w, Calls Try.prog 65 #[.func (.func 68) #[] #[], .func (.func 69) #[] #[]] w fun e w' => e = .returned (.func (.func 82) #[] #[.pointer (some ⟨w.heap.size, 0, none⟩), .pointer (some ⟨w.heap.size + 1, 0, none⟩)]) ∧ (w'.cell? ⟨w.heap.size, 0, none⟩ = some (.func (.func 68) #[] #[]) ∧ w'.cell? ⟨w.heap.size + 1, 0, none⟩ = some (.func (.func 69) #[] #[]) ∧ w.heap.size + 2 ≤ w'.heap.size ∧ Below w.heap.size w w')) := fun w => livMakeT w
  have t1 : (st == 1) = false := by simp [h]
  have t2 : (st == 2) = false := by simp [h]
  have t3 : (st == 3) = true := by simp [h]
  clear h
  go_enter Try.func34, Try.ntmps34
  go_wp2_with fail
  refine (T.out _).mono ?_
  rintro e w1 ⟨rfl, hp⟩
  have HP : Hid _ := hp
  clear hp
  go_wp2
  go_ret
  exact ⟨rfl, HP.out⟩
theorem connG (st : Int) (w : World) (h : st = 4) : Calls Try.prog 34 #[.int .i64 st] w fun e w' => e = .returned (.func (.func 70) #[] #[]) ∧ w' = w := by
  have t1 : (st == 1) = false := by simp [h]
  have t2 : (st == 2) = false := by simp [h]
  have t3 : (st == 3) = false := by simp [h]
  clear h
  go_enter Try.func34, Try.ntmps34
  go_wp2
  go_ret
  exact ⟨rfl, rfl⟩
set_option maxHeartbeats 2000000 in
theorem gone_any (mc : ByteArray) (ip po di st un nx wa : Int) (inn out : ByteArray) (fin : Bool) (sp dp sq ac fl wi : Int) (da : ByteArray) (w : World) : Calls Try.prog 70 #[.agg #[.string mc, .int .i64 ip, .int .i64 po, .int .i64 di, .int .i64 st, .int .i64 un, .int .i64 nx, .int .i64 wa, .string inn, .string out, .bool fin], .agg #[.int .i64 sp, .int .i64 dp, .int .i64 sq, .int .i64 ac, .int .i64 fl, .int .i64 wi, .string da]] w fun e w' => ∃ v, e = .returned (.tuple #[.agg #[.string mc, .int .i64 ip, .int .i64 po, .int .i64 di, .int .i64 st, .int .i64 un, .int .i64 nx, .int .i64 wa, .string inn, .string out, .bool fin], v]) ∧ OwnS sgG 7 27 w' w.heap.size v [] ∧ Below w.heap.size w w' := by
  go_enter Try.func70, Try.ntmps70
  go_wp2
  (try simp only [Exit.inBlock, Exit.then])
  refine bodyPost_ret (v := .tuple #[.agg #[.string mc, .int .i64 ip, .int .i64 po, .int .i64 di, .int .i64 st, .int .i64 un, .int .i64 nx, .int .i64 wa, .string inn, .string out, .bool fin], .slice none 0 0]) (by simp [results, Try.results70, go_sem]; try rfl) rfl ?_
  exact ⟨_, rfl, OwnS.nil _ _, ((((Below.refl _ _).alloc (Nat.le_refl _) _).alloc (by simp) _).alloc (by simp; omega) _)⟩
end Go.Proofs.Ytfgghffgfefgpaa

namespace Go.Proofs.Ytfgghffgfefgpaa
open Go.RowKit Go.PlainAid Go.Proofs.Ytfgghffgfefgpaa.Bt Go.Sort
set_option linter.unusedVariables false
set_option maxRecDepth 20000

theorem OwnS.apart9 {α : Type} {c : α → List Value} {K : Nat} {e : TypeId} {w : World} {B : Nat} {v : Value} {xs : List α} (h : OwnS c K e w B v xs) (a : Addr) (u : Value) (hne : ∀ k, v.ownBlock = some k → k ≠ a.block) : OwnS c K e (w.setCell a u) B v xs :=
  h.kept (grown_set w a u) (by
    cases hb : v.ownBlock with
    | none => exact Or.inl rfl
    | some k => exact Or.inr (fun he => hne k hb (Option.some.inj he)))
structure XD (cb : Nat) (cs : List Value) (gb : Nat) (gs : List Value) (rb : Nat) (rs : List Value) (w wx : World) : Prop where
  c : Bx wx cb cs
  g : Bx wx gb gs
  r : Bx wx rb rs
  out : Below w.heap.size w wx
theorem XD.below {cb : Nat} {cs : List Value} {gb : Nat} {gs : List Value} {rb : Nat} {rs : List Value} {w wx wy : World} (h : XD cb cs gb gs rb rs w wx) (hb : Below wx.heap.size wx wy) : XD cb cs gb gs rb rs w wy :=
  ⟨h.c.below hb, h.g.below hb, h.r.below hb, h.out.trans (hb.mono h.out.size)⟩
theorem XD.far {cb : Nat} {cs : List Value} {gb : Nat} {gs : List Value} {rb : Nat} {rs : List Value} {w wx : World} (h : XD cb cs gb gs rb rs w wx) (a : Addr) (u : Value) (h1 : a.block ≠ cb) (h2 : a.block ≠ gb) (h3 : a.block ≠ rb) (h4 : w.heap.size ≤ a.block) : XD cb cs gb gs rb rs w (wx.setCell a u) :=
  ⟨h.c.far a u h1, h.g.far a u h2, h.r.far a u h3, h.out.setCell h4 u⟩
set_option maxHeartbeats 8000000 in
theorem implTk_bad1 (mc : ByteArray) (ip po di st un nx wa : Int) (inn out : ByteArray) (fin : Bool) (sp dp sq ac fl wi : Int) (da : ByteArray) (w : World) (hp : po ≤ 9223372036854775807) (hmc : mc.size ≤ 1048576) (hi : inn.size ≤ 1048576) (ho : out.size ≤ 1048576) (hs : sp ≤ 9223372036854775807) (hd : dp ≤ 9223372036854775807) (hq : sq ≤ 9223372036854775807) (ha : ac ≤ 9223372036854775807) (hw : wi ≤ 9223372036854775807) (hda : da.size ≤ 9223372036854775807) (hok : okB ⟨mc, ip, po, di, st, un, nx, wa, inn, out, fin⟩ = false) :
    Calls Try.prog 8 #[.agg #[.string mc, .int .i64 ip, .int .i64 po, .int .i64 di, .int .i64 st, .int .i64 un, .int .i64 nx, .int .i64 wa, .string inn, .string out, .bool fin], .agg #[.int .i64 sp, .int .i64 dp, .int .i64 sq, .int .i64 ac, .int .i64 fl, .int .i64 wi, .string da]] w fun e w' => ∃ v, e = .returned (.tuple #[cvA cnZ, v, .int .i64 1]) ∧ OwnS sgG 7 27 w' w.heap.size v [] ∧ Below w.heap.size w w' := by
  have TK : Hid (∀ w, Calls Try.prog 11 #[.agg #[.string mc, .int .i64 ip, .int .i64 po, .int .i64 di, .int .i64 st, .int .i64 un, .int .i64 nx, .int .i64 wa, .string inn, .string out, .bool fin]] w fun e w' => e = .returned (.bool false) ∧ Grw w w') := fun w => by rw [← hok]; exact implConOK_any mc ip po di st un nx wa inn out fin w hp hmc hi ho
  have C0 : Bx (((w.alloc (.cells #[.string mc, .int .i64 ip, .int .i64 po, .int .i64 di, .int .i64 st, .int .i64 un, .int .i64 nx, .int .i64 wa, .string inn, .string out, .bool fin] 24)).alloc (.cells #[.int .i64 sp, .int .i64 dp, .int .i64 sq, .int .i64 ac, .int .i64 fl, .int .i64 wi, .string da] 27)).alloc (.cells #[.string ⟨#[]⟩, .int .i64 0, .int .i64 0, .int .i64 0, .int .i64 0, .int .i64 0, .int .i64 0, .int .i64 0, .string ⟨#[]⟩, .string ⟨#[]⟩, .bool false] 24)) w.heap.size [.string mc, .int .i64 ip, .int .i64 po, .int .i64 di, .int .i64 st, .int .i64 un, .int .i64 nx, .int .i64 wa, .string inn, .string out, .bool fin] := ((Bx.new w _ _).below ((Below.refl _ _).alloc (Nat.le_refl _) _)).below ((Below.refl _ _).alloc (Nat.le_refl _) _)
  have G0 : Bx (((w.alloc (.cells #[.string mc, .int .i64 ip, .int .i64 po, .int .i64 di, .int .i64 st, .int .i64 un, .int .i64 nx, .int .i64 wa, .string inn, .string out, .bool fin] 24)).alloc (.cells #[.int .i64 sp, .int .i64 dp, .int .i64 sq, .int .i64 ac, .int .i64 fl, .int .i64 wi, .string da] 27)).alloc (.cells #[.string ⟨#[]⟩, .int .i64 0, .int .i64 0, .int .i64 0, .int .i64 0, .int .i64 0, .int .i64 0, .int .i64 0, .string ⟨#[]⟩, .string ⟨#[]⟩, .bool false] 24)) (w.heap.size + 1) [.int .i64 sp, .int .i64 dp, .int .i64 sq, .int .i64 ac, .int .i64 fl, .int .i64 wi, .string da] := by
    have h := (Bx.new (w.alloc (.cells #[.string mc, .int .i64 ip, .int .i64 po, .int .i64 di, .int .i64 st, .int .i64 un, .int .i64 nx, .int .i64 wa, .string inn, .string out, .bool fin] 24)) #[.int .i64 sp, .int .i64 dp, .int .i64 sq, .int .i64 ac, .int .i64 fl, .int .i64 wi, .string da] 27).below ((Below.refl _ _).alloc (Nat.le_refl _) (.cells #[.string ⟨#[]⟩, .int .i64 0, .int .i64 0, .int .i64 0, .int .i64 0, .int .i64 0, .int .i64 0, .int .i64 0, .string ⟨#[]⟩, .string ⟨#[]⟩, .bool false] 24))
    rw [World.size_alloc] at h
    exact h
  have R0 : Bx (((w.alloc (.cells #[.string mc, .int .i64 ip, .int .i64 po, .int .i64 di, .int .i64 st, .int .i64 un, .int .i64 nx, .int .i64 wa, .string inn, .string out, .bool fin] 24)).alloc (.cells #[.int .i64 sp, .int .i64 dp, .int .i64 sq, .int .i64 ac, .int .i64 fl, .int .i64 wi, .string da] 27)).alloc (.cells #[.string ⟨#[]⟩, .int .i64 0, .int .i64 0, .int .i64 0, .int .i64 0, .int .i64 0, .int .i64 0, .int .i64 0, .string ⟨#[]⟩, .string ⟨#[]⟩, .bool false] 24)) (w.heap.size + 1 + 1) [.string ⟨#[]⟩, .int .i64 0, .int .i64 0, .int .i64 0, .int .i64 0, .int .i64 0, .int .i64 0, .int .i64 0, .string ⟨#[]⟩, .string ⟨#[]⟩, .bool false] := by
    have h := Bx.new ((w.alloc (.cells #[.string mc, .int .i64 ip, .int .i64 po, .int .i64 di, .int .i64 st, .int .i64 un, .int .i64 nx, .int .i64 wa, .string inn, .string out, .bool fin] 24)).alloc (.cells #[.int .i64 sp, .int .i64 dp, .int .i64 sq, .int .i64 ac, .int .i64 fl, .int .i64 wi, .string da] 27)) #[.string ⟨#[]⟩, .int .i64 0, .int .i64 0, .int .i64 0, .int .i64 0, .int .i64 0, .int .i64 0, .int .i64 0, .string ⟨#[]⟩, .string ⟨#[]⟩, .bool false] 24
    rw [World.size_alloc, World.size_alloc] at h
    exact h
  have B0 : Hid (Below w.heap.size w (((w.alloc (.cells #[.string mc, .int .i64 ip, .int .i64 po, .int .i64 di, .int .i64 st, .int .i64 un, .int .i64 nx, .int .i64 wa, .string inn, .string out, .bool fin] 24)).alloc (.cells #[.int .i64 sp, .int .i64 dp, .int .i64 sq, .int .i64 ac, .int .i64 fl, .int .i64 wi, .string da] 27)).alloc (.cells #[.string ⟨#[]⟩, .int .i64 0, .int .i64 0, .int .i64 0, .int .i64 0, .int .i64 0, .int .i64 0, .int .i64 0, .string ⟨#[]⟩, .string ⟨#[]⟩, .bool false] 24))) := ((((Below.refl _ _).alloc (Nat.le_refl _) _).alloc (by simp) _).alloc (by simp; omega) _)
  go_enter Try.func8, Try.ntmps8
  go_wp2_with (first | (refine wpl_get rfl _ rfl _ rfl (by assumption) rfl ?_) | (refine wpl_getS rfl _ rfl _ rfl (by assumption) rfl ?_) | fail)
  refine (TK.out _).mono ?_
  rintro e w1 ⟨rfl, g1⟩
  have b1 := g1.below
  have C1 : Bx w1 w.heap.size [.string mc, .int .i64 ip, .int .i64 po, .int .i64 di, .int .i64 st, .int .i64 un, .int .i64 nx, .int .i64 wa, .string inn, .string out, .bool fin] := C0.below b1
  have G1 : Bx w1 (w.heap.size + 1) [.int .i64 sp, .int .i64 dp, .int .i64 sq, .int .i64 ac, .int .i64 fl, .int .i64 wi, .string da] := G0.below b1
  have R1 : Bx w1 (w.heap.size + 1 + 1) [.string ⟨#[]⟩, .int .i64 0, .int .i64 0, .int .i64 0, .int .i64 0, .int .i64 0, .int .i64 0, .int .i64 0, .string ⟨#[]⟩, .string ⟨#[]⟩, .bool false] := R0.below b1
  have B1 : Hid (Below w.heap.size w w1) := B0.out.trans (b1.mono B0.out.size)
  clear b1 g1
  go_wp2_with (first | (refine wpl_put rfl _ _ rfl (w.heap.size + 1 + 1) _ rfl rfl R1 rfl rfl rfl ?_; intro w5 hw5 R5; have B5 : Hid (Below w.heap.size w w5) := (by rw [hw5]; exact below_cells (by omega) _ _ _ B1.out); clear hw5) | fail)
  have xx0 : w5.cell? ⟨w.heap.size + 1 + 1, 0, none⟩ = some (.string ⟨#[]⟩) := R5.cell 0 rfl
  have xx1 : w5.cell? ⟨w.heap.size + 1 + 1, 1, none⟩ = some (.int .i64 0) := R5.cell 1 rfl
  have xx2 : w5.cell? ⟨w.heap.size + 1 + 1, 2, none⟩ = some (.int .i64 0) := R5.cell 2 rfl
  have xx3 : w5.cell? ⟨w.heap.size + 1 + 1, 3, none⟩ = some (.int .i64 0) := R5.cell 3 rfl
  have xx4 : w5.cell? ⟨w.heap.size + 1 + 1, 4, none⟩ = some (.int .i64 0) := R5.cell 4 rfl
  have xx5 : w5.cell? ⟨w.heap.size + 1 + 1, 5, none⟩ = some (.int .i64 0) := R5.cell 5 rfl
  have xx6 : w5.cell? ⟨w.heap.size + 1 + 1, 6, none⟩ = some (.int .i64 0) := R5.cell 6 rfl
  have xx7 : w5.cell? ⟨w.heap.size + 1 + 1, 7, none⟩ = some (.int .i64 0) := R5.cell 7 rfl
  have xx8 : w5.cell? ⟨w.heap.size + 1 + 1, 8, none⟩ = some (.string ⟨#[]⟩) := R5.cell 8 rfl
  have xx9 : w5.cell? ⟨w.heap.size + 1 + 1, 9, none⟩ = some (.string ⟨#[]⟩) := R5.cell 9 rfl
  have xx10 : w5.cell? ⟨w.heap.size + 1 + 1, 10, none⟩ = some (.bool false) := R5.cell 10 rfl
  (try simp only [Exit.inBlock, Exit.then])
  refine bodyPost_ret (v := .tuple #[.agg #[.string ⟨#[]⟩, .int .i64 0, .int .i64 0, .int .i64 0, .int .i64 0, .int .i64 0, .int .i64 0, .int .i64 0, .string ⟨#[]⟩, .string ⟨#[]⟩, .bool false], .slice none 0 0, .int .i64 1]) (by simp [results, Try.results8, go_sem, xx0, xx1, xx2, xx3, xx4, xx5, xx6, xx7, xx8, xx9, xx10]; try rfl) rfl ?_
  exact ⟨_, rfl, OwnS.nil _ _, B5.out⟩
set_option maxHeartbeats 8000000 in
theorem implTk_bad2 (mc : ByteArray) (ip po di st un nx wa : Int) (inn out : ByteArray) (fin : Bool) (sp dp sq ac fl wi : Int) (da : ByteArray) (w : World) (hp : po ≤ 9223372036854775807) (hmc : mc.size ≤ 1048576) (hi : inn.size ≤ 1048576) (ho : out.size ≤ 1048576) (hs : sp ≤ 9223372036854775807) (hd : dp ≤ 9223372036854775807) (hq : sq ≤ 9223372036854775807) (ha : ac ≤ 9223372036854775807) (hw : wi ≤ 9223372036854775807) (hda : da.size ≤ 9223372036854775807) (hok : okB ⟨mc, ip, po, di, st, un, nx, wa, inn, out, fin⟩ = true) (hsg : sgB ⟨sp, dp, sq, ac, fl, wi, da⟩ = false) :
    Calls Try.prog 8 #[.agg #[.string mc, .int .i64 ip, .int .i64 po, .int .i64 di, .int .i64 st, .int .i64 un, .int .i64 nx, .int .i64 wa, .string inn, .string out, .bool fin], .agg #[.int .i64 sp, .int .i64 dp, .int .i64 sq, .int .i64 ac, .int .i64 fl, .int .i64 wi, .string da]] w fun e w' => ∃ v, e = .returned (.tuple #[cvA cnZ, v, .int .i64 1]) ∧ OwnS sgG 7 27 w' w.heap.size v [] ∧ Below w.heap.size w w' := by
  have TK : Hid (∀ w, Calls Try.prog 11 #[.agg #[.string mc, .int .i64 ip, .int .i64 po, .int .i64 di, .int .i64 st, .int .i64 un, .int .i64 nx, .int .i64 wa, .string inn, .string out, .bool fin]] w fun e w' => e = .returned (.bool true) ∧ Grw w w') := fun w => by rw [← hok]; exact implConOK_any mc ip po di st un nx wa inn out fin w hp hmc hi ho
  have TSG : Hid (∀ w, Calls Try.prog 33 #[.agg #[.int .i64 sp, .int .i64 dp, .int .i64 sq, .int .i64 ac, .int .i64 fl, .int .i64 wi, .string da]] w fun e w' => e = .returned (.bool false) ∧ Grw w w') := fun w => by rw [← hsg]; exact segOK9_any sp dp sq ac fl wi da w hs hd hq ha hw hda
  have C0 : Bx (((w.alloc (.cells #[.string mc, .int .i64 ip, .int .i64 po, .int .i64 di, .int .i64 st, .int .i64 un, .int .i64 nx, .int .i64 wa, .string inn, .string out, .bool fin] 24)).alloc (.cells #[.int .i64 sp, .int .i64 dp, .int .i64 sq, .int .i64 ac, .int .i64 fl, .int .i64 wi, .string da] 27)).alloc (.cells #[.string ⟨#[]⟩, .int .i64 0, .int .i64 0, .int .i64 0, .int .i64 0, .int .i64 0, .int .i64 0, .int .i64 0, .string ⟨#[]⟩, .string ⟨#[]⟩, .bool false] 24)) w.heap.size [.string mc, .int .i64 ip, .int .i64 po, .int .i64 di, .int .i64 st, .int .i64 un, .int .i64 nx, .int .i64 wa, .string inn, .string out, .bool fin] := ((Bx.new w _ _).below ((Below.refl _ _).alloc (Nat.le_refl _) _)).below ((Below.refl _ _).alloc (Nat.le_refl _) _)
  have G0 : Bx (((w.alloc (.cells #[.string mc, .int .i64 ip, .int .i64 po, .int .i64 di, .int .i64 st, .int .i64 un, .int .i64 nx, .int .i64 wa, .string inn, .string out, .bool fin] 24)).alloc (.cells #[.int .i64 sp, .int .i64 dp, .int .i64 sq, .int .i64 ac, .int .i64 fl, .int .i64 wi, .string da] 27)).alloc (.cells #[.string ⟨#[]⟩, .int .i64 0, .int .i64 0, .int .i64 0, .int .i64 0, .int .i64 0, .int .i64 0, .int .i64 0, .string ⟨#[]⟩, .string ⟨#[]⟩, .bool false] 24)) (w.heap.size + 1) [.int .i64 sp, .int .i64 dp, .int .i64 sq, .int .i64 ac, .int .i64 fl, .int .i64 wi, .string da] := by
    have h := (Bx.new (w.alloc (.cells #[.string mc, .int .i64 ip, .int .i64 po, .int .i64 di, .int .i64 st, .int .i64 un, .int .i64 nx, .int .i64 wa, .string inn, .string out, .bool fin] 24)) #[.int .i64 sp, .int .i64 dp, .int .i64 sq, .int .i64 ac, .int .i64 fl, .int .i64 wi, .string da] 27).below ((Below.refl _ _).alloc (Nat.le_refl _) (.cells #[.string ⟨#[]⟩, .int .i64 0, .int .i64 0, .int .i64 0, .int .i64 0, .int .i64 0, .int .i64 0, .int .i64 0, .string ⟨#[]⟩, .string ⟨#[]⟩, .bool false] 24))
    rw [World.size_alloc] at h
    exact h
  have R0 : Bx (((w.alloc (.cells #[.string mc, .int .i64 ip, .int .i64 po, .int .i64 di, .int .i64 st, .int .i64 un, .int .i64 nx, .int .i64 wa, .string inn, .string out, .bool fin] 24)).alloc (.cells #[.int .i64 sp, .int .i64 dp, .int .i64 sq, .int .i64 ac, .int .i64 fl, .int .i64 wi, .string da] 27)).alloc (.cells #[.string ⟨#[]⟩, .int .i64 0, .int .i64 0, .int .i64 0, .int .i64 0, .int .i64 0, .int .i64 0, .int .i64 0, .string ⟨#[]⟩, .string ⟨#[]⟩, .bool false] 24)) (w.heap.size + 1 + 1) [.string ⟨#[]⟩, .int .i64 0, .int .i64 0, .int .i64 0, .int .i64 0, .int .i64 0, .int .i64 0, .int .i64 0, .string ⟨#[]⟩, .string ⟨#[]⟩, .bool false] := by
    have h := Bx.new ((w.alloc (.cells #[.string mc, .int .i64 ip, .int .i64 po, .int .i64 di, .int .i64 st, .int .i64 un, .int .i64 nx, .int .i64 wa, .string inn, .string out, .bool fin] 24)).alloc (.cells #[.int .i64 sp, .int .i64 dp, .int .i64 sq, .int .i64 ac, .int .i64 fl, .int .i64 wi, .string da] 27)) #[.string ⟨#[]⟩, .int .i64 0, .int .i64 0, .int .i64 0, .int .i64 0, .int .i64 0, .int .i64 0, .int .i64 0, .string ⟨#[]⟩, .string ⟨#[]⟩, .bool false] 24
    rw [World.size_alloc, World.size_alloc] at h
    exact h
  have B0 : Hid (Below w.heap.size w (((w.alloc (.cells #[.string mc, .int .i64 ip, .int .i64 po, .int .i64 di, .int .i64 st, .int .i64 un, .int .i64 nx, .int .i64 wa, .string inn, .string out, .bool fin] 24)).alloc (.cells #[.int .i64 sp, .int .i64 dp, .int .i64 sq, .int .i64 ac, .int .i64 fl, .int .i64 wi, .string da] 27)).alloc (.cells #[.string ⟨#[]⟩, .int .i64 0, .int .i64 0, .int .i64 0, .int .i64 0, .int .i64 0, .int .i64 0, .int .i64 0, .string ⟨#[]⟩, .string ⟨#[]⟩, .bool false] 24))) := ((((Below.refl _ _).alloc (Nat.le_refl _) _).alloc (by simp) _).alloc (by simp; omega) _)
  go_enter Try.func8, Try.ntmps8
  go_wp2_with (first | (refine wpl_get rfl _ rfl _ rfl (by assumption) rfl ?_) | (refine wpl_getS rfl _ rfl _ rfl (by assumption) rfl ?_) | fail)
  refine (TK.out _).mono ?_
  rintro e w1 ⟨rfl, g1⟩
  have b1 := g1.below
  have C1 : Bx w1 w.heap.size [.string mc, .int .i64 ip, .int .i64 po, .int .i64 di, .int .i64 st, .int .i64 un, .int .i64 nx, .int .i64 wa, .string inn, .string out, .bool fin] := C0.below b1
  have G1 : Bx w1 (w.heap.size + 1) [.int .i64 sp, .int .i64 dp, .int .i64 sq, .int .i64 ac, .int .i64 fl, .int .i64 wi, .string da] := G0.below b1
  have R1 : Bx w1 (w.heap.size + 1 + 1) [.string ⟨#[]⟩, .int .i64 0, .int .i64 0, .int .i64 0, .int .i64 0, .int .i64 0, .int .i64 0, .int .i64 0, .string ⟨#[]⟩, .string ⟨#[]⟩, .bool false] := R0.below b1
  have B1 : Hid (Below w.heap.size w w1) := B0.out.trans (b1.mono B0.out.size)
  clear b1 g1
  have gq0 : w1.cell? ⟨w.heap.size + 1, 0, none⟩ = some (.int .i64 sp) := G1.cell 0 rfl
  have gq1 : w1.cell? ⟨w.heap.size + 1, 1, none⟩ = some (.int .i64 dp) := G1.cell 1 rfl
  have gq2 : w1.cell? ⟨w.heap.size + 1, 2, none⟩ = some (.int .i64 sq) := G1.cell 2 rfl
  have gq3 : w1.cell? ⟨w.heap.size + 1, 3, none⟩ = some (.int .i64 ac) := G1.cell 3 rfl
  have gq4 : w1.cell? ⟨w.heap.size + 1, 4, none⟩ = some (.int .i64 fl) := G1.cell 4 rfl
  have gq5 : w1.cell? ⟨w.heap.size + 1, 5, none⟩ = some (.int .i64 wi) := G1.cell 5 rfl
  have gq6 : w1.cell? ⟨w.heap.size + 1, 6, none⟩ = some (.string da) := G1.cell 6 rfl
  go_wp2_with (first | (refine wpl_get rfl _ rfl _ rfl (by assumption) rfl ?_) | (refine wpl_getS rfl _ rfl _ rfl (by assumption) rfl ?_) | fail)
  refine (TSG.out _).mono ?_
  rintro e w2 ⟨rfl, g2⟩
  have b2 := g2.below
  have C2 : Bx w2 w.heap.size [.string mc, .int .i64 ip, .int .i64 po, .int .i64 di, .int .i64 st, .int .i64 un, .int .i64 nx, .int .i64 wa, .string inn, .string out, .bool fin] := C1.below b2
  have G2 : Bx w2 (w.heap.size + 1) [.int .i64 sp, .int .i64 dp, .int .i64 sq, .int .i64 ac, .int .i64 fl, .int .i64 wi, .string da] := G1.below b2
  have R2 : Bx w2 (w.heap.size + 1 + 1) [.string ⟨#[]⟩, .int .i64 0, .int .i64 0, .int .i64 0, .int .i64 0, .int .i64 0, .int .i64 0, .int .i64 0, .string ⟨#[]⟩, .string ⟨#[]⟩, .bool false] := R1.below b2
  have B2 : Hid (Below w.heap.size w w2) := B1.out.trans (b2.mono B1.out.size)
  clear b2 g2
  go_wp2_with (first | (refine wpl_put rfl _ _ rfl (w.heap.size + 1 + 1) _ rfl rfl R2 rfl rfl rfl ?_; intro w5 hw5 R5; have B5 : Hid (Below w.heap.size w w5) := (by rw [hw5]; exact below_cells (by omega) _ _ _ B2.out); clear hw5) | fail)
  have xx0 : w5.cell? ⟨w.heap.size + 1 + 1, 0, none⟩ = some (.string ⟨#[]⟩) := R5.cell 0 rfl
  have xx1 : w5.cell? ⟨w.heap.size + 1 + 1, 1, none⟩ = some (.int .i64 0) := R5.cell 1 rfl
  have xx2 : w5.cell? ⟨w.heap.size + 1 + 1, 2, none⟩ = some (.int .i64 0) := R5.cell 2 rfl
  have xx3 : w5.cell? ⟨w.heap.size + 1 + 1, 3, none⟩ = some (.int .i64 0) := R5.cell 3 rfl
  have xx4 : w5.cell? ⟨w.heap.size + 1 + 1, 4, none⟩ = some (.int .i64 0) := R5.cell 4 rfl
  have xx5 : w5.cell? ⟨w.heap.size + 1 + 1, 5, none⟩ = some (.int .i64 0) := R5.cell 5 rfl
  have xx6 : w5.cell? ⟨w.heap.size + 1 + 1, 6, none⟩ = some (.int .i64 0) := R5.cell 6 rfl
  have xx7 : w5.cell? ⟨w.heap.size + 1 + 1, 7, none⟩ = some (.int .i64 0) := R5.cell 7 rfl
  have xx8 : w5.cell? ⟨w.heap.size + 1 + 1, 8, none⟩ = some (.string ⟨#[]⟩) := R5.cell 8 rfl
  have xx9 : w5.cell? ⟨w.heap.size + 1 + 1, 9, none⟩ = some (.string ⟨#[]⟩) := R5.cell 9 rfl
  have xx10 : w5.cell? ⟨w.heap.size + 1 + 1, 10, none⟩ = some (.bool false) := R5.cell 10 rfl
  (try simp only [Exit.inBlock, Exit.then])
  refine bodyPost_ret (v := .tuple #[.agg #[.string ⟨#[]⟩, .int .i64 0, .int .i64 0, .int .i64 0, .int .i64 0, .int .i64 0, .int .i64 0, .int .i64 0, .string ⟨#[]⟩, .string ⟨#[]⟩, .bool false], .slice none 0 0, .int .i64 1]) (by simp [results, Try.results8, go_sem, xx0, xx1, xx2, xx3, xx4, xx5, xx6, xx7, xx8, xx9, xx10]; try rfl) rfl ?_
  exact ⟨_, rfl, OwnS.nil _ _, B5.out⟩
set_option maxHeartbeats 16000000 in
theorem implTk_S (mc : ByteArray) (ip po di st un nx wa : Int) (inn out : ByteArray) (fin : Bool) (sp dp sq ac fl wi : Int) (da : ByteArray) (xm : ByteArray) (xi xp xd xs xu xn xw : Int) (xI xO : ByteArray) (xF : Bool) (XL : List SegV) (w : World) (hp : po ≤ 9223372036854775807) (hmc : mc.size ≤ 1048576) (hi : inn.size ≤ 1048576) (ho : out.size ≤ 1048576) (hs : sp ≤ 9223372036854775807) (hd : dp ≤ 9223372036854775807) (hq : sq ≤ 9223372036854775807) (ha : ac ≤ 9223372036854775807) (hw : wi ≤ 9223372036854775807) (hda : da.size ≤ 9223372036854775807) (hok : okB ⟨mc, ip, po, di, st, un, nx, wa, inn, out, fin⟩ = true) (hsg : sgB ⟨sp, dp, sq, ac, fl, wi, da⟩ = true) (hst : st = 1) (TL0 : ∀ (p2 p3 : Nat) (w : World), p2 < w.heap.size → p3 < w.heap.size → w.cell? ⟨p2, 0, none⟩ = some (.func (.func 66) #[] #[]) → w.cell? ⟨p3, 0, none⟩ = some (.func (.func 67) #[] #[]) → Calls Try.prog 82 #[.agg #[.string mc, .int .i64 ip, .int .i64 po, .int .i64 di, .int .i64 st, .int .i64 un, .int .i64 nx, .int .i64 wa, .string inn, .string out, .bool fin], .agg #[.int .i64 sp, .int .i64 dp, .int .i64 sq, .int .i64 ac, .int .i64 fl, .int .i64 wi, .string da], .pointer (some ⟨p2, 0, none⟩), .pointer (some ⟨p3, 0, none⟩)] w fun e w' => ∃ v, e = .returned (.tuple #[.agg #[.string xm, .int .i64 xi, .int .i64 xp, .int .i64 xd, .int .i64 xs, .int .i64 xu, .int .i64 xn, .int .i64 xw, .string xI, .string xO, .bool xF], v]) ∧ OwnS sgG 7 27 w' w.heap.size v XL ∧ Below w.heap.size w w') :
    Calls Try.prog 8 #[.agg #[.string mc, .int .i64 ip, .int .i64 po, .int .i64 di, .int .i64 st, .int .i64 un, .int .i64 nx, .int .i64 wa, .string inn, .string out, .bool fin], .agg #[.int .i64 sp, .int .i64 dp, .int .i64 sq, .int .i64 ac, .int .i64 fl, .int .i64 wi, .string da]] w fun e w' => ∃ v, e = .returned (.tuple #[.agg #[.string xm, .int .i64 xi, .int .i64 xp, .int .i64 xd, .int .i64 xs, .int .i64 xu, .int .i64 xn, .int .i64 xw, .string xI, .string xO, .bool xF], v, .int .i64 0]) ∧ OwnS sgG 7 27 w' w.heap.size v XL ∧ Below w.heap.size w w' := by
  have TK : Hid (∀ w, Calls Try.prog 11 #[.agg #[.string mc, .int .i64 ip, .int .i64 po, .int .i64 di, .int .i64 st, .int .i64 un, .int .i64 nx, .int .i64 wa, .string inn, .string out, .bool fin]] w fun e w' => e = .returned (.bool true) ∧ Grw w w') := fun w => by rw [← hok]; exact implConOK_any mc ip po di st un nx wa inn out fin w hp hmc hi ho
  have TSG : Hid (∀ w, Calls Try.prog 33 #[.agg #[.int .i64 sp, .int .i64 dp, .int .i64 sq, .int .i64 ac, .int .i64 fl, .int .i64 wi, .string da]] w fun e w' => e = .returned (.bool true) ∧ Grw w w') := fun w => by rw [← hsg]; exact segOK9_any sp dp sq ac fl wi da w hs hd hq ha hw hda
  have TC : Hid (∀ w, Calls Try.prog 34 #[.int .i64 st] w fun e w' => e = .returned (.func (.func 82) #[] #[.pointer (some ⟨w.heap.size, 0, none⟩), .pointer (some ⟨w.heap.size + 1, 0, none⟩)]) ∧ (w'.cell? ⟨w.heap.size, 0, none⟩ = some (.func (.func 66) #[] #[]) ∧ w'.cell? ⟨w.heap.size + 1, 0, none⟩ = some (.func (.func 67) #[] #[]) ∧ w.heap.size + 2 ≤ w'.heap.size ∧ Below w.heap.size w w')) := fun w => connS st w hst
  have TL : Hid (∀ (p2 p3 : Nat) (w : World), p2 < w.heap.size → p3 < w.heap.size → w.cell? ⟨p2, 0, none⟩ = some (.func (.func 66) #[] #[]) → w.cell? ⟨p3, 0, none⟩ = some (.func (.func 67) #[] #[]) → Calls Try.prog 82 #[.agg #[.string mc, .int .i64 ip, .int .i64 po, .int .i64 di, .int .i64 st, .int .i64 un, .int .i64 nx, .int .i64 wa, .string inn, .string out, .bool fin], .agg #[.int .i64 sp, .int .i64 dp, .int .i64 sq, .int .i64 ac, .int .i64 fl, .int .i64 wi, .string da], .pointer (some ⟨p2, 0, none⟩), .pointer (some ⟨p3, 0, none⟩)] w fun e w' => ∃ v, e = .returned (.tuple #[.agg #[.string xm, .int .i64 xi, .int .i64 xp, .int .i64 xd, .int .i64 xs, .int .i64 xu, .int .i64 xn, .int .i64 xw, .string xI, .string xO, .bool xF], v]) ∧ OwnS sgG 7 27 w' w.heap.size v XL ∧ Below w.heap.size w w') := TL0
  clear TL0 hst hok hsg
  have C0 : Bx (((w.alloc (.cells #[.string mc, .int .i64 ip, .int .i64 po, .int .i64 di, .int .i64 st, .int .i64 un, .int .i64 nx, .int .i64 wa, .string inn, .string out, .bool fin] 24)).alloc (.cells #[.int .i64 sp, .int .i64 dp, .int .i64 sq, .int .i64 ac, .int .i64 fl, .int .i64 wi, .string da] 27)).alloc (.cells #[.string ⟨#[]⟩, .int .i64 0, .int .i64 0, .int .i64 0, .int .i64 0, .int .i64 0, .int .i64 0, .int .i64 0, .string ⟨#[]⟩, .string ⟨#[]⟩, .bool false] 24)) w.heap.size [.string mc, .int .i64 ip, .int .i64 po, .int .i64 di, .int .i64 st, .int .i64 un, .int .i64 nx, .int .i64 wa, .string inn, .string out, .bool fin] := ((Bx.new w _ _).below ((Below.refl _ _).alloc (Nat.le_refl _) _)).below ((Below.refl _ _).alloc (Nat.le_refl _) _)
  have G0 : Bx (((w.alloc (.cells #[.string mc, .int .i64 ip, .int .i64 po, .int .i64 di, .int .i64 st, .int .i64 un, .int .i64 nx, .int .i64 wa, .string inn, .string out, .bool fin] 24)).alloc (.cells #[.int .i64 sp, .int .i64 dp, .int .i64 sq, .int .i64 ac, .int .i64 fl, .int .i64 wi, .string da] 27)).alloc (.cells #[.string ⟨#[]⟩, .int .i64 0, .int .i64 0, .int .i64 0, .int .i64 0, .int .i64 0, .int .i64 0, .int .i64 0, .string ⟨#[]⟩, .string ⟨#[]⟩, .bool false] 24)) (w.heap.size + 1) [.int .i64 sp, .int .i64 dp, .int .i64 sq, .int .i64 ac, .int .i64 fl, .int .i64 wi, .string da] := by
    have h := (Bx.new (w.alloc (.cells #[.string mc, .int .i64 ip, .int .i64 po, .int .i64 di, .int .i64 st, .int .i64 un, .int .i64 nx, .int .i64 wa, .string inn, .string out, .bool fin] 24)) #[.int .i64 sp, .int .i64 dp, .int .i64 sq, .int .i64 ac, .int .i64 fl, .int .i64 wi, .string da] 27).below ((Below.refl _ _).alloc (Nat.le_refl _) (.cells #[.string ⟨#[]⟩, .int .i64 0, .int .i64 0, .int .i64 0, .int .i64 0, .int .i64 0, .int .i64 0, .int .i64 0, .string ⟨#[]⟩, .string ⟨#[]⟩, .bool false] 24))
    rw [World.size_alloc] at h
    exact h
  have R0 : Bx (((w.alloc (.cells #[.string mc, .int .i64 ip, .int .i64 po, .int .i64 di, .int .i64 st, .int .i64 un, .int .i64 nx, .int .i64 wa, .string inn, .string out, .bool fin] 24)).alloc (.cells #[.int .i64 sp, .int .i64 dp, .int .i64 sq, .int .i64 ac, .int .i64 fl, .int .i64 wi, .string da] 27)).alloc (.cells #[.string ⟨#[]⟩, .int .i64 0, .int .i64 0, .int .i64 0, .int .i64 0, .int .i64 0, .int .i64 0, .int .i64 0, .string ⟨#[]⟩, .string ⟨#[]⟩, .bool false] 24)) (w.heap.size + 1 + 1) [.string ⟨#[]⟩, .int .i64 0, .int .i64 0, .int .i64 0, .int .i64 0, .int .i64 0, .int .i64 0, .int .i64 0, .string ⟨#[]⟩, .string ⟨#[]⟩, .bool false] := by
    have h := Bx.new ((w.alloc (.cells #[.string mc, .int .i64 ip, .int .i64 po, .int .i64 di, .int .i64 st, .int .i64 un, .int .i64 nx, .int .i64 wa, .string inn, .string out, .bool fin] 24)).alloc (.cells #[.int .i64 sp, .int .i64 dp, .int .i64 sq, .int .i64 ac, .int .i64 fl, .int .i64 wi, .string da] 27)) #[.string ⟨#[]⟩, .int .i64 0, .int .i64 0, .int .i64 0, .int .i64 0, .int .i64 0, .int .i64 0, .int .i64 0, .string ⟨#[]⟩, .string ⟨#[]⟩, .bool false] 24
    rw [World.size_alloc, World.size_alloc] at h
    exact h
  have B0 : Hid (Below w.heap.size w (((w.alloc (.cells #[.string mc, .int .i64 ip, .int .i64 po, .int .i64 di, .int .i64 st, .int .i64 un, .int .i64 nx, .int .i64 wa, .string inn, .string out, .bool fin] 24)).alloc (.cells #[.int .i64 sp, .int .i64 dp, .int .i64 sq, .int .i64 ac, .int .i64 fl, .int .i64 wi, .string da] 27)).alloc (.cells #[.string ⟨#[]⟩, .int .i64 0, .int .i64 0, .int .i64 0, .int .i64 0, .int .i64 0, .int .i64 0, .int .i64 0, .string ⟨#[]⟩, .string ⟨#[]⟩, .bool false] 24))) := ((((Below.refl _ _).alloc (Nat.le_refl _) _).alloc (by simp) _).alloc (by simp; omega) _)
  go_enter Try.func8, Try.ntmps8
  go_wp2_with (first | (refine wpl_get rfl _ rfl _ rfl (by assumption) rfl ?_) | (refine wpl_getS rfl _ rfl _ rfl (by assumption) rfl ?_) | fail)
  refine (TK.out _).mono ?_
  rintro e w1 ⟨rfl, g1⟩
  have b1 := g1.below
  have C1 : Bx w1 w.heap.size [.string mc, .int .i64 ip, .int .i64 po, .int .i64 di, .int .i64 st, .int .i64 un, .int .i64 nx, .int .i64 wa, .string inn, .string out, .bool fin] := C0.below b1
  have G1 : Bx w1 (w.heap.size + 1) [.int .i64 sp, .int .i64 dp, .int .i64 sq, .int .i64 ac, .int .i64 fl, .int .i64 wi, .string da] := G0.below b1
  have R1 : Bx w1 (w.heap.size + 1 + 1) [.string ⟨#[]⟩, .int .i64 0, .int .i64 0, .int .i64 0, .int .i64 0, .int .i64 0, .int .i64 0, .int .i64 0, .string ⟨#[]⟩, .string ⟨#[]⟩, .bool false] := R0.below b1
  have B1 : Hid (Below w.heap.size w w1) := B0.out.trans (b1.mono B0.out.size)
  clear b1 g1
  have gq0 : w1.cell? ⟨w.heap.size + 1, 0, none⟩ = some (.int .i64 sp) := G1.cell 0 rfl
  have gq1 : w1.cell? ⟨w.heap.size + 1, 1, none⟩ = some (.int .i64 dp) := G1.cell 1 rfl
  have gq2 : w1.cell? ⟨w.heap.size + 1, 2, none⟩ = some (.int .i64 sq) := G1.cell 2 rfl
  have gq3 : w1.cell? ⟨w.heap.size + 1, 3, none⟩ = some (.int .i64 ac) := G1.cell 3 rfl
  have gq4 : w1.cell? ⟨w.heap.size + 1, 4, none⟩ = some (.int .i64 fl) := G1.cell 4 rfl
  have gq5 : w1.cell? ⟨w.heap.size + 1, 5, none⟩ = some (.int .i64 wi) := G1.cell 5 rfl
  have gq6 : w1.cell? ⟨w.heap.size + 1, 6, none⟩ = some (.string da) := G1.cell 6 rfl
  go_wp2_with (first | (refine wpl_get rfl _ rfl _ rfl (by assumption) rfl ?_) | (refine wpl_getS rfl _ rfl _ rfl (by assumption) rfl ?_) | fail)
  refine (TSG.out _).mono ?_
  rintro e w2 ⟨rfl, g2⟩
  have b2 := g2.below
  have C2 : Bx w2 w.heap.size [.string mc, .int .i64 ip, .int .i64 po, .int .i64 di, .int .i64 st, .int .i64 un, .int .i64 nx, .int .i64 wa, .string inn, .string out, .bool fin] := C1.below b2
  have G2 : Bx w2 (w.heap.size + 1) [.int .i64 sp, .int .i64 dp, .int .i64 sq, .int .i64 ac, .int .i64 fl, .int .i64 wi, .string da] := G1.below b2
  have R2 : Bx w2 (w.heap.size + 1 + 1) [.string ⟨#[]⟩, .int .i64 0, .int .i64 0, .int .i64 0, .int .i64 0, .int .i64 0, .int .i64 0, .int .i64 0, .string ⟨#[]⟩, .string ⟨#[]⟩, .bool false] := R1.below b2
  have B2 : Hid (Below w.heap.size w w2) := B1.out.trans (b2.mono B1.out.size)
  clear b2 g2
  clear C1 G1 R1 B1 C0 G0 R0 B0 gq0 gq1 gq2 gq3 gq4 gq5 gq6
  have HS : Hid (∀ wx, XD w.heap.size [.string mc, .int .i64 ip, .int .i64 po, .int .i64 di, .int .i64 st, .int .i64 un, .int .i64 nx, .int .i64 wa, .string inn, .string out, .bool fin] (w.heap.size + 1) [.int .i64 sp, .int .i64 dp, .int .i64 sq, .int .i64 ac, .int .i64 fl, .int .i64 wi, .string da] (w.heap.size + 1 + 1) [.string ⟨#[]⟩, .int .i64 0, .int .i64 0, .int .i64 0, .int .i64 0, .int .i64 0, .int .i64 0, .int .i64 0, .string ⟨#[]⟩, .string ⟨#[]⟩, .bool false] w wx → w.heap.size + 3 ≤ wx.heap.size) := fun wx h => by
    have := World.block_lt_of_cell? wx _ (h.r.cell 0 rfl)
    dsimp only at this
    omega
  go_wp2_with fail
  have SS2 : Hid (XD w.heap.size [.string mc, .int .i64 ip, .int .i64 po, .int .i64 di, .int .i64 st, .int .i64 un, .int .i64 nx, .int .i64 wa, .string inn, .string out, .bool fin] (w.heap.size + 1) [.int .i64 sp, .int .i64 dp, .int .i64 sq, .int .i64 ac, .int .i64 fl, .int .i64 wi, .string da] (w.heap.size + 1 + 1) [.string ⟨#[]⟩, .int .i64 0, .int .i64 0, .int .i64 0, .int .i64 0, .int .i64 0, .int .i64 0, .int .i64 0, .string ⟨#[]⟩, .string ⟨#[]⟩, .bool false] w w2) := ⟨C2, G2, R2, B2.out⟩
  have SS : Hid (XD w.heap.size [.string mc, .int .i64 ip, .int .i64 po, .int .i64 di, .int .i64 st, .int .i64 un, .int .i64 nx, .int .i64 wa, .string inn, .string out, .bool fin] (w.heap.size + 1) [.int .i64 sp, .int .i64 dp, .int .i64 sq, .int .i64 ac, .int .i64 fl, .int .i64 wi, .string da] (w.heap.size + 1 + 1) [.string ⟨#[]⟩, .int .i64 0, .int .i64 0, .int .i64 0, .int .i64 0, .int .i64 0, .int .i64 0, .int .i64 0, .string ⟨#[]⟩, .string ⟨#[]⟩, .bool false] w w2.drew) := ⟨C2.below ((Below.refl _ _).drew), G2.below ((Below.refl _ _).drew), R2.below ((Below.refl _ _).drew), B2.out.drew⟩
  have H2 : w.heap.size + 3 ≤ w2.heap.size := by have := HS.out _ SS.out; simpa using this
  clear C2 G2 R2 B2
  have FRR : Hid (∀ nb wx, w.heap.size + 3 ≤ nb → XD w.heap.size [.string mc, .int .i64 ip, .int .i64 po, .int .i64 di, .int .i64 st, .int .i64 un, .int .i64 nx, .int .i64 wa, .string inn, .string out, .bool fin] (w.heap.size + 1) [.int .i64 sp, .int .i64 dp, .int .i64 sq, .int .i64 ac, .int .i64 fl, .int .i64 wi, .string da] (w.heap.size + 1 + 1) [.string ⟨#[]⟩, .int .i64 0, .int .i64 0, .int .i64 0, .int .i64 0, .int .i64 0, .int .i64 0, .int .i64 0, .string ⟨#[]⟩, .string ⟨#[]⟩, .bool false] w wx → XD w.heap.size [.string mc, .int .i64 ip, .int .i64 po, .int .i64 di, .int .i64 st, .int .i64 un, .int .i64 nx, .int .i64 wa, .string inn, .string out, .bool fin] (w.heap.size + 1) [.int .i64 sp, .int .i64 dp, .int .i64 sq, .int .i64 ac, .int .i64 fl, .int .i64 wi, .string da] (w.heap.size + 1 + 1) [.string ⟨#[]⟩, .int .i64 0, .int .i64 0, .int .i64 0, .int .i64 0, .int .i64 0, .int .i64 0, .int .i64 0, .string ⟨#[]⟩, .string ⟨#[]⟩, .bool false] w (((((((((((wx.setCell ⟨nb, 0, none⟩ (.string xm)).setCell ⟨nb, 1, none⟩ (.int .i64 xi)).setCell ⟨nb, 2, none⟩ (.int .i64 xp)).setCell ⟨nb, 3, none⟩ (.int .i64 xd)).setCell ⟨nb, 4, none⟩ (.int .i64 xs)).setCell ⟨nb, 5, none⟩ (.int .i64 xu)).setCell ⟨nb, 6, none⟩ (.int .i64 xn)).setCell ⟨nb, 7, none⟩ (.int .i64 xw)).setCell ⟨nb, 8, none⟩ (.string xI)).setCell ⟨nb, 9, none⟩ (.string xO)).setCell ⟨nb, 10, none⟩ (.bool xF))) := fun nb wx hn hx => (((((((((((hx.far ⟨nb, 0, none⟩ (.string xm) (by dsimp only; omega) (by dsimp only; omega) (by dsimp only; omega) (by dsimp only; omega)).far ⟨nb, 1, none⟩ (.int .i64 xi) (by dsimp only; omega) (by dsimp only; omega) (by dsimp only; omega) (by dsimp only; omega)).far ⟨nb, 2, none⟩ (.int .i64 xp) (by dsimp only; omega) (by dsimp only; omega) (by dsimp only; omega) (by dsimp only; omega)).far ⟨nb, 3, none⟩ (.int .i64 xd) (by dsimp only; omega) (by dsimp only; omega) (by dsimp only; omega) (by dsimp only; omega)).far ⟨nb, 4, none⟩ (.int .i64 xs) (by dsimp only; omega) (by dsimp only; omega) (by dsimp only; omega) (by dsimp only; omega)).far ⟨nb, 5, none⟩ (.int .i64 xu) (by dsimp only; omega) (by dsimp only; omega) (by dsimp only; omega) (by dsimp only; omega)).far ⟨nb, 6, none⟩ (.int .i64 xn) (by dsimp only; omega) (by dsimp only; omega) (by dsimp only; omega) (by dsimp only; omega)).far ⟨nb, 7, none⟩ (.int .i64 xw) (by dsimp only; omega) (by dsimp only; omega) (by dsimp only; omega) (by dsimp only; omega)).far ⟨nb, 8, none⟩ (.string xI) (by dsimp only; omega) (by dsimp only; omega) (by dsimp only; omega) (by dsimp only; omega)).far ⟨nb, 9, none⟩ (.string xO) (by dsimp only; omega) (by dsimp only; omega) (by dsimp only; omega) (by dsimp only; omega)).far ⟨nb, 10, none⟩ (.bool xF) (by dsimp only; omega) (by dsimp only; omega) (by dsimp only; omega) (by dsimp only; omega))
  refine wp_region_held_drew (S := (fun wx => XD w.heap.size [.string mc, .int .i64 ip, .int .i64 po, .int .i64 di, .int .i64 st, .int .i64 un, .int .i64 nx, .int .i64 wa, .string inn, .string out, .bool fin] (w.heap.size + 1) [.int .i64 sp, .int .i64 dp, .int .i64 sq, .int .i64 ac, .int .i64 fl, .int .i64 wi, .string da] (w.heap.size + 1 + 1) [.string ⟨#[]⟩, .int .i64 0, .int .i64 0, .int .i64 0, .int .i64 0, .int .i64 0, .int .i64 0, .int .i64 0, .string ⟨#[]⟩, .string ⟨#[]⟩, .bool false] w wx)) (by kernel_rfl) ?_ (fun hH0 => ?_)
  · with_reducible exact SS.out
  refine wpAnyH_take (i := 0) (v := ?v1001) rfl (by kernel_rfl) (by kernel_rfl) (by kernel_rfl) (fun _ _ _ h => h) (Or.inl ⟨by rfl, ?hy1001⟩) (by assumption) ?rest1001
  case hy1001 => (intro w hSw; (try dsimp only at hSw); go_simp; (try with_reducible rfl))
  refine wpAnyH_take (i := 1) (v := .int .i64 st) rfl (by kernel_rfl) (by kernel_rfl) (by kernel_rfl) (fun _ _ _ h => h) (Or.inl ⟨by rfl, ?hy1002⟩) (by assumption) ?rest1002
  case hy1002 =>
    intro wz hSw
    have hf : wz.cell? ⟨w.heap.size, 4, none⟩ = some (.int .i64 st) := hSw.c.cell 4 rfl
    go_simp
  refine wpAnyH_take (i := 3) (v := .agg #[.string mc, .int .i64 ip, .int .i64 po, .int .i64 di, .int .i64 st, .int .i64 un, .int .i64 nx, .int .i64 wa, .string inn, .string out, .bool fin]) rfl (by kernel_rfl) (by kernel_rfl) (by kernel_rfl) (fun _ _ _ h => h) (yieldsIf_load_mid (by rfl) 24 _ rfl w.heap.size 0 rfl [.string mc, .int .i64 ip, .int .i64 po, .int .i64 di, .int .i64 st, .int .i64 un, .int .i64 nx, .int .i64 wa, .string inn, .string out, .bool fin] _ (fun _ h => h.c.cl) Try.underlying24 rfl rfl) (by assumption) ?rest1003
  refine wpAnyH_take (i := 4) (v := .agg #[.int .i64 sp, .int .i64 dp, .int .i64 sq, .int .i64 ac, .int .i64 fl, .int .i64 wi, .string da]) rfl (by kernel_rfl) (by kernel_rfl) (by kernel_rfl) (fun _ _ _ h => h) (yieldsIf_load_mid (by rfl) 27 _ rfl (w.heap.size + 1) 0 rfl [.int .i64 sp, .int .i64 dp, .int .i64 sq, .int .i64 ac, .int .i64 fl, .int .i64 wi, .string da] _ (fun _ h => h.g.cl) Try.underlying27 rfl rfl) (by assumption) ?rest1004
  refine wpAnyH_ready (rs := [2, 9]) (by kernel_rfl) (by simp) ?_
  refine AllReadyH.cons rfl (fun K hK => ?_) ?_
  · go_simp
    go_at_call 34
    with_reducible refine (TC.out _).mono ?_
    rintro e w6 ⟨rfl, hp⟩
    have b6 : Below w2.drew.heap.size w2.drew w6 := hp.2.2.2
    have P6 : Hid (w6.cell? ⟨w2.heap.size, 0, none⟩ = some (.func (.func 66) #[] #[]) ∧ w6.cell? ⟨w2.heap.size + 1, 0, none⟩ = some (.func (.func 67) #[] #[])) := ⟨hp.1, hp.2.1⟩
    have Q6 : Hid (w2.heap.size + 2 ≤ w6.heap.size) := hp.2.2.1
    clear hp
    have L6 : Hid (XD w.heap.size [.string mc, .int .i64 ip, .int .i64 po, .int .i64 di, .int .i64 st, .int .i64 un, .int .i64 nx, .int .i64 wa, .string inn, .string out, .bool fin] (w.heap.size + 1) [.int .i64 sp, .int .i64 dp, .int .i64 sq, .int .i64 ac, .int .i64 fl, .int .i64 wi, .string da] (w.heap.size + 1 + 1) [.string ⟨#[]⟩, .int .i64 0, .int .i64 0, .int .i64 0, .int .i64 0, .int .i64 0, .int .i64 0, .int .i64 0, .string ⟨#[]⟩, .string ⟨#[]⟩, .bool false] w w6) := SS.out.below b6
    clear b6
    refine hK.out _ _ ?_ (fun hH1005 => ?_)
    · (try dsimp only)
      first | (with_reducible exact L8.out) | (with_reducible exact L9.out) | (with_reducible exact L7.out) | (with_reducible exact L6.out) | (with_reducible exact FRR.out _ _ G9 L8.out)
    clear hK K hH0
    refine wpAnyH_ready (rs := [5, 9]) (by kernel_rfl) (by simp) ?_
    refine AllReadyH.cons rfl (fun K hK => ?_) ?_
    · go_simp
      go_at_call 82
      first | (with_reducible refine (TL.out w2.heap.size (w2.heap.size + 1) w6 (by have := Q6.out; omega) (by have := Q6.out; omega) P6.out.1 P6.out.2).mono ?_)
      rintro e w7 ⟨v7, rfl, o7, b7⟩
      have L7 : Hid (XD w.heap.size [.string mc, .int .i64 ip, .int .i64 po, .int .i64 di, .int .i64 st, .int .i64 un, .int .i64 nx, .int .i64 wa, .string inn, .string out, .bool fin] (w.heap.size + 1) [.int .i64 sp, .int .i64 dp, .int .i64 sq, .int .i64 ac, .int .i64 fl, .int .i64 wi, .string da] (w.heap.size + 1 + 1) [.string ⟨#[]⟩, .int .i64 0, .int .i64 0, .int .i64 0, .int .i64 0, .int .i64 0, .int .i64 0, .int .i64 0, .string ⟨#[]⟩, .string ⟨#[]⟩, .bool false] w w7) := L6.out.below b7
      have O7 : Hid (OwnS sgG 7 27 w7 (w.heap.size + 3) v7 XL) := o7.lower (HS.out _ L6.out)
      clear b7 o7
      refine hK.out _ _ ?_ (fun hH1006 => ?_)
      · (try dsimp only)
        first | (with_reducible exact L8.out) | (with_reducible exact L9.out) | (with_reducible exact L7.out) | (with_reducible exact L6.out) | (with_reducible exact FRR.out _ _ G9 L8.out)
      clear hK K hH1005
      refine wpAnyH_take (i := 6) (v := ?v1007) rfl (by kernel_rfl) (by kernel_rfl) (by kernel_rfl) (fun _ _ _ h => h) (Or.inl ⟨by rfl, ?hy1007⟩) (by assumption) ?rest1007
      case hy1007 => (intro w hSw; (try dsimp only at hSw); go_simp; (try with_reducible rfl))
      refine wpAnyH_take (i := 7) (v := ?v1008) rfl (by kernel_rfl) (by kernel_rfl) (by kernel_rfl) (fun _ _ _ h => h) (Or.inl ⟨by rfl, ?hy1008⟩) (by assumption) ?rest1008
      case hy1008 => (intro w hSw; (try dsimp only at hSw); go_simp; (try with_reducible rfl))
      refine wpAnyH_take (i := 8) (v := ?v1009) rfl (by kernel_rfl) (by kernel_rfl) (by kernel_rfl) (fun _ _ _ h => h) (Or.inl ⟨by rfl, ?hy1009⟩) (by assumption) ?rest1009
      case hy1009 => (intro w hSw; (try dsimp only at hSw); go_simp; (try with_reducible rfl))
      refine wpAnyH_ready (rs := [9]) (by kernel_rfl) (by simp) ?_
      refine AllReadyH.cons rfl (fun K hK => ?_) ?_
      · go_simp
        have N9 : Bx (w7.alloc (.cells #[.string ⟨#[]⟩, .int .i64 0, .int .i64 0, .int .i64 0, .int .i64 0, .int .i64 0, .int .i64 0, .int .i64 0, .string ⟨#[]⟩, .string ⟨#[]⟩, .bool false] 24)) w7.heap.size [.string ⟨#[]⟩, .int .i64 0, .int .i64 0, .int .i64 0, .int .i64 0, .int .i64 0, .int .i64 0, .int .i64 0, .string ⟨#[]⟩, .string ⟨#[]⟩, .bool false] := Bx.new w7 #[.string ⟨#[]⟩, .int .i64 0, .int .i64 0, .int .i64 0, .int .i64 0, .int .i64 0, .int .i64 0, .int .i64 0, .string ⟨#[]⟩, .string ⟨#[]⟩, .bool false] _
        have L8 : Hid (XD w.heap.size [.string mc, .int .i64 ip, .int .i64 po, .int .i64 di, .int .i64 st, .int .i64 un, .int .i64 nx, .int .i64 wa, .string inn, .string out, .bool fin] (w.heap.size + 1) [.int .i64 sp, .int .i64 dp, .int .i64 sq, .int .i64 ac, .int .i64 fl, .int .i64 wi, .string da] (w.heap.size + 1 + 1) [.string ⟨#[]⟩, .int .i64 0, .int .i64 0, .int .i64 0, .int .i64 0, .int .i64 0, .int .i64 0, .int .i64 0, .string ⟨#[]⟩, .string ⟨#[]⟩, .bool false] w (w7.alloc (.cells #[.string ⟨#[]⟩, .int .i64 0, .int .i64 0, .int .i64 0, .int .i64 0, .int .i64 0, .int .i64 0, .int .i64 0, .string ⟨#[]⟩, .string ⟨#[]⟩, .bool false] 24))) := L7.out.below ((Below.refl _ _).alloc (Nat.le_refl _) _)
        have S9 : Hid (w7.heap.size < (w7.alloc (.cells #[.string ⟨#[]⟩, .int .i64 0, .int .i64 0, .int .i64 0, .int .i64 0, .int .i64 0, .int .i64 0, .int .i64 0, .string ⟨#[]⟩, .string ⟨#[]⟩, .bool false] 24)).heap.size) := by show _ < _; simp
        have G9 : w.heap.size + 3 ≤ w7.heap.size := HS.out _ L7.out
        have O8 : Hid (OwnS sgG 7 27 (w7.alloc (.cells #[.string ⟨#[]⟩, .int .i64 0, .int .i64 0, .int .i64 0, .int .i64 0, .int .i64 0, .int .i64 0, .int .i64 0, .string ⟨#[]⟩, .string ⟨#[]⟩, .bool false] 24)) (w.heap.size + 3) v7 XL) := O7.out.now ((Below.refl _ _).alloc (Nat.le_refl _) _)
        have NE : Hid (∀ k, v7.ownBlock = some k → k ≠ w7.heap.size) := fun k hk => by have := (O7.out.lt k hk).2; omega
        generalize (w7.alloc (.cells #[.string ⟨#[]⟩, .int .i64 0, .int .i64 0, .int .i64 0, .int .i64 0, .int .i64 0, .int .i64 0, .int .i64 0, .string ⟨#[]⟩, .string ⟨#[]⟩, .bool false] 24)) = w8 at N9 L8 S9 O8 ⊢
        obtain ⟨nb, hnb⟩ : ∃ nb, nb = w7.heap.size := ⟨_, rfl⟩
        rw [← hnb] at N9 S9 G9 NE ⊢
        clear hnb
        have NX := N9
        clear N9
        have zz0 : w8.cell? ⟨nb, 0, none⟩ = some (.string ⟨#[]⟩) := NX.cell 0 rfl
        have hh0 : w8.frozen? ⟨nb, 0, none⟩ = false := NX.thaw 0 (by simp)
        have zz1 : w8.cell? ⟨nb, 1, none⟩ = some (.int .i64 0) := NX.cell 1 rfl
        have hh1 : w8.frozen? ⟨nb, 1, none⟩ = false := NX.thaw 1 (by simp)
        have zz2 : w8.cell? ⟨nb, 2, none⟩ = some (.int .i64 0) := NX.cell 2 rfl
        have hh2 : w8.frozen? ⟨nb, 2, none⟩ = false := NX.thaw 2 (by simp)
        have zz3 : w8.cell? ⟨nb, 3, none⟩ = some (.int .i64 0) := NX.cell 3 rfl
        have hh3 : w8.frozen? ⟨nb, 3, none⟩ = false := NX.thaw 3 (by simp)
        have zz4 : w8.cell? ⟨nb, 4, none⟩ = some (.int .i64 0) := NX.cell 4 rfl
        have hh4 : w8.frozen? ⟨nb, 4, none⟩ = false := NX.thaw 4 (by simp)
        have zz5 : w8.cell? ⟨nb, 5, none⟩ = some (.int .i64 0) := NX.cell 5 rfl
        have hh5 : w8.frozen? ⟨nb, 5, none⟩ = false := NX.thaw 5 (by simp)
        have zz6 : w8.cell? ⟨nb, 6, none⟩ = some (.int .i64 0) := NX.cell 6 rfl
        have hh6 : w8.frozen? ⟨nb, 6, none⟩ = false := NX.thaw 6 (by simp)
        have zz7 : w8.cell? ⟨nb, 7, none⟩ = some (.int .i64 0) := NX.cell 7 rfl
        have hh7 : w8.frozen? ⟨nb, 7, none⟩ = false := NX.thaw 7 (by simp)
        have zz8 : w8.cell? ⟨nb, 8, none⟩ = some (.string ⟨#[]⟩) := NX.cell 8 rfl
        have hh8 : w8.frozen? ⟨nb, 8, none⟩ = false := NX.thaw 8 (by simp)
        have zz9 : w8.cell? ⟨nb, 9, none⟩ = some (.string ⟨#[]⟩) := NX.cell 9 rfl
        have hh9 : w8.frozen? ⟨nb, 9, none⟩ = false := NX.thaw 9 (by simp)
        have zz10 : w8.cell? ⟨nb, 10, none⟩ = some (.bool false) := NX.cell 10 rfl
        have hh10 : w8.frozen? ⟨nb, 10, none⟩ = false := NX.thaw 10 (by simp)
        refine hK.out _ _ ?_ (fun hH1010 => ?_)
        · (try dsimp only)
          first | (with_reducible exact L8.out) | (with_reducible exact L9.out) | (with_reducible exact L7.out) | (with_reducible exact L6.out) | (with_reducible exact FRR.out _ _ G9 L8.out)
        clear hK K hH1006
        refine wpAnyH_ready (rs := [10]) (by kernel_rfl) (by simp) ?_
        refine AllReadyH.cons rfl (fun K hK => ?_) ?_
        · go_simp
          refine hK.out _ _ ?_ (fun hH1011 => ?_)
          · (try dsimp only)
            first | (with_reducible exact L8.out) | (with_reducible exact L9.out) | (with_reducible exact L7.out) | (with_reducible exact L6.out) | (with_reducible exact FRR.out _ _ G9 L8.out)
          clear hK K hH1010
          refine wpAnyH_take (i := 11) (v := ?v1012) rfl (by kernel_rfl) (by kernel_rfl) (by kernel_rfl) (fun _ _ _ h => h) (Or.inl ⟨by rfl, ?hy1012⟩) (by assumption) ?rest1012
          case hy1012 => (intro w hSw; (try dsimp only at hSw); go_simp; (try with_reducible rfl))
          refine wpAnyH_done (by kernel_rfl) ?_ _
          have FZ : Hid (Bx (((((((((((w8.setCell ⟨nb, 0, none⟩ (.string xm)).setCell ⟨nb, 1, none⟩ (.int .i64 xi)).setCell ⟨nb, 2, none⟩ (.int .i64 xp)).setCell ⟨nb, 3, none⟩ (.int .i64 xd)).setCell ⟨nb, 4, none⟩ (.int .i64 xs)).setCell ⟨nb, 5, none⟩ (.int .i64 xu)).setCell ⟨nb, 6, none⟩ (.int .i64 xn)).setCell ⟨nb, 7, none⟩ (.int .i64 xw)).setCell ⟨nb, 8, none⟩ (.string xI)).setCell ⟨nb, 9, none⟩ (.string xO)).setCell ⟨nb, 10, none⟩ (.bool xF)) nb [.string xm, .int .i64 xi, .int .i64 xp, .int .i64 xd, .int .i64 xs, .int .i64 xu, .int .i64 xn, .int .i64 xw, .string xI, .string xO, .bool xF] ∧ XD w.heap.size [.string mc, .int .i64 ip, .int .i64 po, .int .i64 di, .int .i64 st, .int .i64 un, .int .i64 nx, .int .i64 wa, .string inn, .string out, .bool fin] (w.heap.size + 1) [.int .i64 sp, .int .i64 dp, .int .i64 sq, .int .i64 ac, .int .i64 fl, .int .i64 wi, .string da] (w.heap.size + 1 + 1) [.string ⟨#[]⟩, .int .i64 0, .int .i64 0, .int .i64 0, .int .i64 0, .int .i64 0, .int .i64 0, .int .i64 0, .string ⟨#[]⟩, .string ⟨#[]⟩, .bool false] w (((((((((((w8.setCell ⟨nb, 0, none⟩ (.string xm)).setCell ⟨nb, 1, none⟩ (.int .i64 xi)).setCell ⟨nb, 2, none⟩ (.int .i64 xp)).setCell ⟨nb, 3, none⟩ (.int .i64 xd)).setCell ⟨nb, 4, none⟩ (.int .i64 xs)).setCell ⟨nb, 5, none⟩ (.int .i64 xu)).setCell ⟨nb, 6, none⟩ (.int .i64 xn)).setCell ⟨nb, 7, none⟩ (.int .i64 xw)).setCell ⟨nb, 8, none⟩ (.string xI)).setCell ⟨nb, 9, none⟩ (.string xO)).setCell ⟨nb, 10, none⟩ (.bool xF)) ∧ OwnS sgG 7 27 (((((((((((w8.setCell ⟨nb, 0, none⟩ (.string xm)).setCell ⟨nb, 1, none⟩ (.int .i64 xi)).setCell ⟨nb, 2, none⟩ (.int .i64 xp)).setCell ⟨nb, 3, none⟩ (.int .i64 xd)).setCell ⟨nb, 4, none⟩ (.int .i64 xs)).setCell ⟨nb, 5, none⟩ (.int .i64 xu)).setCell ⟨nb, 6, none⟩ (.int .i64 xn)).setCell ⟨nb, 7, none⟩ (.int .i64 xw)).setCell ⟨nb, 8, none⟩ (.string xI)).setCell ⟨nb, 9, none⟩ (.string xO)).setCell ⟨nb, 10, none⟩ (.bool xF)) (w.heap.size + 3) v7 XL) := ⟨(((((((((((NX.field 0 (.string xm)).field 1 (.int .i64 xi)).field 2 (.int .i64 xp)).field 3 (.int .i64 xd)).field 4 (.int .i64 xs)).field 5 (.int .i64 xu)).field 6 (.int .i64 xn)).field 7 (.int .i64 xw)).field 8 (.string xI)).field 9 (.string xO)).field 10 (.bool xF)), FRR.out _ _ G9 L8.out, (((((((((((O8.out.apart9 ⟨nb, 0, none⟩ (.string xm) NE.out).apart9 ⟨nb, 1, none⟩ (.int .i64 xi) NE.out).apart9 ⟨nb, 2, none⟩ (.int .i64 xp) NE.out).apart9 ⟨nb, 3, none⟩ (.int .i64 xd) NE.out).apart9 ⟨nb, 4, none⟩ (.int .i64 xs) NE.out).apart9 ⟨nb, 5, none⟩ (.int .i64 xu) NE.out).apart9 ⟨nb, 6, none⟩ (.int .i64 xn) NE.out).apart9 ⟨nb, 7, none⟩ (.int .i64 xw) NE.out).apart9 ⟨nb, 8, none⟩ (.string xI) NE.out).apart9 ⟨nb, 9, none⟩ (.string xO) NE.out).apart9 ⟨nb, 10, none⟩ (.bool xF) NE.out)⟩
          clear hH1011 zz0 hh0 zz1 hh1 zz2 hh2 zz3 hh3 zz4 hh4 zz5 hh5 zz6 hh6 zz7 hh7 zz8 hh8 zz9 hh9 zz10 hh10 NX L8 O8 FRR
          generalize (((((((((((w8.setCell ⟨nb, 0, none⟩ (.string xm)).setCell ⟨nb, 1, none⟩ (.int .i64 xi)).setCell ⟨nb, 2, none⟩ (.int .i64 xp)).setCell ⟨nb, 3, none⟩ (.int .i64 xd)).setCell ⟨nb, 4, none⟩ (.int .i64 xs)).setCell ⟨nb, 5, none⟩ (.int .i64 xu)).setCell ⟨nb, 6, none⟩ (.int .i64 xn)).setCell ⟨nb, 7, none⟩ (.int .i64 xw)).setCell ⟨nb, 8, none⟩ (.string xI)).setCell ⟨nb, 9, none⟩ (.string xO)).setCell ⟨nb, 10, none⟩ (.bool xF)) = wz at FZ ⊢
          have CZ : Bx wz nb [.string xm, .int .i64 xi, .int .i64 xp, .int .i64 xd, .int .i64 xs, .int .i64 xu, .int .i64 xn, .int .i64 xw, .string xI, .string xO, .bool xF] := FZ.out.1
          have RZ : Bx wz (w.heap.size + 1 + 1) [.string ⟨#[]⟩, .int .i64 0, .int .i64 0, .int .i64 0, .int .i64 0, .int .i64 0, .int .i64 0, .int .i64 0, .string ⟨#[]⟩, .string ⟨#[]⟩, .bool false] := FZ.out.2.1.r
          have BZ9 : Hid (Below w.heap.size w wz) := FZ.out.2.1.out
          have OZ : Hid (OwnS sgG 7 27 wz (w.heap.size + 3) v7 XL) := FZ.out.2.2
          go_wp2_with (first | (refine wpl_put rfl _ _ rfl (w.heap.size + 1 + 1) _ rfl rfl RZ rfl rfl rfl ?_; intro w5 hw5 R5; have B5 : Hid (Below w.heap.size w w5) := (by rw [hw5]; exact below_cells (by omega) _ _ _ BZ9.out); have O5 : Hid (OwnS sgG 7 27 w5 w.heap.size v7 XL) := (by rw [hw5]; exact (own_cells (by omega) _ _ _ OZ.out).lower (by omega)); clear hw5) | (refine wpl_get rfl _ rfl _ rfl (by assumption) rfl ?_) | fail)
          have xx0 : w5.cell? ⟨w.heap.size + 1 + 1, 0, none⟩ = some (.string xm) := R5.cell 0 rfl
          have xx1 : w5.cell? ⟨w.heap.size + 1 + 1, 1, none⟩ = some (.int .i64 xi) := R5.cell 1 rfl
          have xx2 : w5.cell? ⟨w.heap.size + 1 + 1, 2, none⟩ = some (.int .i64 xp) := R5.cell 2 rfl
          have xx3 : w5.cell? ⟨w.heap.size + 1 + 1, 3, none⟩ = some (.int .i64 xd) := R5.cell 3 rfl
          have xx4 : w5.cell? ⟨w.heap.size + 1 + 1, 4, none⟩ = some (.int .i64 xs) := R5.cell 4 rfl
          have xx5 : w5.cell? ⟨w.heap.size + 1 + 1, 5, none⟩ = some (.int .i64 xu) := R5.cell 5 rfl
          have xx6 : w5.cell? ⟨w.heap.size + 1 + 1, 6, none⟩ = some (.int .i64 xn) := R5.cell 6 rfl
          have xx7 : w5.cell? ⟨w.heap.size + 1 + 1, 7, none⟩ = some (.int .i64 xw) := R5.cell 7 rfl
          have xx8 : w5.cell? ⟨w.heap.size + 1 + 1, 8, none⟩ = some (.string xI) := R5.cell 8 rfl
          have xx9 : w5.cell? ⟨w.heap.size + 1 + 1, 9, none⟩ = some (.string xO) := R5.cell 9 rfl
          have xx10 : w5.cell? ⟨w.heap.size + 1 + 1, 10, none⟩ = some (.bool xF) := R5.cell 10 rfl
          (try simp only [Exit.inBlock, Exit.then])
          refine bodyPost_ret (v := .tuple #[.agg #[.string xm, .int .i64 xi, .int .i64 xp, .int .i64 xd, .int .i64 xs, .int .i64 xu, .int .i64 xn, .int .i64 xw, .string xI, .string xO, .bool xF], v7, .int .i64 0]) (by simp [results, Try.results8, go_sem, xx0, xx1, xx2, xx3, xx4, xx5, xx6, xx7, xx8, xx9, xx10]; try rfl) rfl ?_
          exact ⟨_, rfl, O5.out, B5.out⟩
        exact AllReadyH.nil
      exact AllReadyH.nil
    refine AllReadyH.cons rfl (fun K hK => ?_) ?_
    · go_simp
      have N9 : Bx (w6.alloc (.cells #[.string ⟨#[]⟩, .int .i64 0, .int .i64 0, .int .i64 0, .int .i64 0, .int .i64 0, .int .i64 0, .int .i64 0, .string ⟨#[]⟩, .string ⟨#[]⟩, .bool false] 24)) w6.heap.size [.string ⟨#[]⟩, .int .i64 0, .int .i64 0, .int .i64 0, .int .i64 0, .int .i64 0, .int .i64 0, .int .i64 0, .string ⟨#[]⟩, .string ⟨#[]⟩, .bool false] := Bx.new w6 #[.string ⟨#[]⟩, .int .i64 0, .int .i64 0, .int .i64 0, .int .i64 0, .int .i64 0, .int .i64 0, .int .i64 0, .string ⟨#[]⟩, .string ⟨#[]⟩, .bool false] _
      have L9 : Hid (XD w.heap.size [.string mc, .int .i64 ip, .int .i64 po, .int .i64 di, .int .i64 st, .int .i64 un, .int .i64 nx, .int .i64 wa, .string inn, .string out, .bool fin] (w.heap.size + 1) [.int .i64 sp, .int .i64 dp, .int .i64 sq, .int .i64 ac, .int .i64 fl, .int .i64 wi, .string da] (w.heap.size + 1 + 1) [.string ⟨#[]⟩, .int .i64 0, .int .i64 0, .int .i64 0, .int .i64 0, .int .i64 0, .int .i64 0, .int .i64 0, .string ⟨#[]⟩, .string ⟨#[]⟩, .bool false] w (w6.alloc (.cells #[.string ⟨#[]⟩, .int .i64 0, .int .i64 0, .int .i64 0, .int .i64 0, .int .i64 0, .int .i64 0, .int .i64 0, .string ⟨#[]⟩, .string ⟨#[]⟩, .bool false] 24))) := L6.out.below ((Below.refl _ _).alloc (Nat.le_refl _) _)
      have S9 : Hid (w6.heap.size < (w6.alloc (.cells #[.string ⟨#[]⟩, .int .i64 0, .int .i64 0, .int .i64 0, .int .i64 0, .int .i64 0, .int .i64 0, .int .i64 0, .string ⟨#[]⟩, .string ⟨#[]⟩, .bool false] 24)).heap.size) := by show _ < _; simp
      have G9 : w.heap.size + 3 ≤ w6.heap.size := HS.out _ L6.out
      have P9 : Hid ((w6.alloc (.cells #[.string ⟨#[]⟩, .int .i64 0, .int .i64 0, .int .i64 0, .int .i64 0, .int .i64 0, .int .i64 0, .int .i64 0, .string ⟨#[]⟩, .string ⟨#[]⟩, .bool false] 24)).cell? ⟨w2.heap.size, 0, none⟩ = some (.func (.func 66) #[] #[]) ∧ (w6.alloc (.cells #[.string ⟨#[]⟩, .int .i64 0, .int .i64 0, .int .i64 0, .int .i64 0, .int .i64 0, .int .i64 0, .int .i64 0, .string ⟨#[]⟩, .string ⟨#[]⟩, .bool false] 24)).cell? ⟨w2.heap.size + 1, 0, none⟩ = some (.func (.func 67) #[] #[])) := ⟨acell P6.out.1 _, acell P6.out.2 _⟩
      have Q9 : Hid (w2.heap.size + 2 ≤ (w6.alloc (.cells #[.string ⟨#[]⟩, .int .i64 0, .int .i64 0, .int .i64 0, .int .i64 0, .int .i64 0, .int .i64 0, .int .i64 0, .string ⟨#[]⟩, .string ⟨#[]⟩, .bool false] 24)).heap.size) := by have := Q6.out; show _ ≤ _; simp; omega
      generalize (w6.alloc (.cells #[.string ⟨#[]⟩, .int .i64 0, .int .i64 0, .int .i64 0, .int .i64 0, .int .i64 0, .int .i64 0, .int .i64 0, .string ⟨#[]⟩, .string ⟨#[]⟩, .bool false] 24)) = w9 at N9 L9 S9 P9 Q9 ⊢
      obtain ⟨nb, hnb⟩ : ∃ nb, nb = w6.heap.size := ⟨_, rfl⟩
      rw [← hnb] at N9 S9 G9 ⊢
      clear hnb
      refine hK.out _ _ ?_ (fun hH1013 => ?_)
      · (try dsimp only)
        first | (with_reducible exact L8.out) | (with_reducible exact L9.out) | (with_reducible exact L7.out) | (with_reducible exact L6.out) | (with_reducible exact FRR.out _ _ G9 L8.out)
      clear hK K hH1005
      refine wpAnyH_ready (rs := [5]) (by kernel_rfl) (by simp) ?_
      refine AllReadyH.cons rfl (fun K hK => ?_) ?_
      · go_simp
        go_at_call 82
        first | (with_reducible refine (TL.out w9.heap.size (w9.heap.size + 1) w6 (by have := Q6.out; omega) (by have := Q6.out; omega) P6.out.1 P6.out.2).mono ?_) | (with_reducible refine (TL.out w2.heap.size (w2.heap.size + 1) w9 (by have := Q9.out; omega) (by have := Q9.out; omega) P9.out.1 P9.out.2).mono ?_)
        rintro e w8 ⟨v7, rfl, o7, b7⟩
        first | (have L8 : Hid (XD w.heap.size [.string mc, .int .i64 ip, .int .i64 po, .int .i64 di, .int .i64 st, .int .i64 un, .int .i64 nx, .int .i64 wa, .string inn, .string out, .bool fin] (w.heap.size + 1) [.int .i64 sp, .int .i64 dp, .int .i64 sq, .int .i64 ac, .int .i64 fl, .int .i64 wi, .string da] (w.heap.size + 1 + 1) [.string ⟨#[]⟩, .int .i64 0, .int .i64 0, .int .i64 0, .int .i64 0, .int .i64 0, .int .i64 0, .int .i64 0, .string ⟨#[]⟩, .string ⟨#[]⟩, .bool false] w w8) := L9.out.below b7; have NX : Bx w8 nb [.string ⟨#[]⟩, .int .i64 0, .int .i64 0, .int .i64 0, .int .i64 0, .int .i64 0, .int .i64 0, .int .i64 0, .string ⟨#[]⟩, .string ⟨#[]⟩, .bool false] := N9.below b7; have NE : Hid (∀ k, v7.ownBlock = some k → k ≠ nb) := (fun k hk => by have h1 := (o7.lt k hk).1; have h2 := S9.out; omega); have O8 : Hid (OwnS sgG 7 27 w8 (w.heap.size + 3) v7 XL) := o7.lower (HS.out _ L9.out)) | (have L8 : Hid (XD w.heap.size [.string mc, .int .i64 ip, .int .i64 po, .int .i64 di, .int .i64 st, .int .i64 un, .int .i64 nx, .int .i64 wa, .string inn, .string out, .bool fin] (w.heap.size + 1) [.int .i64 sp, .int .i64 dp, .int .i64 sq, .int .i64 ac, .int .i64 fl, .int .i64 wi, .string da] (w.heap.size + 1 + 1) [.string ⟨#[]⟩, .int .i64 0, .int .i64 0, .int .i64 0, .int .i64 0, .int .i64 0, .int .i64 0, .int .i64 0, .string ⟨#[]⟩, .string ⟨#[]⟩, .bool false] w w8) := L6.out.below b7; have NX : Bx w8 nb [.string ⟨#[]⟩, .int .i64 0, .int .i64 0, .int .i64 0, .int .i64 0, .int .i64 0, .int .i64 0, .int .i64 0, .string ⟨#[]⟩, .string ⟨#[]⟩, .bool false] := N6.below b7; have NE : Hid (∀ k, v7.ownBlock = some k → k ≠ nb) := (fun k hk => by have h1 := (o7.lt k hk).1; have h2 := S6.out; omega); have O8 : Hid (OwnS sgG 7 27 w8 (w.heap.size + 3) v7 XL) := o7.lower (HS.out _ L6.out))
        have zz0 : w8.cell? ⟨nb, 0, none⟩ = some (.string ⟨#[]⟩) := NX.cell 0 rfl
        have hh0 : w8.frozen? ⟨nb, 0, none⟩ = false := NX.thaw 0 (by simp)
        have zz1 : w8.cell? ⟨nb, 1, none⟩ = some (.int .i64 0) := NX.cell 1 rfl
        have hh1 : w8.frozen? ⟨nb, 1, none⟩ = false := NX.thaw 1 (by simp)
        have zz2 : w8.cell? ⟨nb, 2, none⟩ = some (.int .i64 0) := NX.cell 2 rfl
        have hh2 : w8.frozen? ⟨nb, 2, none⟩ = false := NX.thaw 2 (by simp)
        have zz3 : w8.cell? ⟨nb, 3, none⟩ = some (.int .i64 0) := NX.cell 3 rfl
        have hh3 : w8.frozen? ⟨nb, 3, none⟩ = false := NX.thaw 3 (by simp)
        have zz4 : w8.cell? ⟨nb, 4, none⟩ = some (.int .i64 0) := NX.cell 4 rfl
        have hh4 : w8.frozen? ⟨nb, 4, none⟩ = false := NX.thaw 4 (by simp)
        have zz5 : w8.cell? ⟨nb, 5, none⟩ = some (.int .i64 0) := NX.cell 5 rfl
        have hh5 : w8.frozen? ⟨nb, 5, none⟩ = false := NX.thaw 5 (by simp)
        have zz6 : w8.cell? ⟨nb, 6, none⟩ = some (.int .i64 0) := NX.cell 6 rfl
        have hh6 : w8.frozen? ⟨nb, 6, none⟩ = false := NX.thaw 6 (by simp)
        have zz7 : w8.cell? ⟨nb, 7, none⟩ = some (.int .i64 0) := NX.cell 7 rfl
        have hh7 : w8.frozen? ⟨nb, 7, none⟩ = false := NX.thaw 7 (by simp)
        have zz8 : w8.cell? ⟨nb, 8, none⟩ = some (.string ⟨#[]⟩) := NX.cell 8 rfl
        have hh8 : w8.frozen? ⟨nb, 8, none⟩ = false := NX.thaw 8 (by simp)
        have zz9 : w8.cell? ⟨nb, 9, none⟩ = some (.string ⟨#[]⟩) := NX.cell 9 rfl
        have hh9 : w8.frozen? ⟨nb, 9, none⟩ = false := NX.thaw 9 (by simp)
        have zz10 : w8.cell? ⟨nb, 10, none⟩ = some (.bool false) := NX.cell 10 rfl
        have hh10 : w8.frozen? ⟨nb, 10, none⟩ = false := NX.thaw 10 (by simp)
        clear b7 o7
        refine hK.out _ _ ?_ (fun hH1014 => ?_)
        · (try dsimp only)
          first | (with_reducible exact L8.out) | (with_reducible exact L9.out) | (with_reducible exact L7.out) | (with_reducible exact L6.out) | (with_reducible exact FRR.out _ _ G9 L8.out)
        clear hK K hH1013
        refine wpAnyH_take (i := 6) (v := ?v1015) rfl (by kernel_rfl) (by kernel_rfl) (by kernel_rfl) (fun _ _ _ h => h) (Or.inl ⟨by rfl, ?hy1015⟩) (by assumption) ?rest1015
        case hy1015 => (intro w hSw; (try dsimp only at hSw); go_simp; (try with_reducible rfl))
        refine wpAnyH_take (i := 7) (v := ?v1016) rfl (by kernel_rfl) (by kernel_rfl) (by kernel_rfl) (fun _ _ _ h => h) (Or.inl ⟨by rfl, ?hy1016⟩) (by assumption) ?rest1016
        case hy1016 => (intro w hSw; (try dsimp only at hSw); go_simp; (try with_reducible rfl))
        refine wpAnyH_take (i := 8) (v := ?v1017) rfl (by kernel_rfl) (by kernel_rfl) (by kernel_rfl) (fun _ _ _ h => h) (Or.inl ⟨by rfl, ?hy1017⟩) (by assumption) ?rest1017
        case hy1017 => (intro w hSw; (try dsimp only at hSw); go_simp; (try with_reducible rfl))
        refine wpAnyH_ready (rs := [10]) (by kernel_rfl) (by simp) ?_
        refine AllReadyH.cons rfl (fun K hK => ?_) ?_
        · go_simp
          refine hK.out _ _ ?_ (fun hH1018 => ?_)
          · (try dsimp only)
            first | (with_reducible exact L8.out) | (with_reducible exact L9.out) | (with_reducible exact L7.out) | (with_reducible exact L6.out) | (with_reducible exact FRR.out _ _ G9 L8.out)
          clear hK K hH1014
          refine wpAnyH_take (i := 11) (v := ?v1019) rfl (by kernel_rfl) (by kernel_rfl) (by kernel_rfl) (fun _ _ _ h => h) (Or.inl ⟨by rfl, ?hy1019⟩) (by assumption) ?rest1019
          case hy1019 => (intro w hSw; (try dsimp only at hSw); go_simp; (try with_reducible rfl))
          refine wpAnyH_done (by kernel_rfl) ?_ _
          have FZ : Hid (Bx (((((((((((w8.setCell ⟨nb, 0, none⟩ (.string xm)).setCell ⟨nb, 1, none⟩ (.int .i64 xi)).setCell ⟨nb, 2, none⟩ (.int .i64 xp)).setCell ⟨nb, 3, none⟩ (.int .i64 xd)).setCell ⟨nb, 4, none⟩ (.int .i64 xs)).setCell ⟨nb, 5, none⟩ (.int .i64 xu)).setCell ⟨nb, 6, none⟩ (.int .i64 xn)).setCell ⟨nb, 7, none⟩ (.int .i64 xw)).setCell ⟨nb, 8, none⟩ (.string xI)).setCell ⟨nb, 9, none⟩ (.string xO)).setCell ⟨nb, 10, none⟩ (.bool xF)) nb [.string xm, .int .i64 xi, .int .i64 xp, .int .i64 xd, .int .i64 xs, .int .i64 xu, .int .i64 xn, .int .i64 xw, .string xI, .string xO, .bool xF] ∧ XD w.heap.size [.string mc, .int .i64 ip, .int .i64 po, .int .i64 di, .int .i64 st, .int .i64 un, .int .i64 nx, .int .i64 wa, .string inn, .string out, .bool fin] (w.heap.size + 1) [.int .i64 sp, .int .i64 dp, .int .i64 sq, .int .i64 ac, .int .i64 fl, .int .i64 wi, .string da] (w.heap.size + 1 + 1) [.string ⟨#[]⟩, .int .i64 0, .int .i64 0, .int .i64 0, .int .i64 0, .int .i64 0, .int .i64 0, .int .i64 0, .string ⟨#[]⟩, .string ⟨#[]⟩, .bool false] w (((((((((((w8.setCell ⟨nb, 0, none⟩ (.string xm)).setCell ⟨nb, 1, none⟩ (.int .i64 xi)).setCell ⟨nb, 2, none⟩ (.int .i64 xp)).setCell ⟨nb, 3, none⟩ (.int .i64 xd)).setCell ⟨nb, 4, none⟩ (.int .i64 xs)).setCell ⟨nb, 5, none⟩ (.int .i64 xu)).setCell ⟨nb, 6, none⟩ (.int .i64 xn)).setCell ⟨nb, 7, none⟩ (.int .i64 xw)).setCell ⟨nb, 8, none⟩ (.string xI)).setCell ⟨nb, 9, none⟩ (.string xO)).setCell ⟨nb, 10, none⟩ (.bool xF)) ∧ OwnS sgG 7 27 (((((((((((w8.setCell ⟨nb, 0, none⟩ (.string xm)).setCell ⟨nb, 1, none⟩ (.int .i64 xi)).setCell ⟨nb, 2, none⟩ (.int .i64 xp)).setCell ⟨nb, 3, none⟩ (.int .i64 xd)).setCell ⟨nb, 4, none⟩ (.int .i64 xs)).setCell ⟨nb, 5, none⟩ (.int .i64 xu)).setCell ⟨nb, 6, none⟩ (.int .i64 xn)).setCell ⟨nb, 7, none⟩ (.int .i64 xw)).setCell ⟨nb, 8, none⟩ (.string xI)).setCell ⟨nb, 9, none⟩ (.string xO)).setCell ⟨nb, 10, none⟩ (.bool xF)) (w.heap.size + 3) v7 XL) := ⟨(((((((((((NX.field 0 (.string xm)).field 1 (.int .i64 xi)).field 2 (.int .i64 xp)).field 3 (.int .i64 xd)).field 4 (.int .i64 xs)).field 5 (.int .i64 xu)).field 6 (.int .i64 xn)).field 7 (.int .i64 xw)).field 8 (.string xI)).field 9 (.string xO)).field 10 (.bool xF)), FRR.out _ _ G9 L8.out, (((((((((((O8.out.apart9 ⟨nb, 0, none⟩ (.string xm) NE.out).apart9 ⟨nb, 1, none⟩ (.int .i64 xi) NE.out).apart9 ⟨nb, 2, none⟩ (.int .i64 xp) NE.out).apart9 ⟨nb, 3, none⟩ (.int .i64 xd) NE.out).apart9 ⟨nb, 4, none⟩ (.int .i64 xs) NE.out).apart9 ⟨nb, 5, none⟩ (.int .i64 xu) NE.out).apart9 ⟨nb, 6, none⟩ (.int .i64 xn) NE.out).apart9 ⟨nb, 7, none⟩ (.int .i64 xw) NE.out).apart9 ⟨nb, 8, none⟩ (.string xI) NE.out).apart9 ⟨nb, 9, none⟩ (.string xO) NE.out).apart9 ⟨nb, 10, none⟩ (.bool xF) NE.out)⟩
          clear hH1018 zz0 hh0 zz1 hh1 zz2 hh2 zz3 hh3 zz4 hh4 zz5 hh5 zz6 hh6 zz7 hh7 zz8 hh8 zz9 hh9 zz10 hh10 NX L8 O8 FRR
          generalize (((((((((((w8.setCell ⟨nb, 0, none⟩ (.string xm)).setCell ⟨nb, 1, none⟩ (.int .i64 xi)).setCell ⟨nb, 2, none⟩ (.int .i64 xp)).setCell ⟨nb, 3, none⟩ (.int .i64 xd)).setCell ⟨nb, 4, none⟩ (.int .i64 xs)).setCell ⟨nb, 5, none⟩ (.int .i64 xu)).setCell ⟨nb, 6, none⟩ (.int .i64 xn)).setCell ⟨nb, 7, none⟩ (.int .i64 xw)).setCell ⟨nb, 8, none⟩ (.string xI)).setCell ⟨nb, 9, none⟩ (.string xO)).setCell ⟨nb, 10, none⟩ (.bool xF)) = wz at FZ ⊢
          have CZ : Bx wz nb [.string xm, .int .i64 xi, .int .i64 xp, .int .i64 xd, .int .i64 xs, .int .i64 xu, .int .i64 xn, .int .i64 xw, .string xI, .string xO, .bool xF] := FZ.out.1
          have RZ : Bx wz (w.heap.size + 1 + 1) [.string ⟨#[]⟩, .int .i64 0, .int .i64 0, .int .i64 0, .int .i64 0, .int .i64 0, .int .i64 0, .int .i64 0, .string ⟨#[]⟩, .string ⟨#[]⟩, .bool false] := FZ.out.2.1.r
          have BZ9 : Hid (Below w.heap.size w wz) := FZ.out.2.1.out
          have OZ : Hid (OwnS sgG 7 27 wz (w.heap.size + 3) v7 XL) := FZ.out.2.2
          go_wp2_with (first | (refine wpl_put rfl _ _ rfl (w.heap.size + 1 + 1) _ rfl rfl RZ rfl rfl rfl ?_; intro w5 hw5 R5; have B5 : Hid (Below w.heap.size w w5) := (by rw [hw5]; exact below_cells (by omega) _ _ _ BZ9.out); have O5 : Hid (OwnS sgG 7 27 w5 w.heap.size v7 XL) := (by rw [hw5]; exact (own_cells (by omega) _ _ _ OZ.out).lower (by omega)); clear hw5) | (refine wpl_get rfl _ rfl _ rfl (by assumption) rfl ?_) | fail)
          have xx0 : w5.cell? ⟨w.heap.size + 1 + 1, 0, none⟩ = some (.string xm) := R5.cell 0 rfl
          have xx1 : w5.cell? ⟨w.heap.size + 1 + 1, 1, none⟩ = some (.int .i64 xi) := R5.cell 1 rfl
          have xx2 : w5.cell? ⟨w.heap.size + 1 + 1, 2, none⟩ = some (.int .i64 xp) := R5.cell 2 rfl
          have xx3 : w5.cell? ⟨w.heap.size + 1 + 1, 3, none⟩ = some (.int .i64 xd) := R5.cell 3 rfl
          have xx4 : w5.cell? ⟨w.heap.size + 1 + 1, 4, none⟩ = some (.int .i64 xs) := R5.cell 4 rfl
          have xx5 : w5.cell? ⟨w.heap.size + 1 + 1, 5, none⟩ = some (.int .i64 xu) := R5.cell 5 rfl
          have xx6 : w5.cell? ⟨w.heap.size + 1 + 1, 6, none⟩ = some (.int .i64 xn) := R5.cell 6 rfl
          have xx7 : w5.cell? ⟨w.heap.size + 1 + 1, 7, none⟩ = some (.int .i64 xw) := R5.cell 7 rfl
          have xx8 : w5.cell? ⟨w.heap.size + 1 + 1, 8, none⟩ = some (.string xI) := R5.cell 8 rfl
          have xx9 : w5.cell? ⟨w.heap.size + 1 + 1, 9, none⟩ = some (.string xO) := R5.cell 9 rfl
          have xx10 : w5.cell? ⟨w.heap.size + 1 + 1, 10, none⟩ = some (.bool xF) := R5.cell 10 rfl
          (try simp only [Exit.inBlock, Exit.then])
          refine bodyPost_ret (v := .tuple #[.agg #[.string xm, .int .i64 xi, .int .i64 xp, .int .i64 xd, .int .i64 xs, .int .i64 xu, .int .i64 xn, .int .i64 xw, .string xI, .string xO, .bool xF], v7, .int .i64 0]) (by simp [results, Try.results8, go_sem, xx0, xx1, xx2, xx3, xx4, xx5, xx6, xx7, xx8, xx9, xx10]; try rfl) rfl ?_
          exact ⟨_, rfl, O5.out, B5.out⟩
        exact AllReadyH.nil
      exact AllReadyH.nil
    exact AllReadyH.nil
  refine AllReadyH.cons rfl (fun K hK => ?_) ?_
  · go_simp
    have N9 : Bx (w2.alloc (.cells #[.string ⟨#[]⟩, .int .i64 0, .int .i64 0, .int .i64 0, .int .i64 0, .int .i64 0, .int .i64 0, .int .i64 0, .string ⟨#[]⟩, .string ⟨#[]⟩, .bool false] 24)).drew w2.heap.size [.string ⟨#[]⟩, .int .i64 0, .int .i64 0, .int .i64 0, .int .i64 0, .int .i64 0, .int .i64 0, .int .i64 0, .string ⟨#[]⟩, .string ⟨#[]⟩, .bool false] := (Bx.new w2 #[.string ⟨#[]⟩, .int .i64 0, .int .i64 0, .int .i64 0, .int .i64 0, .int .i64 0, .int .i64 0, .int .i64 0, .string ⟨#[]⟩, .string ⟨#[]⟩, .bool false] _).below ((Below.refl _ _).drew)
    have L9 : Hid (XD w.heap.size [.string mc, .int .i64 ip, .int .i64 po, .int .i64 di, .int .i64 st, .int .i64 un, .int .i64 nx, .int .i64 wa, .string inn, .string out, .bool fin] (w.heap.size + 1) [.int .i64 sp, .int .i64 dp, .int .i64 sq, .int .i64 ac, .int .i64 fl, .int .i64 wi, .string da] (w.heap.size + 1 + 1) [.string ⟨#[]⟩, .int .i64 0, .int .i64 0, .int .i64 0, .int .i64 0, .int .i64 0, .int .i64 0, .int .i64 0, .string ⟨#[]⟩, .string ⟨#[]⟩, .bool false] w (w2.alloc (.cells #[.string ⟨#[]⟩, .int .i64 0, .int .i64 0, .int .i64 0, .int .i64 0, .int .i64 0, .int .i64 0, .int .i64 0, .string ⟨#[]⟩, .string ⟨#[]⟩, .bool false] 24)).drew) := SS2.out.below (((Below.refl _ _).alloc (Nat.le_refl _) _).drew)
    have S9 : Hid (w2.heap.size < (w2.alloc (.cells #[.string ⟨#[]⟩, .int .i64 0, .int .i64 0, .int .i64 0, .int .i64 0, .int .i64 0, .int .i64 0, .int .i64 0, .string ⟨#[]⟩, .string ⟨#[]⟩, .bool false] 24)).drew.heap.size) := by show _ < _; simp
    have G9 : w.heap.size + 3 ≤ w2.heap.size := H2
    generalize (w2.alloc (.cells #[.string ⟨#[]⟩, .int .i64 0, .int .i64 0, .int .i64 0, .int .i64 0, .int .i64 0, .int .i64 0, .int .i64 0, .string ⟨#[]⟩, .string ⟨#[]⟩, .bool false] 24)).drew = w9 at N9 L9 S9 ⊢
    obtain ⟨nb, hnb⟩ : ∃ nb, nb = w2.heap.size := ⟨_, rfl⟩
    rw [← hnb] at N9 S9 G9 ⊢
    clear hnb
    refine hK.out _ _ ?_ (fun hH1020 => ?_)
    · (try dsimp only)
      first | (with_reducible exact L8.out) | (with_reducible exact L9.out) | (with_reducible exact L7.out) | (with_reducible exact L6.out) | (with_reducible exact FRR.out _ _ G9 L8.out)
    clear hK K hH0
    refine wpAnyH_ready (rs := [2]) (by kernel_rfl) (by simp) ?_
    refine AllReadyH.cons rfl (fun K hK => ?_) ?_
    · go_simp
      go_at_call 34
      with_reducible refine (TC.out _).mono ?_
      rintro e w6 ⟨rfl, hp⟩
      have b6 : Below w9.heap.size w9 w6 := hp.2.2.2
      have P6 : Hid (w6.cell? ⟨w9.heap.size, 0, none⟩ = some (.func (.func 66) #[] #[]) ∧ w6.cell? ⟨w9.heap.size + 1, 0, none⟩ = some (.func (.func 67) #[] #[])) := ⟨hp.1, hp.2.1⟩
      have Q6 : Hid (w9.heap.size + 2 ≤ w6.heap.size) := hp.2.2.1
      clear hp
      have L6 : Hid (XD w.heap.size [.string mc, .int .i64 ip, .int .i64 po, .int .i64 di, .int .i64 st, .int .i64 un, .int .i64 nx, .int .i64 wa, .string inn, .string out, .bool fin] (w.heap.size + 1) [.int .i64 sp, .int .i64 dp, .int .i64 sq, .int .i64 ac, .int .i64 fl, .int .i64 wi, .string da] (w.heap.size + 1 + 1) [.string ⟨#[]⟩, .int .i64 0, .int .i64 0, .int .i64 0, .int .i64 0, .int .i64 0, .int .i64 0, .int .i64 0, .string ⟨#[]⟩, .string ⟨#[]⟩, .bool false] w w6) := L9.out.below b6
      have N6 : Bx w6 nb [.string ⟨#[]⟩, .int .i64 0, .int .i64 0, .int .i64 0, .int .i64 0, .int .i64 0, .int .i64 0, .int .i64 0, .string ⟨#[]⟩, .string ⟨#[]⟩, .bool false] := N9.below b6
      have S6 : Hid (nb < w6.heap.size) := Nat.lt_of_lt_of_le S9.out b6.size
      clear N9 L9 S9
      clear b6
      refine hK.out _ _ ?_ (fun hH1021 => ?_)
      · (try dsimp only)
        first | (with_reducible exact L8.out) | (with_reducible exact L9.out) | (with_reducible exact L7.out) | (with_reducible exact L6.out) | (with_reducible exact FRR.out _ _ G9 L8.out)
      clear hK K hH1020
      refine wpAnyH_ready (rs := [5]) (by kernel_rfl) (by simp) ?_
      refine AllReadyH.cons rfl (fun K hK => ?_) ?_
      · go_simp
        go_at_call 82
        first | (with_reducible refine (TL.out w9.heap.size (w9.heap.size + 1) w6 (by have := Q6.out; omega) (by have := Q6.out; omega) P6.out.1 P6.out.2).mono ?_) | (with_reducible refine (TL.out w2.heap.size (w2.heap.size + 1) w9 (by have := Q9.out; omega) (by have := Q9.out; omega) P9.out.1 P9.out.2).mono ?_)
        rintro e w8 ⟨v7, rfl, o7, b7⟩
        first | (have L8 : Hid (XD w.heap.size [.string mc, .int .i64 ip, .int .i64 po, .int .i64 di, .int .i64 st, .int .i64 un, .int .i64 nx, .int .i64 wa, .string inn, .string out, .bool fin] (w.heap.size + 1) [.int .i64 sp, .int .i64 dp, .int .i64 sq, .int .i64 ac, .int .i64 fl, .int .i64 wi, .string da] (w.heap.size + 1 + 1) [.string ⟨#[]⟩, .int .i64 0, .int .i64 0, .int .i64 0, .int .i64 0, .int .i64 0, .int .i64 0, .int .i64 0, .string ⟨#[]⟩, .string ⟨#[]⟩, .bool false] w w8) := L9.out.below b7; have NX : Bx w8 nb [.string ⟨#[]⟩, .int .i64 0, .int .i64 0, .int .i64 0, .int .i64 0, .int .i64 0, .int .i64 0, .int .i64 0, .string ⟨#[]⟩, .string ⟨#[]⟩, .bool false] := N9.below b7; have NE : Hid (∀ k, v7.ownBlock = some k → k ≠ nb) := (fun k hk => by have h1 := (o7.lt k hk).1; have h2 := S9.out; omega); have O8 : Hid (OwnS sgG 7 27 w8 (w.heap.size + 3) v7 XL) := o7.lower (HS.out _ L9.out)) | (have L8 : Hid (XD w.heap.size [.string mc, .int .i64 ip, .int .i64 po, .int .i64 di, .int .i64 st, .int .i64 un, .int .i64 nx, .int .i64 wa, .string inn, .string out, .bool fin] (w.heap.size + 1) [.int .i64 sp, .int .i64 dp, .int .i64 sq, .int .i64 ac, .int .i64 fl, .int .i64 wi, .string da] (w.heap.size + 1 + 1) [.string ⟨#[]⟩, .int .i64 0, .int .i64 0, .int .i64 0, .int .i64 0, .int .i64 0, .int .i64 0, .int .i64 0, .string ⟨#[]⟩, .string ⟨#[]⟩, .bool false] w w8) := L6.out.below b7; have NX : Bx w8 nb [.string ⟨#[]⟩, .int .i64 0, .int .i64 0, .int .i64 0, .int .i64 0, .int .i64 0, .int .i64 0, .int .i64 0, .string ⟨#[]⟩, .string ⟨#[]⟩, .bool false] := N6.below b7; have NE : Hid (∀ k, v7.ownBlock = some k → k ≠ nb) := (fun k hk => by have h1 := (o7.lt k hk).1; have h2 := S6.out; omega); have O8 : Hid (OwnS sgG 7 27 w8 (w.heap.size + 3) v7 XL) := o7.lower (HS.out _ L6.out))
        have zz0 : w8.cell? ⟨nb, 0, none⟩ = some (.string ⟨#[]⟩) := NX.cell 0 rfl
        have hh0 : w8.frozen? ⟨nb, 0, none⟩ = false := NX.thaw 0 (by simp)
        have zz1 : w8.cell? ⟨nb, 1, none⟩ = some (.int .i64 0) := NX.cell 1 rfl
        have hh1 : w8.frozen? ⟨nb, 1, none⟩ = false := NX.thaw 1 (by simp)
        have zz2 : w8.cell? ⟨nb, 2, none⟩ = some (.int .i64 0) := NX.cell 2 rfl
        have hh2 : w8.frozen? ⟨nb, 2, none⟩ = false := NX.thaw 2 (by simp)
        have zz3 : w8.cell? ⟨nb, 3, none⟩ = some (.int .i64 0) := NX.cell 3 rfl
        have hh3 : w8.frozen? ⟨nb, 3, none⟩ = false := NX.thaw 3 (by simp)
        have zz4 : w8.cell? ⟨nb, 4, none⟩ = some (.int .i64 0) := NX.cell 4 rfl
        have hh4 : w8.frozen? ⟨nb, 4, none⟩ = false := NX.thaw 4 (by simp)
        have zz5 : w8.cell? ⟨nb, 5, none⟩ = some (.int .i64 0) := NX.cell 5 rfl
        have hh5 : w8.frozen? ⟨nb, 5, none⟩ = false := NX.thaw 5 (by simp)
        have zz6 : w8.cell? ⟨nb, 6, none⟩ = some (.int .i64 0) := NX.cell 6 rfl
        have hh6 : w8.frozen? ⟨nb, 6, none⟩ = false := NX.thaw 6 (by simp)
        have zz7 : w8.cell? ⟨nb, 7, none⟩ = some (.int .i64 0) := NX.cell 7 rfl
        have hh7 : w8.frozen? ⟨nb, 7, none⟩ = false := NX.thaw 7 (by simp)
        have zz8 : w8.cell? ⟨nb, 8, none⟩ = some (.string ⟨#[]⟩) := NX.cell 8 rfl
        have hh8 : w8.frozen? ⟨nb, 8, none⟩ = false := NX.thaw 8 (by simp)
        have zz9 : w8.cell? ⟨nb, 9, none⟩ = some (.string ⟨#[]⟩) := NX.cell 9 rfl
        have hh9 : w8.frozen? ⟨nb, 9, none⟩ = false := NX.thaw 9 (by simp)
        have zz10 : w8.cell? ⟨nb, 10, none⟩ = some (.bool false) := NX.cell 10 rfl
        have hh10 : w8.frozen? ⟨nb, 10, none⟩ = false := NX.thaw 10 (by simp)
        clear b7 o7
        refine hK.out _ _ ?_ (fun hH1022 => ?_)
        · (try dsimp only)
          first | (with_reducible exact L8.out) | (with_reducible exact L9.out) | (with_reducible exact L7.out) | (with_reducible exact L6.out) | (with_reducible exact FRR.out _ _ G9 L8.out)
        clear hK K hH1021
        refine wpAnyH_take (i := 6) (v := ?v1023) rfl (by kernel_rfl) (by kernel_rfl) (by kernel_rfl) (fun _ _ _ h => h) (Or.inl ⟨by rfl, ?hy1023⟩) (by assumption) ?rest1023
        case hy1023 => (intro w hSw; (try dsimp only at hSw); go_simp; (try with_reducible rfl))
        refine wpAnyH_take (i := 7) (v := ?v1024) rfl (by kernel_rfl) (by kernel_rfl) (by kernel_rfl) (fun _ _ _ h => h) (Or.inl ⟨by rfl, ?hy1024⟩) (by assumption) ?rest1024
        case hy1024 => (intro w hSw; (try dsimp only at hSw); go_simp; (try with_reducible rfl))
        refine wpAnyH_take (i := 8) (v := ?v1025) rfl (by kernel_rfl) (by kernel_rfl) (by kernel_rfl) (fun _ _ _ h => h) (Or.inl ⟨by rfl, ?hy1025⟩) (by assumption) ?rest1025
        case hy1025 => (intro w hSw; (try dsimp only at hSw); go_simp; (try with_reducible rfl))
        refine wpAnyH_ready (rs := [10]) (by kernel_rfl) (by simp) ?_
        refine AllReadyH.cons rfl (fun K hK => ?_) ?_
        · go_simp
          refine hK.out _ _ ?_ (fun hH1026 => ?_)
          · (try dsimp only)
            first | (with_reducible exact L8.out) | (with_reducible exact L9.out) | (with_reducible exact L7.out) | (with_reducible exact L6.out) | (with_reducible exact FRR.out _ _ G9 L8.out)
          clear hK K hH1022
          refine wpAnyH_take (i := 11) (v := ?v1027) rfl (by kernel_rfl) (by kernel_rfl) (by kernel_rfl) (fun _ _ _ h => h) (Or.inl ⟨by rfl, ?hy1027⟩) (by assumption) ?rest1027
          case hy1027 => (intro w hSw; (try dsimp only at hSw); go_simp; (try with_reducible rfl))
          refine wpAnyH_done (by kernel_rfl) ?_ _
          have FZ : Hid (Bx (((((((((((w8.setCell ⟨nb, 0, none⟩ (.string xm)).setCell ⟨nb, 1, none⟩ (.int .i64 xi)).setCell ⟨nb, 2, none⟩ (.int .i64 xp)).setCell ⟨nb, 3, none⟩ (.int .i64 xd)).setCell ⟨nb, 4, none⟩ (.int .i64 xs)).setCell ⟨nb, 5, none⟩ (.int .i64 xu)).setCell ⟨nb, 6, none⟩ (.int .i64 xn)).setCell ⟨nb, 7, none⟩ (.int .i64 xw)).setCell ⟨nb, 8, none⟩ (.string xI)).setCell ⟨nb, 9, none⟩ (.string xO)).setCell ⟨nb, 10, none⟩ (.bool xF)) nb [.string xm, .int .i64 xi, .int .i64 xp, .int .i64 xd, .int .i64 xs, .int .i64 xu, .int .i64 xn, .int .i64 xw, .string xI, .string xO, .bool xF] ∧ XD w.heap.size [.string mc, .int .i64 ip, .int .i64 po, .int .i64 di, .int .i64 st, .int .i64 un, .int .i64 nx, .int .i64 wa, .string inn, .string out, .bool fin] (w.heap.size + 1) [.int .i64 sp, .int .i64 dp, .int .i64 sq, .int .i64 ac, .int .i64 fl, .int .i64 wi, .string da] (w.heap.size + 1 + 1) [.string ⟨#[]⟩, .int .i64 0, .int .i64 0, .int .i64 0, .int .i64 0, .int .i64 0, .int .i64 0, .int .i64 0, .string ⟨#[]⟩, .string ⟨#[]⟩, .bool false] w (((((((((((w8.setCell ⟨nb, 0, none⟩ (.string xm)).setCell ⟨nb, 1, none⟩ (.int .i64 xi)).setCell ⟨nb, 2, none⟩ (.int .i64 xp)).setCell ⟨nb, 3, none⟩ (.int .i64 xd)).setCell ⟨nb, 4, none⟩ (.int .i64 xs)).setCell ⟨nb, 5, none⟩ (.int .i64 xu)).setCell ⟨nb, 6, none⟩ (.int .i64 xn)).setCell ⟨nb, 7, none⟩ (.int .i64 xw)).setCell ⟨nb, 8, none⟩ (.string xI)).setCell ⟨nb, 9, none⟩ (.string xO)).setCell ⟨nb, 10, none⟩ (.bool xF)) ∧ OwnS sgG 7 27 (((((((((((w8.setCell ⟨nb, 0, none⟩ (.string xm)).setCell ⟨nb, 1, none⟩ (.int .i64 xi)).setCell ⟨nb, 2, none⟩ (.int .i64 xp)).setCell ⟨nb, 3, none⟩ (.int .i64 xd)).setCell ⟨nb, 4, none⟩ (.int .i64 xs)).setCell ⟨nb, 5, none⟩ (.int .i64 xu)).setCell ⟨nb, 6, none⟩ (.int .i64 xn)).setCell ⟨nb, 7, none⟩ (.int .i64 xw)).setCell ⟨nb, 8, none⟩ (.string xI)).setCell ⟨nb, 9, none⟩ (.string xO)).setCell ⟨nb, 10, none⟩ (.bool xF)) (w.heap.size + 3) v7 XL) := ⟨(((((((((((NX.field 0 (.string xm)).field 1 (.int .i64 xi)).field 2 (.int .i64 xp)).field 3 (.int .i64 xd)).field 4 (.int .i64 xs)).field 5 (.int .i64 xu)).field 6 (.int .i64 xn)).field 7 (.int .i64 xw)).field 8 (.string xI)).field 9 (.string xO)).field 10 (.bool xF)), FRR.out _ _ G9 L8.out, (((((((((((O8.out.apart9 ⟨nb, 0, none⟩ (.string xm) NE.out).apart9 ⟨nb, 1, none⟩ (.int .i64 xi) NE.out).apart9 ⟨nb, 2, none⟩ (.int .i64 xp) NE.out).apart9 ⟨nb, 3, none⟩ (.int .i64 xd) NE.out).apart9 ⟨nb, 4, none⟩ (.int .i64 xs) NE.out).apart9 ⟨nb, 5, none⟩ (.int .i64 xu) NE.out).apart9 ⟨nb, 6, none⟩ (.int .i64 xn) NE.out).apart9 ⟨nb, 7, none⟩ (.int .i64 xw) NE.out).apart9 ⟨nb, 8, none⟩ (.string xI) NE.out).apart9 ⟨nb, 9, none⟩ (.string xO) NE.out).apart9 ⟨nb, 10, none⟩ (.bool xF) NE.out)⟩
          clear hH1026 zz0 hh0 zz1 hh1 zz2 hh2 zz3 hh3 zz4 hh4 zz5 hh5 zz6 hh6 zz7 hh7 zz8 hh8 zz9 hh9 zz10 hh10 NX L8 O8 FRR
          generalize (((((((((((w8.setCell ⟨nb, 0, none⟩ (.string xm)).setCell ⟨nb, 1, none⟩ (.int .i64 xi)).setCell ⟨nb, 2, none⟩ (.int .i64 xp)).setCell ⟨nb, 3, none⟩ (.int .i64 xd)).setCell ⟨nb, 4, none⟩ (.int .i64 xs)).setCell ⟨nb, 5, none⟩ (.int .i64 xu)).setCell ⟨nb, 6, none⟩ (.int .i64 xn)).setCell ⟨nb, 7, none⟩ (.int .i64 xw)).setCell ⟨nb, 8, none⟩ (.string xI)).setCell ⟨nb, 9, none⟩ (.string xO)).setCell ⟨nb, 10, none⟩ (.bool xF)) = wz at FZ ⊢
          have CZ : Bx wz nb [.string xm, .int .i64 xi, .int .i64 xp, .int .i64 xd, .int .i64 xs, .int .i64 xu, .int .i64 xn, .int .i64 xw, .string xI, .string xO, .bool xF] := FZ.out.1
          have RZ : Bx wz (w.heap.size + 1 + 1) [.string ⟨#[]⟩, .int .i64 0, .int .i64 0, .int .i64 0, .int .i64 0, .int .i64 0, .int .i64 0, .int .i64 0, .string ⟨#[]⟩, .string ⟨#[]⟩, .bool false] := FZ.out.2.1.r
          have BZ9 : Hid (Below w.heap.size w wz) := FZ.out.2.1.out
          have OZ : Hid (OwnS sgG 7 27 wz (w.heap.size + 3) v7 XL) := FZ.out.2.2
          go_wp2_with (first | (refine wpl_put rfl _ _ rfl (w.heap.size + 1 + 1) _ rfl rfl RZ rfl rfl rfl ?_; intro w5 hw5 R5; have B5 : Hid (Below w.heap.size w w5) := (by rw [hw5]; exact below_cells (by omega) _ _ _ BZ9.out); have O5 : Hid (OwnS sgG 7 27 w5 w.heap.size v7 XL) := (by rw [hw5]; exact (own_cells (by omega) _ _ _ OZ.out).lower (by omega)); clear hw5) | (refine wpl_get rfl _ rfl _ rfl (by assumption) rfl ?_) | fail)
          have xx0 : w5.cell? ⟨w.heap.size + 1 + 1, 0, none⟩ = some (.string xm) := R5.cell 0 rfl
          have xx1 : w5.cell? ⟨w.heap.size + 1 + 1, 1, none⟩ = some (.int .i64 xi) := R5.cell 1 rfl
          have xx2 : w5.cell? ⟨w.heap.size + 1 + 1, 2, none⟩ = some (.int .i64 xp) := R5.cell 2 rfl
          have xx3 : w5.cell? ⟨w.heap.size + 1 + 1, 3, none⟩ = some (.int .i64 xd) := R5.cell 3 rfl
          have xx4 : w5.cell? ⟨w.heap.size + 1 + 1, 4, none⟩ = some (.int .i64 xs) := R5.cell 4 rfl
          have xx5 : w5.cell? ⟨w.heap.size + 1 + 1, 5, none⟩ = some (.int .i64 xu) := R5.cell 5 rfl
          have xx6 : w5.cell? ⟨w.heap.size + 1 + 1, 6, none⟩ = some (.int .i64 xn) := R5.cell 6 rfl
          have xx7 : w5.cell? ⟨w.heap.size + 1 + 1, 7, none⟩ = some (.int .i64 xw) := R5.cell 7 rfl
          have xx8 : w5.cell? ⟨w.heap.size + 1 + 1, 8, none⟩ = some (.string xI) := R5.cell 8 rfl
          have xx9 : w5.cell? ⟨w.heap.size + 1 + 1, 9, none⟩ = some (.string xO) := R5.cell 9 rfl
          have xx10 : w5.cell? ⟨w.heap.size + 1 + 1, 10, none⟩ = some (.bool xF) := R5.cell 10 rfl
          (try simp only [Exit.inBlock, Exit.then])
          refine bodyPost_ret (v := .tuple #[.agg #[.string xm, .int .i64 xi, .int .i64 xp, .int .i64 xd, .int .i64 xs, .int .i64 xu, .int .i64 xn, .int .i64 xw, .string xI, .string xO, .bool xF], v7, .int .i64 0]) (by simp [results, Try.results8, go_sem, xx0, xx1, xx2, xx3, xx4, xx5, xx6, xx7, xx8, xx9, xx10]; try rfl) rfl ?_
          exact ⟨_, rfl, O5.out, B5.out⟩
        exact AllReadyH.nil
      exact AllReadyH.nil
    exact AllReadyH.nil
  exact AllReadyH.nil
end Go.Proofs.Ytfgghffgfefgpaa

namespace Go.Proofs.Ytfgghffgfefgpaa
open Go.RowKit Go.PlainAid Go.Proofs.Ytfgghffgfefgpaa.Bt Go.Sort
set_option linter.unusedVariables false
set_option maxRecDepth 20000
set_option maxHeartbeats 16000000 in
theorem implTk_T2 (mc : ByteArray) (ip po di st un nx wa : Int) (inn out : ByteArray) (fin : Bool) (sp dp sq ac fl wi : Int) (da : ByteArray) (xm : ByteArray) (xi xp xd xs xu xn xw : Int) (xI xO : ByteArray) (xF : Bool) (XL : List SegV) (w : World) (hp : po ≤ 9223372036854775807) (hmc : mc.size ≤ 1048576) (hi : inn.size ≤ 1048576) (ho : out.size ≤ 1048576) (hs : sp ≤ 9223372036854775807) (hd : dp ≤ 9223372036854775807) (hq : sq ≤ 9223372036854775807) (ha : ac ≤ 9223372036854775807) (hw : wi ≤ 9223372036854775807) (hda : da.size ≤ 9223372036854775807) (hok : okB ⟨mc, ip, po, di, st, un, nx, wa, inn, out, fin⟩ = true) (hsg : sgB ⟨sp, dp, sq, ac, fl, wi, da⟩ = true) (hst : st = 2) (TL0 : ∀ (p2 p3 : Nat) (w : World), p2 < w.heap.size → p3 < w.heap.size → w.cell? ⟨p2, 0, none⟩ = some (.func (.func 68) #[] #[]) → w.cell? ⟨p3, 0, none⟩ = some (.func (.func 69) #[] #[]) → Calls Try.prog 82 #[.agg #[.string mc, .int .i64 ip, .int .i64 po, .int .i64 di, .int .i64 st, .int .i64 un, .int .i64 nx, .int .i64 wa, .string inn, .string out, .bool fin], .agg #[.int .i64 sp, .int .i64 dp, .int .i64 sq, .int .i64 ac, .int .i64 fl, .int .i64 wi, .string da], .pointer (some ⟨p2, 0, none⟩), .pointer (some ⟨p3, 0, none⟩)] w fun e w' => ∃ v, e = .returned (.tuple #[.agg #[.string xm, .int .i64 xi, .int .i64 xp, .int .i64 xd, .int .i64 xs, .int .i64 xu, .int .i64 xn, .int .i64 xw, .string xI, .string xO, .bool xF], v]) ∧ OwnS sgG 7 27 w' w.heap.size v XL ∧ Below w.heap.size w w') :
    Calls Try.prog 8 #[.agg #[.string mc, .int .i64 ip, .int .i64 po, .int .i64 di, .int .i64 st, .int .i64 un, .int .i64 nx, .int .i64 wa, .string inn, .string out, .bool fin], .agg #[.int .i64 sp, .int .i64 dp, .int .i64 sq, .int .i64 ac, .int .i64 fl, .int .i64 wi, .string da]] w fun e w' => ∃ v, e = .returned (.tuple #[.agg #[.string xm, .int .i64 xi, .int .i64 xp, .int .i64 xd, .int .i64 xs, .int .i64 xu, .int .i64 xn, .int .i64 xw, .string xI, .string xO, .bool xF], v, .int .i64 0]) ∧ OwnS sgG 7 27 w' w.heap.size v XL ∧ Below w.heap.size w w' := by
  have TK : Hid (∀ w, Calls Try.prog 11 #[.agg #[.string mc, .int .i64 ip, .int .i64 po, .int .i64 di, .int .i64 st, .int .i64 un, .int .i64 nx, .int .i64 wa, .string inn, .string out, .bool fin]] w fun e w' => e = .returned (.bool true) ∧ Grw w w') := fun w => by rw [← hok]; exact implConOK_any mc ip po di st un nx wa inn out fin w hp hmc hi ho
  have TSG : Hid (∀ w, Calls Try.prog 33 #[.agg #[.int .i64 sp, .int .i64 dp, .int .i64 sq, .int .i64 ac, .int .i64 fl, .int .i64 wi, .string da]] w fun e w' => e = .returned (.bool true) ∧ Grw w w') := fun w => by rw [← hsg]; exact segOK9_any sp dp sq ac fl wi da w hs hd hq ha hw hda
  have TC : Hid (∀ w, Calls Try.prog 34 #[.int .i64 st] w fun e w' => e = .returned (.func (.func 82) #[] #[.pointer (some ⟨w.heap.size, 0, none⟩), .pointer (some ⟨w.heap.size + 1, 0, none⟩)]) ∧ (w'.cell? ⟨w.heap.size, 0, none⟩ = some (.func (.func 68) #[] #[]) ∧ w'.cell? ⟨w.heap.size + 1, 0, none⟩ = some (.func (.func 69) #[] #[]) ∧ w.heap.size + 2 ≤ w'.heap.size ∧ Below w.heap.size w w')) := fun w => connT2 st w hst
  have TL : Hid (∀ (p2 p3 : Nat) (w : World), p2 < w.heap.size → p3 < w.heap.size → w.cell? ⟨p2, 0, none⟩ = some (.func (.func 68) #[] #[]) → w.cell? ⟨p3, 0, none⟩ = some (.func (.func 69) #[] #[]) → Calls Try.prog 82 #[.agg #[.string mc, .int .i64 ip, .int .i64 po, .int .i64 di, .int .i64 st, .int .i64 un, .int .i64 nx, .int .i64 wa, .string inn, .string out, .bool fin], .agg #[.int .i64 sp, .int .i64 dp, .int .i64 sq, .int .i64 ac, .int .i64 fl, .int .i64 wi, .string da], .pointer (some ⟨p2, 0, none⟩), .pointer (some ⟨p3, 0, none⟩)] w fun e w' => ∃ v, e = .returned (.tuple #[.agg #[.string xm, .int .i64 xi, .int .i64 xp, .int .i64 xd, .int .i64 xs, .int .i64 xu, .int .i64 xn, .int .i64 xw, .string xI, .string xO, .bool xF], v]) ∧ OwnS sgG 7 27 w' w.heap.size v XL ∧ Below w.heap.size w w') := TL0
  clear TL0 hst hok hsg
  have C0 : Bx (((w.alloc (.cells #[.string mc, .int .i64 ip, .int .i64 po, .int .i64 di, .int .i64 st, .int .i64 un, .int .i64 nx, .int .i64 wa, .string inn, .string out, .bool fin] 24)).alloc (.cells #[.int .i64 sp, .int .i64 dp, .int .i64 sq, .int .i64 ac, .int .i64 fl, .int .i64 wi, .string da] 27)).alloc (.cells #[.string ⟨#[]⟩, .int .i64 0, .int .i64 0, .int .i64 0, .int .i64 0, .int .i64 0, .int .i64 0, .int .i64 0, .string ⟨#[]⟩, .string ⟨#[]⟩, .bool false] 24)) w.heap.size [.string mc, .int .i64 ip, .int .i64 po, .int .i64 di, .int .i64 st, .int .i64 un, .int .i64 nx, .int .i64 wa, .string inn, .string out, .bool fin] := ((Bx.new w _ _).below ((Below.refl _ _).alloc (Nat.le_refl _) _)).below ((Below.refl _ _).alloc (Nat.le_refl _) _)
  have G0 : Bx (((w.alloc (.cells #[.string mc, .int .i64 ip, .int .i64 po, .int .i64 di, .int .i64 st, .int .i64 un, .int .i64 nx, .int .i64 wa, .string inn, .string out, .bool fin] 24)).alloc (.cells #[.int .i64 sp, .int .i64 dp, .int .i64 sq, .int .i64 ac, .int .i64 fl, .int .i64 wi, .string da] 27)).alloc (.cells #[.string ⟨#[]⟩, .int .i64 0, .int .i64 0, .int .i64 0, .int .i64 0, .int .i64 0, .int .i64 0, .int .i64 0, .string ⟨#[]⟩, .string ⟨#[]⟩, .bool false] 24)) (w.heap.size + 1) [.int .i64 sp, .int .i64 dp, .int .i64 sq, .int .i64 ac, .int .i64 fl, .int .i64 wi, .string da] := by
    have h := (Bx.new (w.alloc (.cells #[.string mc, .int .i64 ip, .int .i64 po, .int .i64 di, .int .i64 st, .int .i64 un, .int .i64 nx, .int .i64 wa, .string inn, .string out, .bool fin] 24)) #[.int .i64 sp, .int .i64 dp, .int .i64 sq, .int .i64 ac, .int .i64 fl, .int .i64 wi, .string da] 27).below ((Below.refl _ _).alloc (Nat.le_refl _) (.cells #[.string ⟨#[]⟩, .int .i64 0, .int .i64 0, .int .i64 0, .int .i64 0, .int .i64 0, .int .i64 0, .int .i64 0, .string ⟨#[]⟩, .string ⟨#[]⟩, .bool false] 24))
    rw [World.size_alloc] at h
    exact h
  have R0 : Bx (((w.alloc (.cells #[.string mc, .int .i64 ip, .int .i64 po, .int .i64 di, .int .i64 st, .int .i64 un, .int .i64 nx, .int .i64 wa, .string inn, .string out, .bool fin] 24)).alloc (.cells #[.int .i64 sp, .int .i64 dp, .int .i64 sq, .int .i64 ac, .int .i64 fl, .int .i64 wi, .string da] 27)).alloc (.cells #[.string ⟨#[]⟩, .int .i64 0, .int .i64 0, .int .i64 0, .int .i64 0, .int .i64 0, .int .i64 0, .int .i64 0, .string ⟨#[]⟩, .string ⟨#[]⟩, .bool false] 24)) (w.heap.size + 1 + 1) [.string ⟨#[]⟩, .int .i64 0, .int .i64 0, .int .i64 0, .int .i64 0, .int .i64 0, .int .i64 0, .int .i64 0, .string ⟨#[]⟩, .string ⟨#[]⟩, .bool false] := by
    have h := Bx.new ((w.alloc (.cells #[.string mc, .int .i64 ip, .int .i64 po, .int .i64 di, .int .i64 st, .int .i64 un, .int .i64 nx, .int .i64 wa, .string inn, .string out, .bool fin] 24)).alloc (.cells #[.int .i64 sp, .int .i64 dp, .int .i64 sq, .int .i64 ac, .int .i64 fl, .int .i64 wi, .string da] 27)) #[.string ⟨#[]⟩, .int .i64 0, .int .i64 0, .int .i64 0, .int .i64 0, .int .i64 0, .int .i64 0, .int .i64 0, .string ⟨#[]⟩, .string ⟨#[]⟩, .bool false] 24
    rw [World.size_alloc, World.size_alloc] at h
    exact h
  have B0 : Hid (Below w.heap.size w (((w.alloc (.cells #[.string mc, .int .i64 ip, .int .i64 po, .int .i64 di, .int .i64 st, .int .i64 un, .int .i64 nx, .int .i64 wa, .string inn, .string out, .bool fin] 24)).alloc (.cells #[.int .i64 sp, .int .i64 dp, .int .i64 sq, .int .i64 ac, .int .i64 fl, .int .i64 wi, .string da] 27)).alloc (.cells #[.string ⟨#[]⟩, .int .i64 0, .int .i64 0, .int .i64 0, .int .i64 0, .int .i64 0, .int .i64 0, .int .i64 0, .string ⟨#[]⟩, .string ⟨#[]⟩, .bool false] 24))) := ((((Below.refl _ _).alloc (Nat.le_refl _) _).alloc (by simp) _).alloc (by simp; omega) _)
  go_enter Try.func8, Try.ntmps8
  go_wp2_with (first | (refine wpl_get rfl _ rfl _ rfl (by assumption) rfl ?_) | (refine wpl_getS rfl _ rfl _ rfl (by assumption) rfl ?_) | fail)
  refine (TK.out _).mono ?_
  rintro e w1 ⟨rfl, g1⟩
  have b1 := g1.below
  have C1 : Bx w1 w.heap.size [.string mc, .int .i64 ip, .int .i64 po, .int .i64 di, .int .i64 st, .int .i64 un, .int .i64 nx, .int .i64 wa, .string inn, .string out, .bool fin] := C0.below b1
  have G1 : Bx w1 (w.heap.size + 1) [.int .i64 sp, .int .i64 dp, .int .i64 sq, .int .i64 ac, .int .i64 fl, .int .i64 wi, .string da] := G0.below b1
  have R1 : Bx w1 (w.heap.size + 1 + 1) [.string ⟨#[]⟩, .int .i64 0, .int .i64 0, .int .i64 0, .int .i64 0, .int .i64 0, .int .i64 0, .int .i64 0, .string ⟨#[]⟩, .string ⟨#[]⟩, .bool false] := R0.below b1
  have B1 : Hid (Below w.heap.size w w1) := B0.out.trans (b1.mono B0.out.size)
  clear b1 g1
  have gq0 : w1.cell? ⟨w.heap.size + 1, 0, none⟩ = some (.int .i64 sp) := G1.cell 0 rfl
  have gq1 : w1.cell? ⟨w.heap.size + 1, 1, none⟩ = some (.int .i64 dp) := G1.cell 1 rfl
  have gq2 : w1.cell? ⟨w.heap.size + 1, 2, none⟩ = some (.int .i64 sq) := G1.cell 2 rfl
  have gq3 : w1.cell? ⟨w.heap.size + 1, 3, none⟩ = some (.int .i64 ac) := G1.cell 3 rfl
  have gq4 : w1.cell? ⟨w.heap.size + 1, 4, none⟩ = some (.int .i64 fl) := G1.cell 4 rfl
  have gq5 : w1.cell? ⟨w.heap.size + 1, 5, none⟩ = some (.int .i64 wi) := G1.cell 5 rfl
  have gq6 : w1.cell? ⟨w.heap.size + 1, 6, none⟩ = some (.string da) := G1.cell 6 rfl
  go_wp2_with (first | (refine wpl_get rfl _ rfl _ rfl (by assumption) rfl ?_) | (refine wpl_getS rfl _ rfl _ rfl (by assumption) rfl ?_) | fail)
  refine (TSG.out _).mono ?_
  rintro e w2 ⟨rfl, g2⟩
  have b2 := g2.below
  have C2 : Bx w2 w.heap.size [.string mc, .int .i64 ip, .int .i64 po, .int .i64 di, .int .i64 st, .int .i64 un, .int .i64 nx, .int .i64 wa, .string inn, .string out, .bool fin] := C1.below b2
  have G2 : Bx w2 (w.heap.size + 1) [.int .i64 sp, .int .i64 dp, .int .i64 sq, .int .i64 ac, .int .i64 fl, .int .i64 wi, .string da] := G1.below b2
  have R2 : Bx w2 (w.heap.size + 1 + 1) [.string ⟨#[]⟩, .int .i64 0, .int .i64 0, .int .i64 0, .int .i64 0, .int .i64 0, .int .i64 0, .int .i64 0, .string ⟨#[]⟩, .string ⟨#[]⟩, .bool false] := R1.below b2
  have B2 : Hid (Below w.heap.size w w2) := B1.out.trans (b2.mono B1.out.size)
  clear b2 g2
  clear C1 G1 R1 B1 C0 G0 R0 B0 gq0 gq1 gq2 gq3 gq4 gq5 gq6
  have HS : Hid (∀ wx, XD w.heap.size [.string mc, .int .i64 ip, .int .i64 po, .int .i64 di, .int .i64 st, .int .i64 un, .int .i64 nx, .int .i64 wa, .string inn, .string out, .bool fin] (w.heap.size + 1) [.int .i64 sp, .int .i64 dp, .int .i64 sq, .int .i64 ac, .int .i64 fl, .int .i64 wi, .string da] (w.heap.size + 1 + 1) [.string ⟨#[]⟩, .int .i64 0, .int .i64 0, .int .i64 0, .int .i64 0, .int .i64 0, .int .i64 0, .int .i64 0, .string ⟨#[]⟩, .string ⟨#[]⟩, .bool false] w wx → w.heap.size + 3 ≤ wx.heap.size) := fun wx h => by
    have := World.block_lt_of_cell? wx _ (h.r.cell 0 rfl)
    dsimp only at this
    omega
  go_wp2_with fail
  have SS2 : Hid (XD w.heap.size [.string mc, .int .i64 ip, .int .i64 po, .int .i64 di, .int .i64 st, .int .i64 un, .int .i64 nx, .int .i64 wa, .string inn, .string out, .bool fin] (w.heap.size + 1) [.int .i64 sp, .int .i64 dp, .int .i64 sq, .int .i64 ac, .int .i64 fl, .int .i64 wi, .string da] (w.heap.size + 1 + 1) [.string ⟨#[]⟩, .int .i64 0, .int .i64 0, .int .i64 0, .int .i64 0, .int .i64 0, .int .i64 0, .int .i64 0, .string ⟨#[]⟩, .string ⟨#[]⟩, .bool false] w w2) := ⟨C2, G2, R2, B2.out⟩
  have SS : Hid (XD w.heap.size [.string mc, .int .i64 ip, .int .i64 po, .int .i64 di, .int .i64 st, .int .i64 un, .int .i64 nx, .int .i64 wa, .string inn, .string out, .bool fin] (w.heap.size + 1) [.int .i64 sp, .int .i64 dp, .int .i64 sq, .int .i64 ac, .int .i64 fl, .int .i64 wi, .string da] (w.heap.size + 1 + 1) [.string ⟨#[]⟩, .int .i64 0, .int .i64 0, .int .i64 0, .int .i64 0, .int .i64 0, .int .i64 0, .int .i64 0, .string ⟨#[]⟩, .string ⟨#[]⟩, .bool false] w w2.drew) := ⟨C2.below ((Below.refl _ _).drew), G2.below ((Below.refl _ _).drew), R2.below ((Below.refl _ _).drew), B2.out.drew⟩
  have H2 : w.heap.size + 3 ≤ w2.heap.size := by have := HS.out _ SS.out; simpa using this
  clear C2 G2 R2 B2
  have FRR : Hid (∀ nb wx, w.heap.size + 3 ≤ nb → XD w.heap.size [.string mc, .int .i64 ip, .int .i64 po, .int .i64 di, .int .i64 st, .int .i64 un, .int .i64 nx, .int .i64 wa, .string inn, .string out, .bool fin] (w.heap.size + 1) [.int .i64 sp, .int .i64 dp, .int .i64 sq, .int .i64 ac, .int .i64 fl, .int .i64 wi, .string da] (w.heap.size + 1 + 1) [.string ⟨#[]⟩, .int .i64 0, .int .i64 0, .int .i64 0, .int .i64 0, .int .i64 0, .int .i64 0, .int .i64 0, .string ⟨#[]⟩, .string ⟨#[]⟩, .bool false] w wx → XD w.heap.size [.string mc, .int .i64 ip, .int .i64 po, .int .i64 di, .int .i64 st, .int .i64 un, .int .i64 nx, .int .i64 wa, .string inn, .string out, .bool fin] (w.heap.size + 1) [.int .i64 sp, .int .i64 dp, .int .i64 sq, .int .i64 ac, .int .i64 fl, .int .i64 wi, .string da] (w.heap.size + 1 + 1) [.string ⟨#[]⟩, .int .i64 0, .int .i64 0, .int .i64 0, .int .i64 0, .int .i64 0, .int .i64 0, .int .i64 0, .string ⟨#[]⟩, .string ⟨#[]⟩, .bool false] w (((((((((((wx.setCell ⟨nb, 0, none⟩ (.string xm)).setCell ⟨nb, 1, none⟩ (.int .i64 xi)).setCell ⟨nb, 2, none⟩ (.int .i64 xp)).setCell ⟨nb, 3, none⟩ (.int .i64 xd)).setCell ⟨nb, 4, none⟩ (.int .i64 xs)).setCell ⟨nb, 5, none⟩ (.int .i64 xu)).setCell ⟨nb, 6, none⟩ (.int .i64 xn)).setCell ⟨nb, 7, none⟩ (.int .i64 xw)).setCell ⟨nb, 8, none⟩ (.string xI)).setCell ⟨nb, 9, none⟩ (.string xO)).setCell ⟨nb, 10, none⟩ (.bool xF))) := fun nb wx hn hx => (((((((((((hx.far ⟨nb, 0, none⟩ (.string xm) (by dsimp only; omega) (by dsimp only; omega) (by dsimp only; omega) (by dsimp only; omega)).far ⟨nb, 1, none⟩ (.int .i64 xi) (by dsimp only; omega) (by dsimp only; omega) (by dsimp only; omega) (by dsimp only; omega)).far ⟨nb, 2, none⟩ (.int .i64 xp) (by dsimp only; omega) (by dsimp only; omega) (by dsimp only; omega) (by dsimp only; omega)).far ⟨nb, 3, none⟩ (.int .i64 xd) (by dsimp only; omega) (by dsimp only; omega) (by dsimp only; omega) (by dsimp only; omega)).far ⟨nb, 4, none⟩ (.int .i64 xs) (by dsimp only; omega) (by dsimp only; omega) (by dsimp only; omega) (by dsimp only; omega)).far ⟨nb, 5, none⟩ (.int .i64 xu) (by dsimp only; omega) (by dsimp only; omega) (by dsimp only; omega) (by dsimp only; omega)).far ⟨nb, 6, none⟩ (.int .i64 xn) (by dsimp only; omega) (by dsimp only; omega) (by dsimp only; omega) (by dsimp only; omega)).far ⟨nb, 7, none⟩ (.int .i64 xw) (by dsimp only; omega) (by dsimp only; omega) (by dsimp only; omega) (by dsimp only; omega)).far ⟨nb, 8, none⟩ (.string xI) (by dsimp only; omega) (by dsimp only; omega) (by dsimp only; omega) (by dsimp only; omega)).far ⟨nb, 9, none⟩ (.string xO) (by dsimp only; omega) (by dsimp only; omega) (by dsimp only; omega) (by dsimp only; omega)).far ⟨nb, 10, none⟩ (.bool xF) (by dsimp only; omega) (by dsimp only; omega) (by dsimp only; omega) (by dsimp only; omega))
  refine wp_region_held_drew (S := (fun wx => XD w.heap.size [.string mc, .int .i64 ip, .int .i64 po, .int .i64 di, .int .i64 st, .int .i64 un, .int .i64 nx, .int .i64 wa, .string inn, .string out, .bool fin] (w.heap.size + 1) [.int .i64 sp, .int .i64 dp, .int .i64 sq, .int .i64 ac, .int .i64 fl, .int .i64 wi, .string da] (w.heap.size + 1 + 1) [.string ⟨#[]⟩, .int .i64 0, .int .i64 0, .int .i64 0, .int .i64 0, .int .i64 0, .int .i64 0, .int .i64 0, .string ⟨#[]⟩, .string ⟨#[]⟩, .bool false] w wx)) (by kernel_rfl) ?_ (fun hH0 => ?_)
  · with_reducible exact SS.out
  refine wpAnyH_take (i := 0) (v := ?v1001) rfl (by kernel_rfl) (by kernel_rfl) (by kernel_rfl) (fun _ _ _ h => h) (Or.inl ⟨by rfl, ?hy1001⟩) (by assumption) ?rest1001
  case hy1001 => (intro w hSw; (try dsimp only at hSw); go_simp; (try with_reducible rfl))
  refine wpAnyH_take (i := 1) (v := .int .i64 st) rfl (by kernel_rfl) (by kernel_rfl) (by kernel_rfl) (fun _ _ _ h => h) (Or.inl ⟨by rfl, ?hy1002⟩) (by assumption) ?rest1002
  case hy1002 =>
    intro wz hSw
    have hf : wz.cell? ⟨w.heap.size, 4, none⟩ = some (.int .i64 st) := hSw.c.cell 4 rfl
    go_simp
  refine wpAnyH_take (i := 3) (v := .agg #[.string mc, .int .i64 ip, .int .i64 po, .int .i64 di, .int .i64 st, .int .i64 un, .int .i64 nx, .int .i64 wa, .string inn, .string out, .bool fin]) rfl (by kernel_rfl) (by kernel_rfl) (by kernel_rfl) (fun _ _ _ h => h) (yieldsIf_load_mid (by rfl) 24 _ rfl w.heap.size 0 rfl [.string mc, .int .i64 ip, .int .i64 po, .int .i64 di, .int .i64 st, .int .i64 un, .int .i64 nx, .int .i64 wa, .string inn, .string out, .bool fin] _ (fun _ h => h.c.cl) Try.underlying24 rfl rfl) (by assumption) ?rest1003
  refine wpAnyH_take (i := 4) (v := .agg #[.int .i64 sp, .int .i64 dp, .int .i64 sq, .int .i64 ac, .int .i64 fl, .int .i64 wi, .string da]) rfl (by kernel_rfl) (by kernel_rfl) (by kernel_rfl) (fun _ _ _ h => h) (yieldsIf_load_mid (by rfl) 27 _ rfl (w.heap.size + 1) 0 rfl [.int .i64 sp, .int .i64 dp, .int .i64 sq, .int .i64 ac, .int .i64 fl, .int .i64 wi, .string da] _ (fun _ h => h.g.cl) Try.underlying27 rfl rfl) (by assumption) ?rest1004
  refine wpAnyH_ready (rs := [2, 9]) (by kernel_rfl) (by simp) ?_
  refine AllReadyH.cons rfl (fun K hK => ?_) ?_
  · go_simp
    go_at_call 34
    with_reducible refine (TC.out _).mono ?_
    rintro e w6 ⟨rfl, hp⟩
    have b6 : Below w2.drew.heap.size w2.drew w6 := hp.2.2.2
    have P6 : Hid (w6.cell? ⟨w2.heap.size, 0, none⟩ = some (.func (.func 68) #[] #[]) ∧ w6.cell? ⟨w2.heap.size + 1, 0, none⟩ = some (.func (.func 69) #[] #[])) := ⟨hp.1, hp.2.1⟩
    have Q6 : Hid (w2.heap.size + 2 ≤ w6.heap.size) := hp.2.2.1
    clear hp
    have L6 : Hid (XD w.heap.size [.string mc, .int .i64 ip, .int .i64 po, .int .i64 di, .int .i64 st, .int .i64 un, .int .i64 nx, .int .i64 wa, .string inn, .string out, .bool fin] (w.heap.size + 1) [.int .i64 sp, .int .i64 dp, .int .i64 sq, .int .i64 ac, .int .i64 fl, .int .i64 wi, .string da] (w.heap.size + 1 + 1) [.string ⟨#[]⟩, .int .i64 0, .int .i64 0, .int .i64 0, .int .i64 0, .int .i64 0, .int .i64 0, .int .i64 0, .string ⟨#[]⟩, .string ⟨#[]⟩, .bool false] w w6) := SS.out.below b6
    clear b6
    refine hK.out _ _ ?_ (fun hH1005 => ?_)
    · (try dsimp only)
      first | (with_reducible exact L8.out) | (with_reducible exact L9.out) | (with_reducible exact L7.out) | (with_reducible exact L6.out) | (with_reducible exact FRR.out _ _ G9 L8.out)
    clear hK K hH0
    refine wpAnyH_ready (rs := [5, 9]) (by kernel_rfl) (by simp) ?_
    refine AllReadyH.cons rfl (fun K hK => ?_) ?_
    · go_simp
      go_at_call 82
      first | (with_reducible refine (TL.out w2.heap.size (w2.heap.size + 1) w6 (by have := Q6.out; omega) (by have := Q6.out; omega) P6.out.1 P6.out.2).mono ?_)
      rintro e w7 ⟨v7, rfl, o7, b7⟩
      have L7 : Hid (XD w.heap.size [.string mc, .int .i64 ip, .int .i64 po, .int .i64 di, .int .i64 st, .int .i64 un, .int .i64 nx, .int .i64 wa, .string inn, .string out, .bool fin] (w.heap.size + 1) [.int .i64 sp, .int .i64 dp, .int .i64 sq, .int .i64 ac, .int .i64 fl, .int .i64 wi, .string da] (w.heap.size + 1 + 1) [.string ⟨#[]⟩, .int .i64 0, .int .i64 0, .int .i64 0, .int .i64 0, .int .i64 0, .int .i64 0, .int .i64 0, .string ⟨#[]⟩, .string ⟨#[]⟩, .bool false] w w7) := L6.out.below b7
      have O7 : Hid (OwnS sgG 7 27 w7 (w.heap.size + 3) v7 XL) := o7.lower (HS.out _ L6.out)
      clear b7 o7
      refine hK.out _ _ ?_ (fun hH1006 => ?_)
      · (try dsimp only)
        first | (with_reducible exact L8.out) | (with_reducible exact L9.out) | (with_reducible exact L7.out) | (with_reducible exact L6.out) | (with_reducible exact FRR.out _ _ G9 L8.out)
      clear hK K hH1005
      refine wpAnyH_take (i := 6) (v := ?v1007) rfl (by kernel_rfl) (by kernel_rfl) (by kernel_rfl) (fun _ _ _ h => h) (Or.inl ⟨by rfl, ?hy1007⟩) (by assumption) ?rest1007
      case hy1007 => (intro w hSw; (try dsimp only at hSw); go_simp; (try with_reducible rfl))
      refine wpAnyH_take (i := 7) (v := ?v1008) rfl (by kernel_rfl) (by kernel_rfl) (by kernel_rfl) (fun _ _ _ h => h) (Or.inl ⟨by rfl, ?hy1008⟩) (by assumption) ?rest1008
      case hy1008 => (intro w hSw; (try dsimp only at hSw); go_simp; (try with_reducible rfl))
      refine wpAnyH_take (i := 8) (v := ?v1009) rfl (by kernel_rfl) (by kernel_rfl) (by kernel_rfl) (fun _ _ _ h => h) (Or.inl ⟨by rfl, ?hy1009⟩) (by assumption) ?rest1009
      case hy1009 => (intro w hSw; (try dsimp only at hSw); go_simp; (try with_reducible rfl))
      refine wpAnyH_ready (rs := [9]) (by kernel_rfl) (by simp) ?_
      refine AllReadyH.cons rfl (fun K hK => ?_) ?_
      · go_simp
        have N9 : Bx (w7.alloc (.cells #[.string ⟨#[]⟩, .int .i64 0, .int .i64 0, .int .i64 0, .int .i64 0, .int .i64 0, .int .i64 0, .int .i64 0, .string ⟨#[]⟩, .string ⟨#[]⟩, .bool false] 24)) w7.heap.size [.string ⟨#[]⟩, .int .i64 0, .int .i64 0, .int .i64 0, .int .i64 0, .int .i64 0, .int .i64 0, .int .i64 0, .string ⟨#[]⟩, .string ⟨#[]⟩, .bool false] := Bx.new w7 #[.string ⟨#[]⟩, .int .i64 0, .int .i64 0, .int .i64 0, .int .i64 0, .int .i64 0, .int .i64 0, .int .i64 0, .string ⟨#[]⟩, .string ⟨#[]⟩, .bool false] _
        have L8 : Hid (XD w.heap.size [.string mc, .int .i64 ip, .int .i64 po, .int .i64 di, .int .i64 st, .int .i64 un, .int .i64 nx, .int .i64 wa, .string inn, .string out, .bool fin] (w.heap.size + 1) [.int .i64 sp, .int .i64 dp, .int .i64 sq, .int .i64 ac, .int .i64 fl, .int .i64 wi, .string da] (w.heap.size + 1 + 1) [.string ⟨#[]⟩, .int .i64 0, .int .i64 0, .int .i64 0, .int .i64 0, .int .i64 0, .int .i64 0, .int .i64 0, .string ⟨#[]⟩, .string ⟨#[]⟩, .bool false] w (w7.alloc (.cells #[.string ⟨#[]⟩, .int .i64 0, .int .i64 0, .int .i64 0, .int .i64 0, .int .i64 0, .int .i64 0, .int .i64 0, .string ⟨#[]⟩, .string ⟨#[]⟩, .bool false] 24))) := L7.out.below ((Below.refl _ _).alloc (Nat.le_refl _) _)
        have S9 : Hid (w7.heap.size < (w7.alloc (.cells #[.string ⟨#[]⟩, .int .i64 0, .int .i64 0, .int .i64 0, .int .i64 0, .int .i64 0, .int .i64 0, .int .i64 0, .string ⟨#[]⟩, .string ⟨#[]⟩, .bool false] 24)).heap.size) := by show _ < _; simp
        have G9 : w.heap.size + 3 ≤ w7.heap.size := HS.out _ L7.out
        have O8 : Hid (OwnS sgG 7 27 (w7.alloc (.cells #[.string ⟨#[]⟩, .int .i64 0, .int .i64 0, .int .i64 0, .int .i64 0, .int .i64 0, .int .i64 0, .int .i64 0, .string ⟨#[]⟩, .string ⟨#[]⟩, .bool false] 24)) (w.heap.size + 3) v7 XL) := O7.out.now ((Below.refl _ _).alloc (Nat.le_refl _) _)
        have NE : Hid (∀ k, v7.ownBlock = some k → k ≠ w7.heap.size) := fun k hk => by have := (O7.out.lt k hk).2; omega
        generalize (w7.alloc (.cells #[.string ⟨#[]⟩, .int .i64 0, .int .i64 0, .int .i64 0, .int .i64 0, .int .i64 0, .int .i64 0, .int .i64 0, .string ⟨#[]⟩, .string ⟨#[]⟩, .bool false] 24)) = w8 at N9 L8 S9 O8 ⊢
        obtain ⟨nb, hnb⟩ : ∃ nb, nb = w7.heap.size := ⟨_, rfl⟩
        rw [← hnb] at N9 S9 G9 NE ⊢
        clear hnb
        have NX := N9
        clear N9
        have zz0 : w8.cell? ⟨nb, 0, none⟩ = some (.string ⟨#[]⟩) := NX.cell 0 rfl
        have hh0 : w8.frozen? ⟨nb, 0, none⟩ = false := NX.thaw 0 (by simp)
        have zz1 : w8.cell? ⟨nb, 1, none⟩ = some (.int .i64 0) := NX.cell 1 rfl
        have hh1 : w8.frozen? ⟨nb, 1, none⟩ = false := NX.thaw 1 (by simp)
        have zz2 : w8.cell? ⟨nb, 2, none⟩ = some (.int .i64 0) := NX.cell 2 rfl
        have hh2 : w8.frozen? ⟨nb, 2, none⟩ = false := NX.thaw 2 (by simp)
        have zz3 : w8.cell? ⟨nb, 3, none⟩ = some (.int .i64 0) := NX.cell 3 rfl
        have hh3 : w8.frozen? ⟨nb, 3, none⟩ = false := NX.thaw 3 (by simp)
        have zz4 : w8.cell? ⟨nb, 4, none⟩ = some (.int .i64 0) := NX.cell 4 rfl
        have hh4 : w8.frozen? ⟨nb, 4, none⟩ = false := NX.thaw 4 (by simp)
        have zz5 : w8.cell? ⟨nb, 5, none⟩ = some (.int .i64 0) := NX.cell 5 rfl
        have hh5 : w8.frozen? ⟨nb, 5, none⟩ = false := NX.thaw 5 (by simp)
        have zz6 : w8.cell? ⟨nb, 6, none⟩ = some (.int .i64 0) := NX.cell 6 rfl
        have hh6 : w8.frozen? ⟨nb, 6, none⟩ = false := NX.thaw 6 (by simp)
        have zz7 : w8.cell? ⟨nb, 7, none⟩ = some (.int .i64 0) := NX.cell 7 rfl
        have hh7 : w8.frozen? ⟨nb, 7, none⟩ = false := NX.thaw 7 (by simp)
        have zz8 : w8.cell? ⟨nb, 8, none⟩ = some (.string ⟨#[]⟩) := NX.cell 8 rfl
        have hh8 : w8.frozen? ⟨nb, 8, none⟩ = false := NX.thaw 8 (by simp)
        have zz9 : w8.cell? ⟨nb, 9, none⟩ = some (.string ⟨#[]⟩) := NX.cell 9 rfl
        have hh9 : w8.frozen? ⟨nb, 9, none⟩ = false := NX.thaw 9 (by simp)
        have zz10 : w8.cell? ⟨nb, 10, none⟩ = some (.bool false) := NX.cell 10 rfl
        have hh10 : w8.frozen? ⟨nb, 10, none⟩ = false := NX.thaw 10 (by simp)
        refine hK.out _ _ ?_ (fun hH1010 => ?_)
        · (try dsimp only)
          first | (with_reducible exact L8.out) | (with_reducible exact L9.out) | (with_reducible exact L7.out) | (with_reducible exact L6.out) | (with_reducible exact FRR.out _ _ G9 L8.out)
        clear hK K hH1006
        refine wpAnyH_ready (rs := [10]) (by kernel_rfl) (by simp) ?_
        refine AllReadyH.cons rfl (fun K hK => ?_) ?_
        · go_simp
          refine hK.out _ _ ?_ (fun hH1011 => ?_)
          · (try dsimp only)
            first | (with_reducible exact L8.out) | (with_reducible exact L9.out) | (with_reducible exact L7.out) | (with_reducible exact L6.out) | (with_reducible exact FRR.out _ _ G9 L8.out)
          clear hK K hH1010
          refine wpAnyH_take (i := 11) (v := ?v1012) rfl (by kernel_rfl) (by kernel_rfl) (by kernel_rfl) (fun _ _ _ h => h) (Or.inl ⟨by rfl, ?hy1012⟩) (by assumption) ?rest1012
          case hy1012 => (intro w hSw; (try dsimp only at hSw); go_simp; (try with_reducible rfl))
          refine wpAnyH_done (by kernel_rfl) ?_ _
          have FZ : Hid (Bx (((((((((((w8.setCell ⟨nb, 0, none⟩ (.string xm)).setCell ⟨nb, 1, none⟩ (.int .i64 xi)).setCell ⟨nb, 2, none⟩ (.int .i64 xp)).setCell ⟨nb, 3, none⟩ (.int .i64 xd)).setCell ⟨nb, 4, none⟩ (.int .i64 xs)).setCell ⟨nb, 5, none⟩ (.int .i64 xu)).setCell ⟨nb, 6, none⟩ (.int .i64 xn)).setCell ⟨nb, 7, none⟩ (.int .i64 xw)).setCell ⟨nb, 8, none⟩ (.string xI)).setCell ⟨nb, 9, none⟩ (.string xO)).setCell ⟨nb, 10, none⟩ (.bool xF)) nb [.string xm, .int .i64 xi, .int .i64 xp, .int .i64 xd, .int .i64 xs, .int .i64 xu, .int .i64 xn, .int .i64 xw, .string xI, .string xO, .bool xF] ∧ XD w.heap.size [.string mc, .int .i64 ip, .int .i64 po, .int .i64 di, .int .i64 st, .int .i64 un, .int .i64 nx, .int .i64 wa, .string inn, .string out, .bool fin] (w.heap.size + 1) [.int .i64 sp, .int .i64 dp, .int .i64 sq, .int .i64 ac, .int .i64 fl, .int .i64 wi, .string da] (w.heap.size + 1 + 1) [.string ⟨#[]⟩, .int .i64 0, .int .i64 0, .int .i64 0, .int .i64 0, .int .i64 0, .int .i64 0, .int .i64 0, .string ⟨#[]⟩, .string ⟨#[]⟩, .bool false] w (((((((((((w8.setCell ⟨nb, 0, none⟩ (.string xm)).setCell ⟨nb, 1, none⟩ (.int .i64 xi)).setCell ⟨nb, 2, none⟩ (.int .i64 xp)).setCell ⟨nb, 3, none⟩ (.int .i64 xd)).setCell ⟨nb, 4, none⟩ (.int .i64 xs)).setCell ⟨nb, 5, none⟩ (.int .i64 xu)).setCell ⟨nb, 6, none⟩ (.int .i64 xn)).setCell ⟨nb, 7, none⟩ (.int .i64 xw)).setCell ⟨nb, 8, none⟩ (.string xI)).setCell ⟨nb, 9, none⟩ (.string xO)).setCell ⟨nb, 10, none⟩ (.bool xF)) ∧ OwnS sgG 7 27 (((((((((((w8.setCell ⟨nb, 0, none⟩ (.string xm)).setCell ⟨nb, 1, none⟩ (.int .i64 xi)).setCell ⟨nb, 2, none⟩ (.int .i64 xp)).setCell ⟨nb, 3, none⟩ (.int .i64 xd)).setCell ⟨nb, 4, none⟩ (.int .i64 xs)).setCell ⟨nb, 5, none⟩ (.int .i64 xu)).setCell ⟨nb, 6, none⟩ (.int .i64 xn)).setCell ⟨nb, 7, none⟩ (.int .i64 xw)).setCell ⟨nb, 8, none⟩ (.string xI)).setCell ⟨nb, 9, none⟩ (.string xO)).setCell ⟨nb, 10, none⟩ (.bool xF)) (w.heap.size + 3) v7 XL) := ⟨(((((((((((NX.field 0 (.string xm)).field 1 (.int .i64 xi)).field 2 (.int .i64 xp)).field 3 (.int .i64 xd)).field 4 (.int .i64 xs)).field 5 (.int .i64 xu)).field 6 (.int .i64 xn)).field 7 (.int .i64 xw)).field 8 (.string xI)).field 9 (.string xO)).field 10 (.bool xF)), FRR.out _ _ G9 L8.out, (((((((((((O8.out.apart9 ⟨nb, 0, none⟩ (.string xm) NE.out).apart9 ⟨nb, 1, none⟩ (.int .i64 xi) NE.out).apart9 ⟨nb, 2, none⟩ (.int .i64 xp) NE.out).apart9 ⟨nb, 3, none⟩ (.int .i64 xd) NE.out).apart9 ⟨nb, 4, none⟩ (.int .i64 xs) NE.out).apart9 ⟨nb, 5, none⟩ (.int .i64 xu) NE.out).apart9 ⟨nb, 6, none⟩ (.int .i64 xn) NE.out).apart9 ⟨nb, 7, none⟩ (.int .i64 xw) NE.out).apart9 ⟨nb, 8, none⟩ (.string xI) NE.out).apart9 ⟨nb, 9, none⟩ (.string xO) NE.out).apart9 ⟨nb, 10, none⟩ (.bool xF) NE.out)⟩
          clear hH1011 zz0 hh0 zz1 hh1 zz2 hh2 zz3 hh3 zz4 hh4 zz5 hh5 zz6 hh6 zz7 hh7 zz8 hh8 zz9 hh9 zz10 hh10 NX L8 O8 FRR
          generalize (((((((((((w8.setCell ⟨nb, 0, none⟩ (.string xm)).setCell ⟨nb, 1, none⟩ (.int .i64 xi)).setCell ⟨nb, 2, none⟩ (.int .i64 xp)).setCell ⟨nb, 3, none⟩ (.int .i64 xd)).setCell ⟨nb, 4, none⟩ (.int .i64 xs)).setCell ⟨nb, 5, none⟩ (.int .i64 xu)).setCell ⟨nb, 6, none⟩ (.int .i64 xn)).setCell ⟨nb, 7, none⟩ (.int .i64 xw)).setCell ⟨nb, 8, none⟩ (.string xI)).setCell ⟨nb, 9, none⟩ (.string xO)).setCell ⟨nb, 10, none⟩ (.bool xF)) = wz at FZ ⊢
          have CZ : Bx wz nb [.string xm, .int .i64 xi, .int .i64 xp, .int .i64 xd, .int .i64 xs, .int .i64 xu, .int .i64 xn, .int .i64 xw, .string xI, .string xO, .bool xF] := FZ.out.1
          have RZ : Bx wz (w.heap.size + 1 + 1) [.string ⟨#[]⟩, .int .i64 0, .int .i64 0, .int .i64 0, .int .i64 0, .int .i64 0, .int .i64 0, .int .i64 0, .string ⟨#[]⟩, .string ⟨#[]⟩, .bool false] := FZ.out.2.1.r
          have BZ9 : Hid (Below w.heap.size w wz) := FZ.out.2.1.out
          have OZ : Hid (OwnS sgG 7 27 wz (w.heap.size + 3) v7 XL) := FZ.out.2.2
          go_wp2_with (first | (refine wpl_put rfl _ _ rfl (w.heap.size + 1 + 1) _ rfl rfl RZ rfl rfl rfl ?_; intro w5 hw5 R5; have B5 : Hid (Below w.heap.size w w5) := (by rw [hw5]; exact below_cells (by omega) _ _ _ BZ9.out); have O5 : Hid (OwnS sgG 7 27 w5 w.heap.size v7 XL) := (by rw [hw5]; exact (own_cells (by omega) _ _ _ OZ.out).lower (by omega)); clear hw5) | (refine wpl_get rfl _ rfl _ rfl (by assumption) rfl ?_) | fail)
          have xx0 : w5.cell? ⟨w.heap.size + 1 + 1, 0, none⟩ = some (.string xm) := R5.cell 0 rfl
          have xx1 : w5.cell? ⟨w.heap.size + 1 + 1, 1, none⟩ = some (.int .i64 xi) := R5.cell 1 rfl
          have xx2 : w5.cell? ⟨w.heap.size + 1 + 1, 2, none⟩ = some (.int .i64 xp) := R5.cell 2 rfl
          have xx3 : w5.cell? ⟨w.heap.size + 1 + 1, 3, none⟩ = some (.int .i64 xd) := R5.cell 3 rfl
          have xx4 : w5.cell? ⟨w.heap.size + 1 + 1, 4, none⟩ = some (.int .i64 xs) := R5.cell 4 rfl
          have xx5 : w5.cell? ⟨w.heap.size + 1 + 1, 5, none⟩ = some (.int .i64 xu) := R5.cell 5 rfl
          have xx6 : w5.cell? ⟨w.heap.size + 1 + 1, 6, none⟩ = some (.int .i64 xn) := R5.cell 6 rfl
          have xx7 : w5.cell? ⟨w.heap.size + 1 + 1, 7, none⟩ = some (.int .i64 xw) := R5.cell 7 rfl
          have xx8 : w5.cell? ⟨w.heap.size + 1 + 1, 8, none⟩ = some (.string xI) := R5.cell 8 rfl
          have xx9 : w5.cell? ⟨w.heap.size + 1 + 1, 9, none⟩ = some (.string xO) := R5.cell 9 rfl
          have xx10 : w5.cell? ⟨w.heap.size + 1 + 1, 10, none⟩ = some (.bool xF) := R5.cell 10 rfl
          (try simp only [Exit.inBlock, Exit.then])
          refine bodyPost_ret (v := .tuple #[.agg #[.string xm, .int .i64 xi, .int .i64 xp, .int .i64 xd, .int .i64 xs, .int .i64 xu, .int .i64 xn, .int .i64 xw, .string xI, .string xO, .bool xF], v7, .int .i64 0]) (by simp [results, Try.results8, go_sem, xx0, xx1, xx2, xx3, xx4, xx5, xx6, xx7, xx8, xx9, xx10]; try rfl) rfl ?_
          exact ⟨_, rfl, O5.out, B5.out⟩
        exact AllReadyH.nil
      exact AllReadyH.nil
    refine AllReadyH.cons rfl (fun K hK => ?_) ?_
    · go_simp
      have N9 : Bx (w6.alloc (.cells #[.string ⟨#[]⟩, .int .i64 0, .int .i64 0, .int .i64 0, .int .i64 0, .int .i64 0, .int .i64 0, .int .i64 0, .string ⟨#[]⟩, .string ⟨#[]⟩, .bool false] 24)) w6.heap.size [.string ⟨#[]⟩, .int .i64 0, .int .i64 0, .int .i64 0, .int .i64 0, .int .i64 0, .int .i64 0, .int .i64 0, .string ⟨#[]⟩, .string ⟨#[]⟩, .bool false] := Bx.new w6 #[.string ⟨#[]⟩, .int .i64 0, .int .i64 0, .int .i64 0, .int .i64 0, .int .i64 0, .int .i64 0, .int .i64 0, .string ⟨#[]⟩, .string ⟨#[]⟩, .bool false] _
      have L9 : Hid (XD w.heap.size [.string mc, .int .i64 ip, .int .i64 po, .int .i64 di, .int .i64 st, .int .i64 un, .int .i64 nx, .int .i64 wa, .string inn, .string out, .bool fin] (w.heap.size + 1) [.int .i64 sp, .int .i64 dp, .int .i64 sq, .int .i64 ac, .int .i64 fl, .int .i64 wi, .string da] (w.heap.size + 1 + 1) [.string ⟨#[]⟩, .int .i64 0, .int .i64 0, .int .i64 0, .int .i64 0, .int .i64 0, .int .i64 0, .int .i64 0, .string ⟨#[]⟩, .string ⟨#[]⟩, .bool false] w (w6.alloc (.cells #[.string ⟨#[]⟩, .int .i64 0, .int .i64 0, .int .i64 0, .int .i64 0, .int .i64 0, .int .i64 0, .int .i64 0, .string ⟨#[]⟩, .string ⟨#[]⟩, .bool false] 24))) := L6.out.below ((Below.refl _ _).alloc (Nat.le_refl _) _)
      have S9 : Hid (w6.heap.size < (w6.alloc (.cells #[.string ⟨#[]⟩, .int .i64 0, .int .i64 0, .int .i64 0, .int .i64 0, .int .i64 0, .int .i64 0, .int .i64 0, .string ⟨#[]⟩, .string ⟨#[]⟩, .bool false] 24)).heap.size) := by show _ < _; simp
      have G9 : w.heap.size + 3 ≤ w6.heap.size := HS.out _ L6.out
      have P9 : Hid ((w6.alloc (.cells #[.string ⟨#[]⟩, .int .i64 0, .int .i64 0, .int .i64 0, .int .i64 0, .int .i64 0, .int .i64 0, .int .i64 0, .string ⟨#[]⟩, .string ⟨#[]⟩, .bool false] 24)).cell? ⟨w2.heap.size, 0, none⟩ = some (.func (.func 68) #[] #[]) ∧ (w6.alloc (.cells #[.string ⟨#[]⟩, .int .i64 0, .int .i64 0, .int .i64 0, .int .i64 0, .int .i64 0, .int .i64 0, .int .i64 0, .string ⟨#[]⟩, .string ⟨#[]⟩, .bool false] 24)).cell? ⟨w2.heap.size + 1, 0, none⟩ = some (.func (.func 69) #[] #[])) := ⟨acell P6.out.1 _, acell P6.out.2 _⟩
      have Q9 : Hid (w2.heap.size + 2 ≤ (w6.alloc (.cells #[.string ⟨#[]⟩, .int .i64 0, .int .i64 0, .int .i64 0, .int .i64 0, .int .i64 0, .int .i64 0, .int .i64 0, .string ⟨#[]⟩, .string ⟨#[]⟩, .bool false] 24)).heap.size) := by have := Q6.out; show _ ≤ _; simp; omega
      generalize (w6.alloc (.cells #[.string ⟨#[]⟩, .int .i64 0, .int .i64 0, .int .i64 0, .int .i64 0, .int .i64 0, .int .i64 0, .int .i64 0, .string ⟨#[]⟩, .string ⟨#[]⟩, .bool false] 24)) = w9 at N9 L9 S9 P9 Q9 ⊢
      obtain ⟨nb, hnb⟩ : ∃ nb, nb = w6.heap.size := ⟨_, rfl⟩
      rw [← hnb] at N9 S9 G9 ⊢
      clear hnb
      refine hK.out _ _ ?_ (fun hH1013 => ?_)
      · (try dsimp only)
        first | (with_reducible exact L8.out) | (with_reducible exact L9.out) | (with_reducible exact L7.out) | (with_reducible exact L6.out) | (with_reducible exact FRR.out _ _ G9 L8.out)
      clear hK K hH1005
      refine wpAnyH_ready (rs := [5]) (by kernel_rfl) (by simp) ?_
      refine AllReadyH.cons rfl (fun K hK => ?_) ?_
      · go_simp
        go_at_call 82
        first | (with_reducible refine (TL.out w9.heap.size (w9.heap.size + 1) w6 (by have := Q6.out; omega) (by have := Q6.out; omega) P6.out.1 P6.out.2).mono ?_) | (with_reducible refine (TL.out w2.heap.size (w2.heap.size + 1) w9 (by have := Q9.out; omega) (by have := Q9.out; omega) P9.out.1 P9.out.2).mono ?_)
        rintro e w8 ⟨v7, rfl, o7, b7⟩
        first | (have L8 : Hid (XD w.heap.size [.string mc, .int .i64 ip, .int .i64 po, .int .i64 di, .int .i64 st, .int .i64 un, .int .i64 nx, .int .i64 wa, .string inn, .string out, .bool fin] (w.heap.size + 1) [.int .i64 sp, .int .i64 dp, .int .i64 sq, .int .i64 ac, .int .i64 fl, .int .i64 wi, .string da] (w.heap.size + 1 + 1) [.string ⟨#[]⟩, .int .i64 0, .int .i64 0, .int .i64 0, .int .i64 0, .int .i64 0, .int .i64 0, .int .i64 0, .string ⟨#[]⟩, .string ⟨#[]⟩, .bool false] w w8) := L9.out.below b7; have NX : Bx w8 nb [.string ⟨#[]⟩, .int .i64 0, .int .i64 0, .int .i64 0, .int .i64 0, .int .i64 0, .int .i64 0, .int .i64 0, .string ⟨#[]⟩, .string ⟨#[]⟩, .bool false] := N9.below b7; have NE : Hid (∀ k, v7.ownBlock = some k → k ≠ nb) := (fun k hk => by have h1 := (o7.lt k hk).1; have h2 := S9.out; omega); have O8 : Hid (OwnS sgG 7 27 w8 (w.heap.size + 3) v7 XL) := o7.lower (HS.out _ L9.out)) | (have L8 : Hid (XD w.heap.size [.string mc, .int .i64 ip, .int .i64 po, .int .i64 di, .int .i64 st, .int .i64 un, .int .i64 nx, .int .i64 wa, .string inn, .string out, .bool fin] (w.heap.size + 1) [.int .i64 sp, .int .i64 dp, .int .i64 sq, .int .i64 ac, .int .i64 fl, .int .i64 wi, .string da] (w.heap.size + 1 + 1) [.string ⟨#[]⟩, .int .i64 0, .int .i64 0, .int .i64 0, .int .i64 0, .int .i64 0, .int .i64 0, .int .i64 0, .string ⟨#[]⟩, .string ⟨#[]⟩, .bool false] w w8) := L6.out.below b7; have NX : Bx w8 nb [.string ⟨#[]⟩, .int .i64 0, .int .i64 0, .int .i64 0, .int .i64 0, .int .i64 0, .int .i64 0, .int .i64 0, .string ⟨#[]⟩, .string ⟨#[]⟩, .bool false] := N6.below b7; have NE : Hid (∀ k, v7.ownBlock = some k → k ≠ nb) := (fun k hk => by have h1 := (o7.lt k hk).1; have h2 := S6.out; omega); have O8 : Hid (OwnS sgG 7 27 w8 (w.heap.size + 3) v7 XL) := o7.lower (HS.out _ L6.out))
        have zz0 : w8.cell? ⟨nb, 0, none⟩ = some (.string ⟨#[]⟩) := NX.cell 0 rfl
        have hh0 : w8.frozen? ⟨nb, 0, none⟩ = false := NX.thaw 0 (by simp)
        have zz1 : w8.cell? ⟨nb, 1, none⟩ = some (.int .i64 0) := NX.cell 1 rfl
        have hh1 : w8.frozen? ⟨nb, 1, none⟩ = false := NX.thaw 1 (by simp)
        have zz2 : w8.cell? ⟨nb, 2, none⟩ = some (.int .i64 0) := NX.cell 2 rfl
        have hh2 : w8.frozen? ⟨nb, 2, none⟩ = false := NX.thaw 2 (by simp)
        have zz3 : w8.cell? ⟨nb, 3, none⟩ = some (.int .i64 0) := NX.cell 3 rfl
        have hh3 : w8.frozen? ⟨nb, 3, none⟩ = false := NX.thaw 3 (by simp)
        have zz4 : w8.cell? ⟨nb, 4, none⟩ = some (.int .i64 0) := NX.cell 4 rfl
        have hh4 : w8.frozen? ⟨nb, 4, none⟩ = false := NX.thaw 4 (by simp)
        have zz5 : w8.cell? ⟨nb, 5, none⟩ = some (.int .i64 0) := NX.cell 5 rfl
        have hh5 : w8.frozen? ⟨nb, 5, none⟩ = false := NX.thaw 5 (by simp)
        have zz6 : w8.cell? ⟨nb, 6, none⟩ = some (.int .i64 0) := NX.cell 6 rfl
        have hh6 : w8.frozen? ⟨nb, 6, none⟩ = false := NX.thaw 6 (by simp)
        have zz7 : w8.cell? ⟨nb, 7, none⟩ = some (.int .i64 0) := NX.cell 7 rfl
        have hh7 : w8.frozen? ⟨nb, 7, none⟩ = false := NX.thaw 7 (by simp)
        have zz8 : w8.cell? ⟨nb, 8, none⟩ = some (.string ⟨#[]⟩) := NX.cell 8 rfl
        have hh8 : w8.frozen? ⟨nb, 8, none⟩ = false := NX.thaw 8 (by simp)
        have zz9 : w8.cell? ⟨nb, 9, none⟩ = some (.string ⟨#[]⟩) := NX.cell 9 rfl
        have hh9 : w8.frozen? ⟨nb, 9, none⟩ = false := NX.thaw 9 (by simp)
        have zz10 : w8.cell? ⟨nb, 10, none⟩ = some (.bool false) := NX.cell 10 rfl
        have hh10 : w8.frozen? ⟨nb, 10, none⟩ = false := NX.thaw 10 (by simp)
        clear b7 o7
        refine hK.out _ _ ?_ (fun hH1014 => ?_)
        · (try dsimp only)
          first | (with_reducible exact L8.out) | (with_reducible exact L9.out) | (with_reducible exact L7.out) | (with_reducible exact L6.out) | (with_reducible exact FRR.out _ _ G9 L8.out)
        clear hK K hH1013
        refine wpAnyH_take (i := 6) (v := ?v1015) rfl (by kernel_rfl) (by kernel_rfl) (by kernel_rfl) (fun _ _ _ h => h) (Or.inl ⟨by rfl, ?hy1015⟩) (by assumption) ?rest1015
        case hy1015 => (intro w hSw; (try dsimp only at hSw); go_simp; (try with_reducible rfl))
        refine wpAnyH_take (i := 7) (v := ?v1016) rfl (by kernel_rfl) (by kernel_rfl) (by kernel_rfl) (fun _ _ _ h => h) (Or.inl ⟨by rfl, ?hy1016⟩) (by assumption) ?rest1016
        case hy1016 => (intro w hSw; (try dsimp only at hSw); go_simp; (try with_reducible rfl))
        refine wpAnyH_take (i := 8) (v := ?v1017) rfl (by kernel_rfl) (by kernel_rfl) (by kernel_rfl) (fun _ _ _ h => h) (Or.inl ⟨by rfl, ?hy1017⟩) (by assumption) ?rest1017
        case hy1017 => (intro w hSw; (try dsimp only at hSw); go_simp; (try with_reducible rfl))
        refine wpAnyH_ready (rs := [10]) (by kernel_rfl) (by simp) ?_
        refine AllReadyH.cons rfl (fun K hK => ?_) ?_
        · go_simp
          refine hK.out _ _ ?_ (fun hH1018 => ?_)
          · (try dsimp only)
            first | (with_reducible exact L8.out) | (with_reducible exact L9.out) | (with_reducible exact L7.out) | (with_reducible exact L6.out) | (with_reducible exact FRR.out _ _ G9 L8.out)
          clear hK K hH1014
          refine wpAnyH_take (i := 11) (v := ?v1019) rfl (by kernel_rfl) (by kernel_rfl) (by kernel_rfl) (fun _ _ _ h => h) (Or.inl ⟨by rfl, ?hy1019⟩) (by assumption) ?rest1019
          case hy1019 => (intro w hSw; (try dsimp only at hSw); go_simp; (try with_reducible rfl))
          refine wpAnyH_done (by kernel_rfl) ?_ _
          have FZ : Hid (Bx (((((((((((w8.setCell ⟨nb, 0, none⟩ (.string xm)).setCell ⟨nb, 1, none⟩ (.int .i64 xi)).setCell ⟨nb, 2, none⟩ (.int .i64 xp)).setCell ⟨nb, 3, none⟩ (.int .i64 xd)).setCell ⟨nb, 4, none⟩ (.int .i64 xs)).setCell ⟨nb, 5, none⟩ (.int .i64 xu)).setCell ⟨nb, 6, none⟩ (.int .i64 xn)).setCell ⟨nb, 7, none⟩ (.int .i64 xw)).setCell ⟨nb, 8, none⟩ (.string xI)).setCell ⟨nb, 9, none⟩ (.string xO)).setCell ⟨nb, 10, none⟩ (.bool xF)) nb [.string xm, .int .i64 xi, .int .i64 xp, .int .i64 xd, .int .i64 xs, .int .i64 xu, .int .i64 xn, .int .i64 xw, .string xI, .string xO, .bool xF] ∧ XD w.heap.size [.string mc, .int .i64 ip, .int .i64 po, .int .i64 di, .int .i64 st, .int .i64 un, .int .i64 nx, .int .i64 wa, .string inn, .string out, .bool fin] (w.heap.size + 1) [.int .i64 sp, .int .i64 dp, .int .i64 sq, .int .i64 ac, .int .i64 fl, .int .i64 wi, .string da] (w.heap.size + 1 + 1) [.string ⟨#[]⟩, .int .i64 0, .int .i64 0, .int .i64 0, .int .i64 0, .int .i64 0, .int .i64 0, .int .i64 0, .string ⟨#[]⟩, .string ⟨#[]⟩, .bool false] w (((((((((((w8.setCell ⟨nb, 0, none⟩ (.string xm)).setCell ⟨nb, 1, none⟩ (.int .i64 xi)).setCell ⟨nb, 2, none⟩ (.int .i64 xp)).setCell ⟨nb, 3, none⟩ (.int .i64 xd)).setCell ⟨nb, 4, none⟩ (.int .i64 xs)).setCell ⟨nb, 5, none⟩ (.int .i64 xu)).setCell ⟨nb, 6, none⟩ (.int .i64 xn)).setCell ⟨nb, 7, none⟩ (.int .i64 xw)).setCell ⟨nb, 8, none⟩ (.string xI)).setCell ⟨nb, 9, none⟩ (.string xO)).setCell ⟨nb, 10, none⟩ (.bool xF)) ∧ OwnS sgG 7 27 (((((((((((w8.setCell ⟨nb, 0, none⟩ (.string xm)).setCell ⟨nb, 1, none⟩ (.int .i64 xi)).setCell ⟨nb, 2, none⟩ (.int .i64 xp)).setCell ⟨nb, 3, none⟩ (.int .i64 xd)).setCell ⟨nb, 4, none⟩ (.int .i64 xs)).setCell ⟨nb, 5, none⟩ (.int .i64 xu)).setCell ⟨nb, 6, none⟩ (.int .i64 xn)).setCell ⟨nb, 7, none⟩ (.int .i64 xw)).setCell ⟨nb, 8, none⟩ (.string xI)).setCell ⟨nb, 9, none⟩ (.string xO)).setCell ⟨nb, 10, none⟩ (.bool xF)) (w.heap.size + 3) v7 XL) := ⟨(((((((((((NX.field 0 (.string xm)).field 1 (.int .i64 xi)).field 2 (.int .i64 xp)).field 3 (.int .i64 xd)).field 4 (.int .i64 xs)).field 5 (.int .i64 xu)).field 6 (.int .i64 xn)).field 7 (.int .i64 xw)).field 8 (.string xI)).field 9 (.string xO)).field 10 (.bool xF)), FRR.out _ _ G9 L8.out, (((((((((((O8.out.apart9 ⟨nb, 0, none⟩ (.string xm) NE.out).apart9 ⟨nb, 1, none⟩ (.int .i64 xi) NE.out).apart9 ⟨nb, 2, none⟩ (.int .i64 xp) NE.out).apart9 ⟨nb, 3, none⟩ (.int .i64 xd) NE.out).apart9 ⟨nb, 4, none⟩ (.int .i64 xs) NE.out).apart9 ⟨nb, 5, none⟩ (.int .i64 xu) NE.out).apart9 ⟨nb, 6, none⟩ (.int .i64 xn) NE.out).apart9 ⟨nb, 7, none⟩ (.int .i64 xw) NE.out).apart9 ⟨nb, 8, none⟩ (.string xI) NE.out).apart9 ⟨nb, 9, none⟩ (.string xO) NE.out).apart9 ⟨nb, 10, none⟩ (.bool xF) NE.out)⟩
          clear hH1018 zz0 hh0 zz1 hh1 zz2 hh2 zz3 hh3 zz4 hh4 zz5 hh5 zz6 hh6 zz7 hh7 zz8 hh8 zz9 hh9 zz10 hh10 NX L8 O8 FRR
          generalize (((((((((((w8.setCell ⟨nb, 0, none⟩ (.string xm)).setCell ⟨nb, 1, none⟩ (.int .i64 xi)).setCell ⟨nb, 2, none⟩ (.int .i64 xp)).setCell ⟨nb, 3, none⟩ (.int .i64 xd)).setCell ⟨nb, 4, none⟩ (.int .i64 xs)).setCell ⟨nb, 5, none⟩ (.int .i64 xu)).setCell ⟨nb, 6, none⟩ (.int .i64 xn)).setCell ⟨nb, 7, none⟩ (.int .i64 xw)).setCell ⟨nb, 8, none⟩ (.string xI)).setCell ⟨nb, 9, none⟩ (.string xO)).setCell ⟨nb, 10, none⟩ (.bool xF)) = wz at FZ ⊢
          have CZ : Bx wz nb [.string xm, .int .i64 xi, .int .i64 xp, .int .i64 xd, .int .i64 xs, .int .i64 xu, .int .i64 xn, .int .i64 xw, .string xI, .string xO, .bool xF] := FZ.out.1
          have RZ : Bx wz (w.heap.size + 1 + 1) [.string ⟨#[]⟩, .int .i64 0, .int .i64 0, .int .i64 0, .int .i64 0, .int .i64 0, .int .i64 0, .int .i64 0, .string ⟨#[]⟩, .string ⟨#[]⟩, .bool false] := FZ.out.2.1.r
          have BZ9 : Hid (Below w.heap.size w wz) := FZ.out.2.1.out
          have OZ : Hid (OwnS sgG 7 27 wz (w.heap.size + 3) v7 XL) := FZ.out.2.2
          go_wp2_with (first | (refine wpl_put rfl _ _ rfl (w.heap.size + 1 + 1) _ rfl rfl RZ rfl rfl rfl ?_; intro w5 hw5 R5; have B5 : Hid (Below w.heap.size w w5) := (by rw [hw5]; exact below_cells (by omega) _ _ _ BZ9.out); have O5 : Hid (OwnS sgG 7 27 w5 w.heap.size v7 XL) := (by rw [hw5]; exact (own_cells (by omega) _ _ _ OZ.out).lower (by omega)); clear hw5) | (refine wpl_get rfl _ rfl _ rfl (by assumption) rfl ?_) | fail)
          have xx0 : w5.cell? ⟨w.heap.size + 1 + 1, 0, none⟩ = some (.string xm) := R5.cell 0 rfl
          have xx1 : w5.cell? ⟨w.heap.size + 1 + 1, 1, none⟩ = some (.int .i64 xi) := R5.cell 1 rfl
          have xx2 : w5.cell? ⟨w.heap.size + 1 + 1, 2, none⟩ = some (.int .i64 xp) := R5.cell 2 rfl
          have xx3 : w5.cell? ⟨w.heap.size + 1 + 1, 3, none⟩ = some (.int .i64 xd) := R5.cell 3 rfl
          have xx4 : w5.cell? ⟨w.heap.size + 1 + 1, 4, none⟩ = some (.int .i64 xs) := R5.cell 4 rfl
          have xx5 : w5.cell? ⟨w.heap.size + 1 + 1, 5, none⟩ = some (.int .i64 xu) := R5.cell 5 rfl
          have xx6 : w5.cell? ⟨w.heap.size + 1 + 1, 6, none⟩ = some (.int .i64 xn) := R5.cell 6 rfl
          have xx7 : w5.cell? ⟨w.heap.size + 1 + 1, 7, none⟩ = some (.int .i64 xw) := R5.cell 7 rfl
          have xx8 : w5.cell? ⟨w.heap.size + 1 + 1, 8, none⟩ = some (.string xI) := R5.cell 8 rfl
          have xx9 : w5.cell? ⟨w.heap.size + 1 + 1, 9, none⟩ = some (.string xO) := R5.cell 9 rfl
          have xx10 : w5.cell? ⟨w.heap.size + 1 + 1, 10, none⟩ = some (.bool xF) := R5.cell 10 rfl
          (try simp only [Exit.inBlock, Exit.then])
          refine bodyPost_ret (v := .tuple #[.agg #[.string xm, .int .i64 xi, .int .i64 xp, .int .i64 xd, .int .i64 xs, .int .i64 xu, .int .i64 xn, .int .i64 xw, .string xI, .string xO, .bool xF], v7, .int .i64 0]) (by simp [results, Try.results8, go_sem, xx0, xx1, xx2, xx3, xx4, xx5, xx6, xx7, xx8, xx9, xx10]; try rfl) rfl ?_
          exact ⟨_, rfl, O5.out, B5.out⟩
        exact AllReadyH.nil
      exact AllReadyH.nil
    exact AllReadyH.nil
  refine AllReadyH.cons rfl (fun K hK => ?_) ?_
  · go_simp
    have N9 : Bx (w2.alloc (.cells #[.string ⟨#[]⟩, .int .i64 0, .int .i64 0, .int .i64 0, .int .i64 0, .int .i64 0, .int .i64 0, .int .i64 0, .string ⟨#[]⟩, .string ⟨#[]⟩, .bool false] 24)).drew w2.heap.size [.string ⟨#[]⟩, .int .i64 0, .int .i64 0, .int .i64 0, .int .i64 0, .int .i64 0, .int .i64 0, .int .i64 0, .string ⟨#[]⟩, .string ⟨#[]⟩, .bool false] := (Bx.new w2 #[.string ⟨#[]⟩, .int .i64 0, .int .i64 0, .int .i64 0, .int .i64 0, .int .i64 0, .int .i64 0, .int .i64 0, .string ⟨#[]⟩, .string ⟨#[]⟩, .bool false] _).below ((Below.refl _ _).drew)
    have L9 : Hid (XD w.heap.size [.string mc, .int .i64 ip, .int .i64 po, .int .i64 di, .int .i64 st, .int .i64 un, .int .i64 nx, .int .i64 wa, .string inn, .string out, .bool fin] (w.heap.size + 1) [.int .i64 sp, .int .i64 dp, .int .i64 sq, .int .i64 ac, .int .i64 fl, .int .i64 wi, .string da] (w.heap.size + 1 + 1) [.string ⟨#[]⟩, .int .i64 0, .int .i64 0, .int .i64 0, .int .i64 0, .int .i64 0, .int .i64 0, .int .i64 0, .string ⟨#[]⟩, .string ⟨#[]⟩, .bool false] w (w2.alloc (.cells #[.string ⟨#[]⟩, .int .i64 0, .int .i64 0, .int .i64 0, .int .i64 0, .int .i64 0, .int .i64 0, .int .i64 0, .string ⟨#[]⟩, .string ⟨#[]⟩, .bool false] 24)).drew) := SS2.out.below (((Below.refl _ _).alloc (Nat.le_refl _) _).drew)
    have S9 : Hid (w2.heap.size < (w2.alloc (.cells #[.string ⟨#[]⟩, .int .i64 0, .int .i64 0, .int .i64 0, .int .i64 0, .int .i64 0, .int .i64 0, .int .i64 0, .string ⟨#[]⟩, .string ⟨#[]⟩, .bool false] 24)).drew.heap.size) := by show _ < _; simp
    have G9 : w.heap.size + 3 ≤ w2.heap.size := H2
    generalize (w2.alloc (.cells #[.string ⟨#[]⟩, .int .i64 0, .int .i64 0, .int .i64 0, .int .i64 0, .int .i64 0, .int .i64 0, .int .i64 0, .string ⟨#[]⟩, .string ⟨#[]⟩, .bool false] 24)).drew = w9 at N9 L9 S9 ⊢
    obtain ⟨nb, hnb⟩ : ∃ nb, nb = w2.heap.size := ⟨_, rfl⟩
    rw [← hnb] at N9 S9 G9 ⊢
    clear hnb
    refine hK.out _ _ ?_ (fun hH1020 => ?_)
    · (try dsimp only)
      first | (with_reducible exact L8.out) | (with_reducible exact L9.out) | (with_reducible exact L7.out) | (with_reducible exact L6.out) | (with_reducible exact FRR.out _ _ G9 L8.out)
    clear hK K hH0
    refine wpAnyH_ready (rs := [2]) (by kernel_rfl) (by simp) ?_
    refine AllReadyH.cons rfl (fun K hK => ?_) ?_
    · go_simp
      go_at_call 34
      with_reducible refine (TC.out _).mono ?_
      rintro e w6 ⟨rfl, hp⟩
      have b6 : Below w9.heap.size w9 w6 := hp.2.2.2
      have P6 : Hid (w6.cell? ⟨w9.heap.size, 0, none⟩ = some (.func (.func 68) #[] #[]) ∧ w6.cell? ⟨w9.heap.size + 1, 0, none⟩ = some (.func (.func 69) #[] #[])) := ⟨hp.1, hp.2.1⟩
      have Q6 : Hid (w9.heap.size + 2 ≤ w6.heap.size) := hp.2.2.1
      clear hp
      have L6 : Hid (XD w.heap.size [.string mc, .int .i64 ip, .int .i64 po, .int .i64 di, .int .i64 st, .int .i64 un, .int .i64 nx, .int .i64 wa, .string inn, .string out, .bool fin] (w.heap.size + 1) [.int .i64 sp, .int .i64 dp, .int .i64 sq, .int .i64 ac, .int .i64 fl, .int .i64 wi, .string da] (w.heap.size + 1 + 1) [.string ⟨#[]⟩, .int .i64 0, .int .i64 0, .int .i64 0, .int .i64 0, .int .i64 0, .int .i64 0, .int .i64 0, .string ⟨#[]⟩, .string ⟨#[]⟩, .bool false] w w6) := L9.out.below b6
      have N6 : Bx w6 nb [.string ⟨#[]⟩, .int .i64 0, .int .i64 0, .int .i64 0, .int .i64 0, .int .i64 0, .int .i64 0, .int .i64 0, .string ⟨#[]⟩, .string ⟨#[]⟩, .bool false] := N9.below b6
      have S6 : Hid (nb < w6.heap.size) := Nat.lt_of_lt_of_le S9.out b6.size
      clear N9 L9 S9
      clear b6
      refine hK.out _ _ ?_ (fun hH1021 => ?_)
      · (try dsimp only)
        first | (with_reducible exact L8.out) | (with_reducible exact L9.out) | (with_reducible exact L7.out) | (with_reducible exact L6.out) | (with_reducible exact FRR.out _ _ G9 L8.out)
      clear hK K hH1020
      refine wpAnyH_ready (rs := [5]) (by kernel_rfl) (by simp) ?_
      refine AllReadyH.cons rfl (fun K hK => ?_) ?_
      · go_simp
        go_at_call 82
        first | (with_reducible refine (TL.out w9.heap.size (w9.heap.size + 1) w6 (by have := Q6.out; omega) (by have := Q6.out; omega) P6.out.1 P6.out.2).mono ?_) | (with_reducible refine (TL.out w2.heap.size (w2.heap.size + 1) w9 (by have := Q9.out; omega) (by have := Q9.out; omega) P9.out.1 P9.out.2).mono ?_)
        rintro e w8 ⟨v7, rfl, o7, b7⟩
        first | (have L8 : Hid (XD w.heap.size [.string mc, .int .i64 ip, .int .i64 po, .int .i64 di, .int .i64 st, .int .i64 un, .int .i64 nx, .int .i64 wa, .string inn, .string out, .bool fin] (w.heap.size + 1) [.int .i64 sp, .int .i64 dp, .int .i64 sq, .int .i64 ac, .int .i64 fl, .int .i64 wi, .string da] (w.heap.size + 1 + 1) [.string ⟨#[]⟩, .int .i64 0, .int .i64 0, .int .i64 0, .int .i64 0, .int .i64 0, .int .i64 0, .int .i64 0, .string ⟨#[]⟩, .string ⟨#[]⟩, .bool false] w w8) := L9.out.below b7; have NX : Bx w8 nb [.string ⟨#[]⟩, .int .i64 0, .int .i64 0, .int .i64 0, .int .i64 0, .int .i64 0, .int .i64 0, .int .i64 0, .string ⟨#[]⟩, .string ⟨#[]⟩, .bool false] := N9.below b7; have NE : Hid (∀ k, v7.ownBlock = some k → k ≠ nb) := (fun k hk => by have h1 := (o7.lt k hk).1; have h2 := S9.out; omega); have O8 : Hid (OwnS sgG 7 27 w8 (w.heap.size + 3) v7 XL) := o7.lower (HS.out _ L9.out)) | (have L8 : Hid (XD w.heap.size [.string mc, .int .i64 ip, .int .i64 po, .int .i64 di, .int .i64 st, .int .i64 un, .int .i64 nx, .int .i64 wa, .string inn, .string out, .bool fin] (w.heap.size + 1) [.int .i64 sp, .int .i64 dp, .int .i64 sq, .int .i64 ac, .int .i64 fl, .int .i64 wi, .string da] (w.heap.size + 1 + 1) [.string ⟨#[]⟩, .int .i64 0, .int .i64 0, .int .i64 0, .int .i64 0, .int .i64 0, .int .i64 0, .int .i64 0, .string ⟨#[]⟩, .string ⟨#[]⟩, .bool false] w w8) := L6.out.below b7; have NX : Bx w8 nb [.string ⟨#[]⟩, .int .i64 0, .int .i64 0, .int .i64 0, .int .i64 0, .int .i64 0, .int .i64 0, .int .i64 0, .string ⟨#[]⟩, .string ⟨#[]⟩, .bool false] := N6.below b7; have NE : Hid (∀ k, v7.ownBlock = some k → k ≠ nb) := (fun k hk => by have h1 := (o7.lt k hk).1; have h2 := S6.out; omega); have O8 : Hid (OwnS sgG 7 27 w8 (w.heap.size + 3) v7 XL) := o7.lower (HS.out _ L6.out))
        have zz0 : w8.cell? ⟨nb, 0, none⟩ = some (.string ⟨#[]⟩) := NX.cell 0 rfl
        have hh0 : w8.frozen? ⟨nb, 0, none⟩ = false := NX.thaw 0 (by simp)
        have zz1 : w8.cell? ⟨nb, 1, none⟩ = some (.int .i64 0) := NX.cell 1 rfl
        have hh1 : w8.frozen? ⟨nb, 1, none⟩ = false := NX.thaw 1 (by simp)
        have zz2 : w8.cell? ⟨nb, 2, none⟩ = some (.int .i64 0) := NX.cell 2 rfl
        have hh2 : w8.frozen? ⟨nb, 2, none⟩ = false := NX.thaw 2 (by simp)
        have zz3 : w8.cell? ⟨nb, 3, none⟩ = some (.int .i64 0) := NX.cell 3 rfl
        have hh3 : w8.frozen? ⟨nb, 3, none⟩ = false := NX.thaw 3 (by simp)
        have zz4 : w8.cell? ⟨nb, 4, none⟩ = some (.int .i64 0) := NX.cell 4 rfl
        have hh4 : w8.frozen? ⟨nb, 4, none⟩ = false := NX.thaw 4 (by simp)
        have zz5 : w8.cell? ⟨nb, 5, none⟩ = some (.int .i64 0) := NX.cell 5 rfl
        have hh5 : w8.frozen? ⟨nb, 5, none⟩ = false := NX.thaw 5 (by simp)
        have zz6 : w8.cell? ⟨nb, 6, none⟩ = some (.int .i64 0) := NX.cell 6 rfl
        have hh6 : w8.frozen? ⟨nb, 6, none⟩ = false := NX.thaw 6 (by simp)
        have zz7 : w8.cell? ⟨nb, 7, none⟩ = some (.int .i64 0) := NX.cell 7 rfl
        have hh7 : w8.frozen? ⟨nb, 7, none⟩ = false := NX.thaw 7 (by simp)
        have zz8 : w8.cell? ⟨nb, 8, none⟩ = some (.string ⟨#[]⟩) := NX.cell 8 rfl
        have hh8 : w8.frozen? ⟨nb, 8, none⟩ = false := NX.thaw 8 (by simp)
        have zz9 : w8.cell? ⟨nb, 9, none⟩ = some (.string ⟨#[]⟩) := NX.cell 9 rfl
        have hh9 : w8.frozen? ⟨nb, 9, none⟩ = false := NX.thaw 9 (by simp)
        have zz10 : w8.cell? ⟨nb, 10, none⟩ = some (.bool false) := NX.cell 10 rfl
        have hh10 : w8.frozen? ⟨nb, 10, none⟩ = false := NX.thaw 10 (by simp)
        clear b7 o7
        refine hK.out _ _ ?_ (fun hH1022 => ?_)
        · (try dsimp only)
          first | (with_reducible exact L8.out) | (with_reducible exact L9.out) | (with_reducible exact L7.out) | (with_reducible exact L6.out) | (with_reducible exact FRR.out _ _ G9 L8.out)
        clear hK K hH1021
        refine wpAnyH_take (i := 6) (v := ?v1023) rfl (by kernel_rfl) (by kernel_rfl) (by kernel_rfl) (fun _ _ _ h => h) (Or.inl ⟨by rfl, ?hy1023⟩) (by assumption) ?rest1023
        case hy1023 => (intro w hSw; (try dsimp only at hSw); go_simp; (try with_reducible rfl))
        refine wpAnyH_take (i := 7) (v := ?v1024) rfl (by kernel_rfl) (by kernel_rfl) (by kernel_rfl) (fun _ _ _ h => h) (Or.inl ⟨by rfl, ?hy1024⟩) (by assumption) ?rest1024
        case hy1024 => (intro w hSw; (try dsimp only at hSw); go_simp; (try with_reducible rfl))
        refine wpAnyH_take (i := 8) (v := ?v1025) rfl (by kernel_rfl) (by kernel_rfl) (by kernel_rfl) (fun _ _ _ h => h) (Or.inl ⟨by rfl, ?hy1025⟩) (by assumption) ?rest1025
        case hy1025 => (intro w hSw; (try dsimp only at hSw); go_simp; (try with_reducible rfl))
        refine wpAnyH_ready (rs := [10]) (by kernel_rfl) (by simp) ?_
        refine AllReadyH.cons rfl (fun K hK => ?_) ?_
        · go_simp
          refine hK.out _ _ ?_ (fun hH1026 => ?_)
          · (try dsimp only)
            first | (with_reducible exact L8.out) | (with_reducible exact L9.out) | (with_reducible exact L7.out) | (with_reducible exact L6.out) | (with_reducible exact FRR.out _ _ G9 L8.out)
          clear hK K hH1022
          refine wpAnyH_take (i := 11) (v := ?v1027) rfl (by kernel_rfl) (by kernel_rfl) (by kernel_rfl) (fun _ _ _ h => h) (Or.inl ⟨by rfl, ?hy1027⟩) (by assumption) ?rest1027
          case hy1027 => (intro w hSw; (try dsimp only at hSw); go_simp; (try with_reducible rfl))
          refine wpAnyH_done (by kernel_rfl) ?_ _
          have FZ : Hid (Bx (((((((((((w8.setCell ⟨nb, 0, none⟩ (.string xm)).setCell ⟨nb, 1, none⟩ (.int .i64 xi)).setCell ⟨nb, 2, none⟩ (.int .i64 xp)).setCell ⟨nb, 3, none⟩ (.int .i64 xd)).setCell ⟨nb, 4, none⟩ (.int .i64 xs)).setCell ⟨nb, 5, none⟩ (.int .i64 xu)).setCell ⟨nb, 6, none⟩ (.int .i64 xn)).setCell ⟨nb, 7, none⟩ (.int .i64 xw)).setCell ⟨nb, 8, none⟩ (.string xI)).setCell ⟨nb, 9, none⟩ (.string xO)).setCell ⟨nb, 10, none⟩ (.bool xF)) nb [.string xm, .int .i64 xi, .int .i64 xp, .int .i64 xd, .int .i64 xs, .int .i64 xu, .int .i64 xn, .int .i64 xw, .string xI, .string xO, .bool xF] ∧ XD w.heap.size [.string mc, .int .i64 ip, .int .i64 po, .int .i64 di, .int .i64 st, .int .i64 un, .int .i64 nx, .int .i64 wa, .string inn, .string out, .bool fin] (w.heap.size + 1) [.int .i64 sp, .int .i64 dp, .int .i64 sq, .int .i64 ac, .int .i64 fl, .int .i64 wi, .string da] (w.heap.size + 1 + 1) [.string ⟨#[]⟩, .int .i64 0, .int .i64 0, .int .i64 0, .int .i64 0, .int .i64 0, .int .i64 0, .int .i64 0, .string ⟨#[]⟩, .string ⟨#[]⟩, .bool false] w (((((((((((w8.setCell ⟨nb, 0, none⟩ (.string xm)).setCell ⟨nb, 1, none⟩ (.int .i64 xi)).setCell ⟨nb, 2, none⟩ (.int .i64 xp)).setCell ⟨nb, 3, none⟩ (.int .i64 xd)).setCell ⟨nb, 4, none⟩ (.int .i64 xs)).setCell ⟨nb, 5, none⟩ (.int .i64 xu)).setCell ⟨nb, 6, none⟩ (.int .i64 xn)).setCell ⟨nb, 7, none⟩ (.int .i64 xw)).setCell ⟨nb, 8, none⟩ (.string xI)).setCell ⟨nb, 9, none⟩ (.string xO)).setCell ⟨nb, 10, none⟩ (.bool xF)) ∧ OwnS sgG 7 27 (((((((((((w8.setCell ⟨nb, 0, none⟩ (.string xm)).setCell ⟨nb, 1, none⟩ (.int .i64 xi)).setCell ⟨nb, 2, none⟩ (.int .i64 xp)).setCell ⟨nb, 3, none⟩ (.int .i64 xd)).setCell ⟨nb, 4, none⟩ (.int .i64 xs)).setCell ⟨nb, 5, none⟩ (.int .i64 xu)).setCell ⟨nb, 6, none⟩ (.int .i64 xn)).setCell ⟨nb, 7, none⟩ (.int .i64 xw)).setCell ⟨nb, 8, none⟩ (.string xI)).setCell ⟨nb, 9, none⟩ (.string xO)).setCell ⟨nb, 10, none⟩ (.bool xF)) (w.heap.size + 3) v7 XL) := ⟨(((((((((((NX.field 0 (.string xm)).field 1 (.int .i64 xi)).field 2 (.int .i64 xp)).field 3 (.int .i64 xd)).field 4 (.int .i64 xs)).field 5 (.int .i64 xu)).field 6 (.int .i64 xn)).field 7 (.int .i64 xw)).field 8 (.string xI)).field 9 (.string xO)).field 10 (.bool xF)), FRR.out _ _ G9 L8.out, (((((((((((O8.out.apart9 ⟨nb, 0, none⟩ (.string xm) NE.out).apart9 ⟨nb, 1, none⟩ (.int .i64 xi) NE.out).apart9 ⟨nb, 2, none⟩ (.int .i64 xp) NE.out).apart9 ⟨nb, 3, none⟩ (.int .i64 xd) NE.out).apart9 ⟨nb, 4, none⟩ (.int .i64 xs) NE.out).apart9 ⟨nb, 5, none⟩ (.int .i64 xu) NE.out).apart9 ⟨nb, 6, none⟩ (.int .i64 xn) NE.out).apart9 ⟨nb, 7, none⟩ (.int .i64 xw) NE.out).apart9 ⟨nb, 8, none⟩ (.string xI) NE.out).apart9 ⟨nb, 9, none⟩ (.string xO) NE.out).apart9 ⟨nb, 10, none⟩ (.bool xF) NE.out)⟩
          clear hH1026 zz0 hh0 zz1 hh1 zz2 hh2 zz3 hh3 zz4 hh4 zz5 hh5 zz6 hh6 zz7 hh7 zz8 hh8 zz9 hh9 zz10 hh10 NX L8 O8 FRR
          generalize (((((((((((w8.setCell ⟨nb, 0, none⟩ (.string xm)).setCell ⟨nb, 1, none⟩ (.int .i64 xi)).setCell ⟨nb, 2, none⟩ (.int .i64 xp)).setCell ⟨nb, 3, none⟩ (.int .i64 xd)).setCell ⟨nb, 4, none⟩ (.int .i64 xs)).setCell ⟨nb, 5, none⟩ (.int .i64 xu)).setCell ⟨nb, 6, none⟩ (.int .i64 xn)).setCell ⟨nb, 7, none⟩ (.int .i64 xw)).setCell ⟨nb, 8, none⟩ (.string xI)).setCell ⟨nb, 9, none⟩ (.string xO)).setCell ⟨nb, 10, none⟩ (.bool xF)) = wz at FZ ⊢
          have CZ : Bx wz nb [.string xm, .int .i64 xi, .int .i64 xp, .int .i64 xd, .int .i64 xs, .int .i64 xu, .int .i64 xn, .int .i64 xw, .string xI, .string xO, .bool xF] := FZ.out.1
          have RZ : Bx wz (w.heap.size + 1 + 1) [.string ⟨#[]⟩, .int .i64 0, .int .i64 0, .int .i64 0, .int .i64 0, .int .i64 0, .int .i64 0, .int .i64 0, .string ⟨#[]⟩, .string ⟨#[]⟩, .bool false] := FZ.out.2.1.r
          have BZ9 : Hid (Below w.heap.size w wz) := FZ.out.2.1.out
          have OZ : Hid (OwnS sgG 7 27 wz (w.heap.size + 3) v7 XL) := FZ.out.2.2
          go_wp2_with (first | (refine wpl_put rfl _ _ rfl (w.heap.size + 1 + 1) _ rfl rfl RZ rfl rfl rfl ?_; intro w5 hw5 R5; have B5 : Hid (Below w.heap.size w w5) := (by rw [hw5]; exact below_cells (by omega) _ _ _ BZ9.out); have O5 : Hid (OwnS sgG 7 27 w5 w.heap.size v7 XL) := (by rw [hw5]; exact (own_cells (by omega) _ _ _ OZ.out).lower (by omega)); clear hw5) | (refine wpl_get rfl _ rfl _ rfl (by assumption) rfl ?_) | fail)
          have xx0 : w5.cell? ⟨w.heap.size + 1 + 1, 0, none⟩ = some (.string xm) := R5.cell 0 rfl
          have xx1 : w5.cell? ⟨w.heap.size + 1 + 1, 1, none⟩ = some (.int .i64 xi) := R5.cell 1 rfl
          have xx2 : w5.cell? ⟨w.heap.size + 1 + 1, 2, none⟩ = some (.int .i64 xp) := R5.cell 2 rfl
          have xx3 : w5.cell? ⟨w.heap.size + 1 + 1, 3, none⟩ = some (.int .i64 xd) := R5.cell 3 rfl
          have xx4 : w5.cell? ⟨w.heap.size + 1 + 1, 4, none⟩ = some (.int .i64 xs) := R5.cell 4 rfl
          have xx5 : w5.cell? ⟨w.heap.size + 1 + 1, 5, none⟩ = some (.int .i64 xu) := R5.cell 5 rfl
          have xx6 : w5.cell? ⟨w.heap.size + 1 + 1, 6, none⟩ = some (.int .i64 xn) := R5.cell 6 rfl
          have xx7 : w5.cell? ⟨w.heap.size + 1 + 1, 7, none⟩ = some (.int .i64 xw) := R5.cell 7 rfl
          have xx8 : w5.cell? ⟨w.heap.size + 1 + 1, 8, none⟩ = some (.string xI) := R5.cell 8 rfl
          have xx9 : w5.cell? ⟨w.heap.size + 1 + 1, 9, none⟩ = some (.string xO) := R5.cell 9 rfl
          have xx10 : w5.cell? ⟨w.heap.size + 1 + 1, 10, none⟩ = some (.bool xF) := R5.cell 10 rfl
          (try simp only [Exit.inBlock, Exit.then])
          refine bodyPost_ret (v := .tuple #[.agg #[.string xm, .int .i64 xi, .int .i64 xp, .int .i64 xd, .int .i64 xs, .int .i64 xu, .int .i64 xn, .int .i64 xw, .string xI, .string xO, .bool xF], v7, .int .i64 0]) (by simp [results, Try.results8, go_sem, xx0, xx1, xx2, xx3, xx4, xx5, xx6, xx7, xx8, xx9, xx10]; try rfl) rfl ?_
          exact ⟨_, rfl, O5.out, B5.out⟩
        exact AllReadyH.nil
      exact AllReadyH.nil
    exact AllReadyH.nil
  exact AllReadyH.nil
set_option maxHeartbeats 16000000 in
theorem implTk_T3 (mc : ByteArray) (ip po di st un nx wa : Int) (inn out : ByteArray) (fin : Bool) (sp dp sq ac fl wi : Int) (da : ByteArray) (xm : ByteArray) (xi xp xd xs xu xn xw : Int) (xI xO : ByteArray) (xF : Bool) (XL : List SegV) (w : World) (hp : po ≤ 9223372036854775807) (hmc : mc.size ≤ 1048576) (hi : inn.size ≤ 1048576) (ho : out.size ≤ 1048576) (hs : sp ≤ 9223372036854775807) (hd : dp ≤ 9223372036854775807) (hq : sq ≤ 9223372036854775807) (ha : ac ≤ 9223372036854775807) (hw : wi ≤ 9223372036854775807) (hda : da.size ≤ 9223372036854775807) (hok : okB ⟨mc, ip, po, di, st, un, nx, wa, inn, out, fin⟩ = true) (hsg : sgB ⟨sp, dp, sq, ac, fl, wi, da⟩ = true) (hst : st = 3) (TL0 : ∀ (p2 p3 : Nat) (w : World), p2 < w.heap.size → p3 < w.heap.size → w.cell? ⟨p2, 0, none⟩ = some (.func (.func 68) #[] #[]) → w.cell? ⟨p3, 0, none⟩ = some (.func (.func 69) #[] #[]) → Calls Try.prog 82 #[.agg #[.string mc, .int .i64 ip, .int .i64 po, .int .i64 di, .int .i64 st, .int .i64 un, .int .i64 nx, .int .i64 wa, .string inn, .string out, .bool fin], .agg #[.int .i64 sp, .int .i64 dp, .int .i64 sq, .int .i64 ac, .int .i64 fl, .int .i64 wi, .string da], .pointer (some ⟨p2, 0, none⟩), .pointer (some ⟨p3, 0, none⟩)] w fun e w' => ∃ v, e = .returned (.tuple #[.agg #[.string xm, .int .i64 xi, .int .i64 xp, .int .i64 xd, .int .i64 xs, .int .i64 xu, .int .i64 xn, .int .i64 xw, .string xI, .string xO, .bool xF], v]) ∧ OwnS sgG 7 27 w' w.heap.size v XL ∧ Below w.heap.size w w') :
    Calls Try.prog 8 #[.agg #[.string mc, .int .i64 ip, .int .i64 po, .int .i64 di, .int .i64 st, .int .i64 un, .int .i64 nx, .int .i64 wa, .string inn, .string out, .bool fin], .agg #[.int .i64 sp, .int .i64 dp, .int .i64 sq, .int .i64 ac, .int .i64 fl, .int .i64 wi, .string da]] w fun e w' => ∃ v, e = .returned (.tuple #[.agg #[.string xm, .int .i64 xi, .int .i64 xp, .int .i64 xd, .int .i64 xs, .int .i64 xu, .int .i64 xn, .int .i64 xw, .string xI, .string xO, .bool xF], v, .int .i64 0]) ∧ OwnS sgG 7 27 w' w.heap.size v XL ∧ Below w.heap.size w w' := by
  have TK : Hid (∀ w, Calls Try.prog 11 #[.agg #[.string mc, .int .i64 ip, .int .i64 po, .int .i64 di, .int .i64 st, .int .i64 un, .int .i64 nx, .int .i64 wa, .string inn, .string out, .bool fin]] w fun e w' => e = .returned (.bool true) ∧ Grw w w') := fun w => by rw [← hok]; exact implConOK_any mc ip po di st un nx wa inn out fin w hp hmc hi ho
  have TSG : Hid (∀ w, Calls Try.prog 33 #[.agg #[.int .i64 sp, .int .i64 dp, .int .i64 sq, .int .i64 ac, .int .i64 fl, .int .i64 wi, .string da]] w fun e w' => e = .returned (.bool true) ∧ Grw w w') := fun w => by rw [← hsg]; exact segOK9_any sp dp sq ac fl wi da w hs hd hq ha hw hda
  have TC : Hid (∀ w, Calls Try.prog 34 #[.int .i64 st] w fun e w' => e = .returned (.func (.func 82) #[] #[.pointer (some ⟨w.heap.size, 0, none⟩), .pointer (some ⟨w.heap.size + 1, 0, none⟩)]) ∧ (w'.cell? ⟨w.heap.size, 0, none⟩ = some (.func (.func 68) #[] #[]) ∧ w'.cell? ⟨w.heap.size + 1, 0, none⟩ = some (.func (.func 69) #[] #[]) ∧ w.heap.size + 2 ≤ w'.heap.size ∧ Below w.heap.size w w')) := fun w => connT3 st w hst
  have TL : Hid (∀ (p2 p3 : Nat) (w : World), p2 < w.heap.size → p3 < w.heap.size → w.cell? ⟨p2, 0, none⟩ = some (.func (.func 68) #[] #[]) → w.cell? ⟨p3, 0, none⟩ = some (.func (.func 69) #[] #[]) → Calls Try.prog 82 #[.agg #[.string mc, .int .i64 ip, .int .i64 po, .int .i64 di, .int .i64 st, .int .i64 un, .int .i64 nx, .int .i64 wa, .string inn, .string out, .bool fin], .agg #[.int .i64 sp, .int .i64 dp, .int .i64 sq, .int .i64 ac, .int .i64 fl, .int .i64 wi, .string da], .pointer (some ⟨p2, 0, none⟩), .pointer (some ⟨p3, 0, none⟩)] w fun e w' => ∃ v, e = .returned (.tuple #[.agg #[.string xm, .int .i64 xi, .int .i64 xp, .int .i64 xd, .int .i64 xs, .int .i64 xu, .int .i64 xn, .int .i64 xw, .string xI, .string xO, .bool xF], v]) ∧ OwnS sgG 7 27 w' w.heap.size v XL ∧ Below w.heap.size w w') := TL0
  clear TL0 hst hok hsg
  have C0 : Bx (((w.alloc (.cells #[.string mc, .int .i64 ip, .int .i64 po, .int .i64 di, .int .i64 st, .int .i64 un, .int .i64 nx, .int .i64 wa, .string inn, .string out, .bool fin] 24)).alloc (.cells #[.int .i64 sp, .int .i64 dp, .int .i64 sq, .int .i64 ac, .int .i64 fl, .int .i64 wi, .string da] 27)).alloc (.cells #[.string ⟨#[]⟩, .int .i64 0, .int .i64 0, .int .i64 0, .int .i64 0, .int .i64 0, .int .i64 0, .int .i64 0, .string ⟨#[]⟩, .string ⟨#[]⟩, .bool false] 24)) w.heap.size [.string mc, .int .i64 ip, .int .i64 po, .int .i64 di, .int .i64 st, .int .i64 un, .int .i64 nx, .int .i64 wa, .string inn, .string out, .bool fin] := ((Bx.new w _ _).below ((Below.refl _ _).alloc (Nat.le_refl _) _)).below ((Below.refl _ _).alloc (Nat.le_refl _) _)
  have G0 : Bx (((w.alloc (.cells #[.string mc, .int .i64 ip, .int .i64 po, .int .i64 di, .int .i64 st, .int .i64 un, .int .i64 nx, .int .i64 wa, .string inn, .string out, .bool fin] 24)).alloc (.cells #[.int .i64 sp, .int .i64 dp, .int .i64 sq, .int .i64 ac, .int .i64 fl, .int .i64 wi, .string da] 27)).alloc (.cells #[.string ⟨#[]⟩, .int .i64 0, .int .i64 0, .int .i64 0, .int .i64 0, .int .i64 0, .int .i64 0, .int .i64 0, .string ⟨#[]⟩, .string ⟨#[]⟩, .bool false] 24)) (w.heap.size + 1) [.int .i64 sp, .int .i64 dp, .int .i64 sq, .int .i64 ac, .int .i64 fl, .int .i64 wi, .string da] := by
    have h := (Bx.new (w.alloc (.cells #[.string mc, .int .i64 ip, .int .i64 po, .int .i64 di, .int .i64 st, .int .i64 un, .int .i64 nx, .int .i64 wa, .string inn, .string out, .bool fin] 24)) #[.int .i64 sp, .int .i64 dp, .int .i64 sq, .int .i64 ac, .int .i64 fl, .int .i64 wi, .string da] 27).below ((Below.refl _ _).alloc (Nat.le_refl _) (.cells #[.string ⟨#[]⟩, .int .i64 0, .int .i64 0, .int .i64 0, .int .i64 0, .int .i64 0, .int .i64 0, .int .i64 0, .string ⟨#[]⟩, .string ⟨#[]⟩, .bool false] 24))
    rw [World.size_alloc] at h
    exact h
  have R0 : Bx (((w.alloc (.cells #[.string mc, .int .i64 ip, .int .i64 po, .int .i64 di, .int .i64 st, .int .i64 un, .int .i64 nx, .int .i64 wa, .string inn, .string out, .bool fin] 24)).alloc (.cells #[.int .i64 sp, .int .i64 dp, .int .i64 sq, .int .i64 ac, .int .i64 fl, .int .i64 wi, .string da] 27)).alloc (.cells #[.string ⟨#[]⟩, .int .i64 0, .int .i64 0, .int .i64 0, .int .i64 0, .int .i64 0, .int .i64 0, .int .i64 0, .string ⟨#[]⟩, .string ⟨#[]⟩, .bool false] 24)) (w.heap.size + 1 + 1) [.string ⟨#[]⟩, .int .i64 0, .int .i64 0, .int .i64 0, .int .i64 0, .int .i64 0, .int .i64 0, .int .i64 0, .string ⟨#[]⟩, .string ⟨#[]⟩, .bool false] := by
    have h := Bx.new ((w.alloc (.cells #[.string mc, .int .i64 ip, .int .i64 po, .int .i64 di, .int .i64 st, .int .i64 un, .int .i64 nx, .int .i64 wa, .string inn, .string out, .bool fin] 24)).alloc (.cells #[.int .i64 sp, .int .i64 dp, .int .i64 sq, .int .i64 ac, .int .i64 fl, .int .i64 wi, .string da] 27)) #[.string ⟨#[]⟩, .int .i64 0, .int .i64 0, .int .i64 0, .int .i64 0, .int .i64 0, .int .i64 0, .int .i64 0, .string ⟨#[]⟩, .string ⟨#[]⟩, .bool false] 24
    rw [World.size_alloc, World.size_alloc] at h
    exact h
  have B0 : Hid (Below w.heap.size w (((w.alloc (.cells #[.string mc, .int .i64 ip, .int .i64 po, .int .i64 di, .int .i64 st, .int .i64 un, .int .i64 nx, .int .i64 wa, .string inn, .string out, .bool fin] 24)).alloc (.cells #[.int .i64 sp, .int .i64 dp, .int .i64 sq, .int .i64 ac, .int .i64 fl, .int .i64 wi, .string da] 27)).alloc (.cells #[.string ⟨#[]⟩, .int .i64 0, .int .i64 0, .int .i64 0, .int .i64 0, .int .i64 0, .int .i64 0, .int .i64 0, .string ⟨#[]⟩, .string ⟨#[]⟩, .bool false] 24))) := ((((Below.refl _ _).alloc (Nat.le_refl _) _).alloc (by simp) _).alloc (by simp; omega) _)
  go_enter Try.func8, Try.ntmps8
  go_wp2_with (first | (refine wpl_get rfl _ rfl _ rfl (by assumption) rfl ?_) | (refine wpl_getS rfl _ rfl _ rfl (by assumption) rfl ?_) | fail)
  refine (TK.out _).mono ?_
  rintro e w1 ⟨rfl, g1⟩
  have b1 := g1.below
  have C1 : Bx w1 w.heap.size [.string mc, .int .i64 ip, .int .i64 po, .int .i64 di, .int .i64 st, .int .i64 un, .int .i64 nx, .int .i64 wa, .string inn, .string out, .bool fin] := C0.below b1
  have G1 : Bx w1 (w.heap.size + 1) [.int .i64 sp, .int .i64 dp, .int .i64 sq, .int .i64 ac, .int .i64 fl, .int .i64 wi, .string da] := G0.below b1
  have R1 : Bx w1 (w.heap.size + 1 + 1) [.string ⟨#[]⟩, .int .i64 0, .int .i64 0, .int .i64 0, .int .i64 0, .int .i64 0, .int .i64 0, .int .i64 0, .string ⟨#[]⟩, .string ⟨#[]⟩, .bool false] := R0.below b1
  have B1 : Hid (Below w.heap.size w w1) := B0.out.trans (b1.mono B0.out.size)
  clear b1 g1
  have gq0 : w1.cell? ⟨w.heap.size + 1, 0, none⟩ = some (.int .i64 sp) := G1.cell 0 rfl
  have gq1 : w1.cell? ⟨w.heap.size + 1, 1, none⟩ = some (.int .i64 dp) := G1.cell 1 rfl
  have gq2 : w1.cell? ⟨w.heap.size + 1, 2, none⟩ = some (.int .i64 sq) := G1.cell 2 rfl
  have gq3 : w1.cell? ⟨w.heap.size + 1, 3, none⟩ = some (.int .i64 ac) := G1.cell 3 rfl
  have gq4 : w1.cell? ⟨w.heap.size + 1, 4, none⟩ = some (.int .i64 fl) := G1.cell 4 rfl
  have gq5 : w1.cell? ⟨w.heap.size + 1, 5, none⟩ = some (.int .i64 wi) := G1.cell 5 rfl
  have gq6 : w1.cell? ⟨w.heap.size + 1, 6, none⟩ = some (.string da) := G1.cell 6 rfl
  go_wp2_with (first | (refine wpl_get rfl _ rfl _ rfl (by assumption) rfl ?_) | (refine wpl_getS rfl _ rfl _ rfl (by assumption) rfl ?_) | fail)
  refine (TSG.out _).mono ?_
  rintro e w2 ⟨rfl, g2⟩
  have b2 := g2.below
  have C2 : Bx w2 w.heap.size [.string mc, .int .i64 ip, .int .i64 po, .int .i64 di, .int .i64 st, .int .i64 un, .int .i64 nx, .int .i64 wa, .string inn, .string out, .bool fin] := C1.below b2
  have G2 : Bx w2 (w.heap.size + 1) [.int .i64 sp, .int .i64 dp, .int .i64 sq, .int .i64 ac, .int .i64 fl, .int .i64 wi, .string da] := G1.below b2
  have R2 : Bx w2 (w.heap.size + 1 + 1) [.string ⟨#[]⟩, .int .i64 0, .int .i64 0, .int .i64 0, .int .i64 0, .int .i64 0, .int .i64 0, .int .i64 0, .string ⟨#[]⟩, .string ⟨#[]⟩, .bool false] := R1.below b2
  have B2 : Hid (Below w.heap.size w w2) := B1.out.trans (b2.mono B1.out.size)
  clear b2 g2
  clear C1 G1 R1 B1 C0 G0 R0 B0 gq0 gq1 gq2 gq3 gq4 gq5 gq6
  have HS : Hid (∀ wx, XD w.heap.size [.string mc, .int .i64 ip, .int .i64 po, .int .i64 di, .int .i64 st, .int .i64 un, .int .i64 nx, .int .i64 wa, .string inn, .string out, .bool fin] (w.heap.size + 1) [.int .i64 sp, .int .i64 dp, .int .i64 sq, .int .i64 ac, .int .i64 fl, .int .i64 wi, .string da] (w.heap.size + 1 + 1) [.string ⟨#[]⟩, .int .i64 0, .int .i64 0, .int .i64 0, .int .i64 0, .int .i64 0, .int .i64 0, .int .i64 0, .string ⟨#[]⟩, .string ⟨#[]⟩, .bool false] w wx → w.heap.size + 3 ≤ wx.heap.size) := fun wx h => by
    have := World.block_lt_of_cell? wx _ (h.r.cell 0 rfl)
    dsimp only at this
    omega
  go_wp2_with fail
  have SS2 : Hid (XD w.heap.size [.string mc, .int .i64 ip, .int .i64 po, .int .i64 di, .int .i64 st, .int .i64 un, .int .i64 nx, .int .i64 wa, .string inn, .string out, .bool fin] (w.heap.size + 1) [.int .i64 sp, .int .i64 dp, .int .i64 sq, .int .i64 ac, .int .i64 fl, .int .i64 wi, .string da] (w.heap.size + 1 + 1) [.string ⟨#[]⟩, .int .i64 0, .int .i64 0, .int .i64 0, .int .i64 0, .int .i64 0, .int .i64 0, .int .i64 0, .string ⟨#[]⟩, .string ⟨#[]⟩, .bool false] w w2) := ⟨C2, G2, R2, B2.out⟩
  have SS : Hid (XD w.heap.size [.string mc, .int .i64 ip, .int .i64 po, .int .i64 di, .int .i64 st, .int .i64 un, .int .i64 nx, .int .i64 wa, .string inn, .string out, .bool fin] (w.heap.size + 1) [.int .i64 sp, .int .i64 dp, .int .i64 sq, .int .i64 ac, .int .i64 fl, .int .i64 wi, .string da] (w.heap.size + 1 + 1) [.string ⟨#[]⟩, .int .i64 0, .int .i64 0, .int .i64 0, .int .i64 0, .int .i64 0, .int .i64 0, .int .i64 0, .string ⟨#[]⟩, .string ⟨#[]⟩, .bool false] w w2.drew) := ⟨C2.below ((Below.refl _ _).drew), G2.below ((Below.refl _ _).drew), R2.below ((Below.refl _ _).drew), B2.out.drew⟩
  have H2 : w.heap.size + 3 ≤ w2.heap.size := by have := HS.out _ SS.out; simpa using this
  clear C2 G2 R2 B2
  have FRR : Hid (∀ nb wx, w.heap.size + 3 ≤ nb → XD w.heap.size [.string mc, .int .i64 ip, .int .i64 po, .int .i64 di, .int .i64 st, .int .i64 un, .int .i64 nx, .int .i64 wa, .string inn, .string out, .bool fin] (w.heap.size + 1) [.int .i64 sp, .int .i64 dp, .int .i64 sq, .int .i64 ac, .int .i64 fl, .int .i64 wi, .string da] (w.heap.size + 1 + 1) [.string ⟨#[]⟩, .int .i64 0, .int .i64 0, .int .i64 0, .int .i64 0, .int .i64 0, .int .i64 0, .int .i64 0, .string ⟨#[]⟩, .string ⟨#[]⟩, .bool false] w wx → XD w.heap.size [.string mc, .int .i64 ip, .int .i64 po, .int .i64 di, .int .i64 st, .int .i64 un, .int .i64 nx, .int .i64 wa, .string inn, .string out, .bool fin] (w.heap.size + 1) [.int .i64 sp, .int .i64 dp, .int .i64 sq, .int .i64 ac, .int .i64 fl, .int .i64 wi, .string da] (w.heap.size + 1 + 1) [.string ⟨#[]⟩, .int .i64 0, .int .i64 0, .int .i64 0, .int .i64 0, .int .i64 0, .int .i64 0, .int .i64 0, .string ⟨#[]⟩, .string ⟨#[]⟩, .bool false] w (((((((((((wx.setCell ⟨nb, 0, none⟩ (.string xm)).setCell ⟨nb, 1, none⟩ (.int .i64 xi)).setCell ⟨nb, 2, none⟩ (.int .i64 xp)).setCell ⟨nb, 3, none⟩ (.int .i64 xd)).setCell ⟨nb, 4, none⟩ (.int .i64 xs)).setCell ⟨nb, 5, none⟩ (.int .i64 xu)).setCell ⟨nb, 6, none⟩ (.int .i64 xn)).setCell ⟨nb, 7, none⟩ (.int .i64 xw)).setCell ⟨nb, 8, none⟩ (.string xI)).setCell ⟨nb, 9, none⟩ (.string xO)).setCell ⟨nb, 10, none⟩ (.bool xF))) := fun nb wx hn hx => (((((((((((hx.far ⟨nb, 0, none⟩ (.string xm) (by dsimp only; omega) (by dsimp only; omega) (by dsimp only; omega) (by dsimp only; omega)).far ⟨nb, 1, none⟩ (.int .i64 xi) (by dsimp only; omega) (by dsimp only; omega) (by dsimp only; omega) (by dsimp only; omega)).far ⟨nb, 2, none⟩ (.int .i64 xp) (by dsimp only; omega) (by dsimp only; omega) (by dsimp only; omega) (by dsimp only; omega)).far ⟨nb, 3, none⟩ (.int .i64 xd) (by dsimp only; omega) (by dsimp only; omega) (by dsimp only; omega) (by dsimp only; omega)).far ⟨nb, 4, none⟩ (.int .i64 xs) (by dsimp only; omega) (by dsimp only; omega) (by dsimp only; omega) (by dsimp only; omega)).far ⟨nb, 5, none⟩ (.int .i64 xu) (by dsimp only; omega) (by dsimp only; omega) (by dsimp only; omega) (by dsimp only; omega)).far ⟨nb, 6, none⟩ (.int .i64 xn) (by dsimp only; omega) (by dsimp only; omega) (by dsimp only; omega) (by dsimp only; omega)).far ⟨nb, 7, none⟩ (.int .i64 xw) (by dsimp only; omega) (by dsimp only; omega) (by dsimp only; omega) (by dsimp only; omega)).far ⟨nb, 8, none⟩ (.string xI) (by dsimp only; omega) (by dsimp only; omega) (by dsimp only; omega) (by dsimp only; omega)).far ⟨nb, 9, none⟩ (.string xO) (by dsimp only; omega) (by dsimp only; omega) (by dsimp only; omega) (by dsimp only; omega)).far ⟨nb, 10, none⟩ (.bool xF) (by dsimp only; omega) (by dsimp only; omega) (by dsimp only; omega) (by dsimp only; omega))
  refine wp_region_held_drew (S := (fun wx => XD w.heap.size [.string mc, .int .i64 ip, .int .i64 po, .int .i64 di, .int .i64 st, .int .i64 un, .int .i64 nx, .int .i64 wa, .string inn, .string out, .bool fin] (w.heap.size + 1) [.int .i64 sp, .int .i64 dp, .int .i64 sq, .int .i64 ac, .int .i64 fl, .int .i64 wi, .string da] (w.heap.size + 1 + 1) [.string ⟨#[]⟩, .int .i64 0, .int .i64 0, .int .i64 0, .int .i64 0, .int .i64 0, .int .i64 0, .int .i64 0, .string ⟨#[]⟩, .string ⟨#[]⟩, .bool false] w wx)) (by kernel_rfl) ?_ (fun hH0 => ?_)
  · with_reducible exact SS.out
  refine wpAnyH_take (i := 0) (v := ?v1001) rfl (by kernel_rfl) (by kernel_rfl) (by kernel_rfl) (fun _ _ _ h => h) (Or.inl ⟨by rfl, ?hy1001⟩) (by assumption) ?rest1001
  case hy1001 => (intro w hSw; (try dsimp only at hSw); go_simp; (try with_reducible rfl))
  refine wpAnyH_take (i := 1) (v := .int .i64 st) rfl (by kernel_rfl) (by kernel_rfl) (by kernel_rfl) (fun _ _ _ h => h) (Or.inl ⟨by rfl, ?hy1002⟩) (by assumption) ?rest1002
  case hy1002 =>
    intro wz hSw
    have hf : wz.cell? ⟨w.heap.size, 4, none⟩ = some (.int .i64 st) := hSw.c.cell 4 rfl
    go_simp
  refine wpAnyH_take (i := 3) (v := .agg #[.string mc, .int .i64 ip, .int .i64 po, .int .i64 di, .int .i64 st, .int .i64 un, .int .i64 nx, .int .i64 wa, .string inn, .string out, .bool fin]) rfl (by kernel_rfl) (by kernel_rfl) (by kernel_rfl) (fun _ _ _ h => h) (yieldsIf_load_mid (by rfl) 24 _ rfl w.heap.size 0 rfl [.string mc, .int .i64 ip, .int .i64 po, .int .i64 di, .int .i64 st, .int .i64 un, .int .i64 nx, .int .i64 wa, .string inn, .string out, .bool fin] _ (fun _ h => h.c.cl) Try.underlying24 rfl rfl) (by assumption) ?rest1003
  refine wpAnyH_take (i := 4) (v := .agg #[.int .i64 sp, .int .i64 dp, .int .i64 sq, .int .i64 ac, .int .i64 fl, .int .i64 wi, .string da]) rfl (by kernel_rfl) (by kernel_rfl) (by kernel_rfl) (fun _ _ _ h => h) (yieldsIf_load_mid (by rfl) 27 _ rfl (w.heap.size + 1) 0 rfl [.int .i64 sp, .int .i64 dp, .int .i64 sq, .int .i64 ac, .int .i64 fl, .int .i64 wi, .string da] _ (fun _ h => h.g.cl) Try.underlying27 rfl rfl) (by assumption) ?rest1004
  refine wpAnyH_ready (rs := [2, 9]) (by kernel_rfl) (by simp) ?_
  refine AllReadyH.cons rfl (fun K hK => ?_) ?_
  · go_simp
    go_at_call 34
    with_reducible refine (TC.out _).mono ?_
    rintro e w6 ⟨rfl, hp⟩
    have b6 : Below w2.drew.heap.size w2.drew w6 := hp.2.2.2
    have P6 : Hid (w6.cell? ⟨w2.heap.size, 0, none⟩ = some (.func (.func 68) #[] #[]) ∧ w6.cell? ⟨w2.heap.size + 1, 0, none⟩ = some (.func (.func 69) #[] #[])) := ⟨hp.1, hp.2.1⟩
    have Q6 : Hid (w2.heap.size + 2 ≤ w6.heap.size) := hp.2.2.1
    clear hp
    have L6 : Hid (XD w.heap.size [.string mc, .int .i64 ip, .int .i64 po, .int .i64 di, .int .i64 st, .int .i64 un, .int .i64 nx, .int .i64 wa, .string inn, .string out, .bool fin] (w.heap.size + 1) [.int .i64 sp, .int .i64 dp, .int .i64 sq, .int .i64 ac, .int .i64 fl, .int .i64 wi, .string da] (w.heap.size + 1 + 1) [.string ⟨#[]⟩, .int .i64 0, .int .i64 0, .int .i64 0, .int .i64 0, .int .i64 0, .int .i64 0, .int .i64 0, .string ⟨#[]⟩, .string ⟨#[]⟩, .bool false] w w6) := SS.out.below b6
    clear b6
    refine hK.out _ _ ?_ (fun hH1005 => ?_)
    · (try dsimp only)
      first | (with_reducible exact L8.out) | (with_reducible exact L9.out) | (with_reducible exact L7.out) | (with_reducible exact L6.out) | (with_reducible exact FRR.out _ _ G9 L8.out)
    clear hK K hH0
    refine wpAnyH_ready (rs := [5, 9]) (by kernel_rfl) (by simp) ?_
    refine AllReadyH.cons rfl (fun K hK => ?_) ?_
    · go_simp
      go_at_call 82
      first | (with_reducible refine (TL.out w2.heap.size (w2.heap.size + 1) w6 (by have := Q6.out; omega) (by have := Q6.out; omega) P6.out.1 P6.out.2).mono ?_)
      rintro e w7 ⟨v7, rfl, o7, b7⟩
      have L7 : Hid (XD w.heap.size [.string mc, .int .i64 ip, .int .i64 po, .int .i64 di, .int .i64 st, .int .i64 un, .int .i64 nx, .int .i64 wa, .string inn, .string out, .bool fin] (w.heap.size + 1) [.int .i64 sp, .int .i64 dp, .int .i64 sq, .int .i64 ac, .int .i64 fl, .int .i64 wi, .string da] (w.heap.size + 1 + 1) [.string ⟨#[]⟩, .int .i64 0, .int .i64 0, .int .i64 0, .int .i64 0, .int .i64 0, .int .i64 0, .int .i64 0, .string ⟨#[]⟩, .string ⟨#[]⟩, .bool false] w w7) := L6.out.below b7
      have O7 : Hid (OwnS sgG 7 27 w7 (w.heap.size + 3) v7 XL) := o7.lower (HS.out _ L6.out)
      clear b7 o7
      refine hK.out _ _ ?_ (fun hH1006 => ?_)
      · (try dsimp only)
        first | (with_reducible exact L8.out) | (with_reducible exact L9.out) | (with_reducible exact L7.out) | (with_reducible exact L6.out) | (with_reducible exact FRR.out _ _ G9 L8.out)
      clear hK K hH1005
      refine wpAnyH_take (i := 6) (v := ?v1007) rfl (by kernel_rfl) (by kernel_rfl) (by kernel_rfl) (fun _ _ _ h => h) (Or.inl ⟨by rfl, ?hy1007⟩) (by assumption) ?rest1007
      case hy1007 => (intro w hSw; (try dsimp only at hSw); go_simp; (try with_reducible rfl))
      refine wpAnyH_take (i := 7) (v := ?v1008) rfl (by kernel_rfl) (by kernel_rfl) (by kernel_rfl) (fun _ _ _ h => h) (Or.inl ⟨by rfl, ?hy1008⟩) (by assumption) ?rest1008
      case hy1008 => (intro w hSw; (try dsimp only at hSw); go_simp; (try with_reducible rfl))
      refine wpAnyH_take (i := 8) (v := ?v1009) rfl (by kernel_rfl) (by kernel_rfl) (by kernel_rfl) (fun _ _ _ h => h) (Or.inl ⟨by rfl, ?hy1009⟩) (by assumption) ?rest1009
      case hy1009 => (intro w hSw; (try dsimp only at hSw); go_simp; (try with_reducible rfl))
      refine wpAnyH_ready (rs := [9]) (by kernel_rfl) (by simp) ?_
      refine AllReadyH.cons rfl (fun K hK => ?_) ?_
      · go_simp
        have N9 : Bx (w7.alloc (.cells #[.string ⟨#[]⟩, .int .i64 0, .int .i64 0, .int .i64 0, .int .i64 0, .int .i64 0, .int .i64 0, .int .i64 0, .string ⟨#[]⟩, .string ⟨#[]⟩, .bool false] 24)) w7.heap.size [.string ⟨#[]⟩, .int .i64 0, .int .i64 0, .int .i64 0, .int .i64 0, .int .i64 0, .int .i64 0, .int .i64 0, .string ⟨#[]⟩, .string ⟨#[]⟩, .bool false] := Bx.new w7 #[.string ⟨#[]⟩, .int .i64 0, .int .i64 0, .int .i64 0, .int .i64 0, .int .i64 0, .int .i64 0, .int .i64 0, .string ⟨#[]⟩, .string ⟨#[]⟩, .bool false] _
        have L8 : Hid (XD w.heap.size [.string mc, .int .i64 ip, .int .i64 po, .int .i64 di, .int .i64 st, .int .i64 un, .int .i64 nx, .int .i64 wa, .string inn, .string out, .bool fin] (w.heap.size + 1) [.int .i64 sp, .int .i64 dp, .int .i64 sq, .int .i64 ac, .int .i64 fl, .int .i64 wi, .string da] (w.heap.size + 1 + 1) [.string ⟨#[]⟩, .int .i64 0, .int .i64 0, .int .i64 0, .int .i64 0, .int .i64 0, .int .i64 0, .int .i64 0, .string ⟨#[]⟩, .string ⟨#[]⟩, .bool false] w (w7.alloc (.cells #[.string ⟨#[]⟩, .int .i64 0, .int .i64 0, .int .i64 0, .int .i64 0, .int .i64 0, .int .i64 0, .int .i64 0, .string ⟨#[]⟩, .string ⟨#[]⟩, .bool false] 24))) := L7.out.below ((Below.refl _ _).alloc (Nat.le_refl _) _)
        have S9 : Hid (w7.heap.size < (w7.alloc (.cells #[.string ⟨#[]⟩, .int .i64 0, .int .i64 0, .int .i64 0, .int .i64 0, .int .i64 0, .int .i64 0, .int .i64 0, .string ⟨#[]⟩, .string ⟨#[]⟩, .bool false] 24)).heap.size) := by show _ < _; simp
        have G9 : w.heap.size + 3 ≤ w7.heap.size := HS.out _ L7.out
        have O8 : Hid (OwnS sgG 7 27 (w7.alloc (.cells #[.string ⟨#[]⟩, .int .i64 0, .int .i64 0, .int .i64 0, .int .i64 0, .int .i64 0, .int .i64 0, .int .i64 0, .string ⟨#[]⟩, .string ⟨#[]⟩, .bool false] 24)) (w.heap.size + 3) v7 XL) := O7.out.now ((Below.refl _ _).alloc (Nat.le_refl _) _)
        have NE : Hid (∀ k, v7.ownBlock = some k → k ≠ w7.heap.size) := fun k hk => by have := (O7.out.lt k hk).2; omega
        generalize (w7.alloc (.cells #[.string ⟨#[]⟩, .int .i64 0, .int .i64 0, .int .i64 0, .int .i64 0, .int .i64 0, .int .i64 0, .int .i64 0, .string ⟨#[]⟩, .string ⟨#[]⟩, .bool false] 24)) = w8 at N9 L8 S9 O8 ⊢
        obtain ⟨nb, hnb⟩ : ∃ nb, nb = w7.heap.size := ⟨_, rfl⟩
        rw [← hnb] at N9 S9 G9 NE ⊢
        clear hnb
        have NX := N9
        clear N9
        have zz0 : w8.cell? ⟨nb, 0, none⟩ = some (.string ⟨#[]⟩) := NX.cell 0 rfl
        have hh0 : w8.frozen? ⟨nb, 0, none⟩ = false := NX.thaw 0 (by simp)
        have zz1 : w8.cell? ⟨nb, 1, none⟩ = some (.int .i64 0) := NX.cell 1 rfl
        have hh1 : w8.frozen? ⟨nb, 1, none⟩ = false := NX.thaw 1 (by simp)
        have zz2 : w8.cell? ⟨nb, 2, none⟩ = some (.int .i64 0) := NX.cell 2 rfl
        have hh2 : w8.frozen? ⟨nb, 2, none⟩ = false := NX.thaw 2 (by simp)
        have zz3 : w8.cell? ⟨nb, 3, none⟩ = some (.int .i64 0) := NX.cell 3 rfl
        have hh3 : w8.frozen? ⟨nb, 3, none⟩ = false := NX.thaw 3 (by simp)
        have zz4 : w8.cell? ⟨nb, 4, none⟩ = some (.int .i64 0) := NX.cell 4 rfl
        have hh4 : w8.frozen? ⟨nb, 4, none⟩ = false := NX.thaw 4 (by simp)
        have zz5 : w8.cell? ⟨nb, 5, none⟩ = some (.int .i64 0) := NX.cell 5 rfl
        have hh5 : w8.frozen? ⟨nb, 5, none⟩ = false := NX.thaw 5 (by simp)
        have zz6 : w8.cell? ⟨nb, 6, none⟩ = some (.int .i64 0) := NX.cell 6 rfl
        have hh6 : w8.frozen? ⟨nb, 6, none⟩ = false := NX.thaw 6 (by simp)
        have zz7 : w8.cell? ⟨nb, 7, none⟩ = some (.int .i64 0) := NX.cell 7 rfl
        have hh7 : w8.frozen? ⟨nb, 7, none⟩ = false := NX.thaw 7 (by simp)
        have zz8 : w8.cell? ⟨nb, 8, none⟩ = some (.string ⟨#[]⟩) := NX.cell 8 rfl
        have hh8 : w8.frozen? ⟨nb, 8, none⟩ = false := NX.thaw 8 (by simp)
        have zz9 : w8.cell? ⟨nb, 9, none⟩ = some (.string ⟨#[]⟩) := NX.cell 9 rfl
        have hh9 : w8.frozen? ⟨nb, 9, none⟩ = false := NX.thaw 9 (by simp)
        have zz10 : w8.cell? ⟨nb, 10, none⟩ = some (.bool false) := NX.cell 10 rfl
        have hh10 : w8.frozen? ⟨nb, 10, none⟩ = false := NX.thaw 10 (by simp)
        refine hK.out _ _ ?_ (fun hH1010 => ?_)
        · (try dsimp only)
          first | (with_reducible exact L8.out) | (with_reducible exact L9.out) | (with_reducible exact L7.out) | (with_reducible exact L6.out) | (with_reducible exact FRR.out _ _ G9 L8.out)
        clear hK K hH1006
        refine wpAnyH_ready (rs := [10]) (by kernel_rfl) (by simp) ?_
        refine AllReadyH.cons rfl (fun K hK => ?_) ?_
        · go_simp
          refine hK.out _ _ ?_ (fun hH1011 => ?_)
          · (try dsimp only)
            first | (with_reducible exact L8.out) | (with_reducible exact L9.out) | (with_reducible exact L7.out) | (with_reducible exact L6.out) | (with_reducible exact FRR.out _ _ G9 L8.out)
          clear hK K hH1010
          refine wpAnyH_take (i := 11) (v := ?v1012) rfl (by kernel_rfl) (by kernel_rfl) (by kernel_rfl) (fun _ _ _ h => h) (Or.inl ⟨by rfl, ?hy1012⟩) (by assumption) ?rest1012
          case hy1012 => (intro w hSw; (try dsimp only at hSw); go_simp; (try with_reducible rfl))
          refine wpAnyH_done (by kernel_rfl) ?_ _
          have FZ : Hid (Bx (((((((((((w8.setCell ⟨nb, 0, none⟩ (.string xm)).setCell ⟨nb, 1, none⟩ (.int .i64 xi)).setCell ⟨nb, 2, none⟩ (.int .i64 xp)).setCell ⟨nb, 3, none⟩ (.int .i64 xd)).setCell ⟨nb, 4, none⟩ (.int .i64 xs)).setCell ⟨nb, 5, none⟩ (.int .i64 xu)).setCell ⟨nb, 6, none⟩ (.int .i64 xn)).setCell ⟨nb, 7, none⟩ (.int .i64 xw)).setCell ⟨nb, 8, none⟩ (.string xI)).setCell ⟨nb, 9, none⟩ (.string xO)).setCell ⟨nb, 10, none⟩ (.bool xF)) nb [.string xm, .int .i64 xi, .int .i64 xp, .int .i64 xd, .int .i64 xs, .int .i64 xu, .int .i64 xn, .int .i64 xw, .string xI, .string xO, .bool xF] ∧ XD w.heap.size [.string mc, .int .i64 ip, .int .i64 po, .int .i64 di, .int .i64 st, .int .i64 un, .int .i64 nx, .int .i64 wa, .string inn, .string out, .bool fin] (w.heap.size + 1) [.int .i64 sp, .int .i64 dp, .int .i64 sq, .int .i64 ac, .int .i64 fl, .int .i64 wi, .string da] (w.heap.size + 1 + 1) [.string ⟨#[]⟩, .int .i64 0, .int .i64 0, .int .i64 0, .int .i64 0, .int .i64 0, .int .i64 0, .int .i64 0, .string ⟨#[]⟩, .string ⟨#[]⟩, .bool false] w (((((((((((w8.setCell ⟨nb, 0, none⟩ (.string xm)).setCell ⟨nb, 1, none⟩ (.int .i64 xi)).setCell ⟨nb, 2, none⟩ (.int .i64 xp)).setCell ⟨nb, 3, none⟩ (.int .i64 xd)).setCell ⟨nb, 4, none⟩ (.int .i64 xs)).setCell ⟨nb, 5, none⟩ (.int .i64 xu)).setCell ⟨nb, 6, none⟩ (.int .i64 xn)).setCell ⟨nb, 7, none⟩ (.int .i64 xw)).setCell ⟨nb, 8, none⟩ (.string xI)).setCell ⟨nb, 9, none⟩ (.string xO)).setCell ⟨nb, 10, none⟩ (.bool xF)) ∧ OwnS sgG 7 27 (((((((((((w8.setCell ⟨nb, 0, none⟩ (.string xm)).setCell ⟨nb, 1, none⟩ (.int .i64 xi)).setCell ⟨nb, 2, none⟩ (.int .i64 xp)).setCell ⟨nb, 3, none⟩ (.int .i64 xd)).setCell ⟨nb, 4, none⟩ (.int .i64 xs)).setCell ⟨nb, 5, none⟩ (.int .i64 xu)).setCell ⟨nb, 6, none⟩ (.int .i64 xn)).setCell ⟨nb, 7, none⟩ (.int .i64 xw)).setCell ⟨nb, 8, none⟩ (.string xI)).setCell ⟨nb, 9, none⟩ (.string xO)).setCell ⟨nb, 10, none⟩ (.bool xF)) (w.heap.size + 3) v7 XL) := ⟨(((((((((((NX.field 0 (.string xm)).field 1 (.int .i64 xi)).field 2 (.int .i64 xp)).field 3 (.int .i64 xd)).field 4 (.int .i64 xs)).field 5 (.int .i64 xu)).field 6 (.int .i64 xn)).field 7 (.int .i64 xw)).field 8 (.string xI)).field 9 (.string xO)).field 10 (.bool xF)), FRR.out _ _ G9 L8.out, (((((((((((O8.out.apart9 ⟨nb, 0, none⟩ (.string xm) NE.out).apart9 ⟨nb, 1, none⟩ (.int .i64 xi) NE.out).apart9 ⟨nb, 2, none⟩ (.int .i64 xp) NE.out).apart9 ⟨nb, 3, none⟩ (.int .i64 xd) NE.out).apart9 ⟨nb, 4, none⟩ (.int .i64 xs) NE.out).apart9 ⟨nb, 5, none⟩ (.int .i64 xu) NE.out).apart9 ⟨nb, 6, none⟩ (.int .i64 xn) NE.out).apart9 ⟨nb, 7, none⟩ (.int .i64 xw) NE.out).apart9 ⟨nb, 8, none⟩ (.string xI) NE.out).apart9 ⟨nb, 9, none⟩ (.string xO) NE.out).apart9 ⟨nb, 10, none⟩ (.bool xF) NE.out)⟩
          clear hH1011 zz0 hh0 zz1 hh1 zz2 hh2 zz3 hh3 zz4 hh4 zz5 hh5 zz6 hh6 zz7 hh7 zz8 hh8 zz9 hh9 zz10 hh10 NX L8 O8 FRR
          generalize (((((((((((w8.setCell ⟨nb, 0, none⟩ (.string xm)).setCell ⟨nb, 1, none⟩ (.int .i64 xi)).setCell ⟨nb, 2, none⟩ (.int .i64 xp)).setCell ⟨nb, 3, none⟩ (.int .i64 xd)).setCell ⟨nb, 4, none⟩ (.int .i64 xs)).setCell ⟨nb, 5, none⟩ (.int .i64 xu)).setCell ⟨nb, 6, none⟩ (.int .i64 xn)).setCell ⟨nb, 7, none⟩ (.int .i64 xw)).setCell ⟨nb, 8, none⟩ (.string xI)).setCell ⟨nb, 9, none⟩ (.string xO)).setCell ⟨nb, 10, none⟩ (.bool xF)) = wz at FZ ⊢
          have CZ : Bx wz nb [.string xm, .int .i64 xi, .int .i64 xp, .int .i64 xd, .int .i64 xs, .int .i64 xu, .int .i64 xn, .int .i64 xw, .string xI, .string xO, .bool xF] := FZ.out.1
          have RZ : Bx wz (w.heap.size + 1 + 1) [.string ⟨#[]⟩, .int .i64 0, .int .i64 0, .int .i64 0, .int .i64 0, .int .i64 0, .int .i64 0, .int .i64 0, .string ⟨#[]⟩, .string ⟨#[]⟩, .bool false] := FZ.out.2.1.r
          have BZ9 : Hid (Below w.heap.size w wz) := FZ.out.2.1.out
          have OZ : Hid (OwnS sgG 7 27 wz (w.heap.size + 3) v7 XL) := FZ.out.2.2
          go_wp2_with (first | (refine wpl_put rfl _ _ rfl (w.heap.size + 1 + 1) _ rfl rfl RZ rfl rfl rfl ?_; intro w5 hw5 R5; have B5 : Hid (Below w.heap.size w w5) := (by rw [hw5]; exact below_cells (by omega) _ _ _ BZ9.out); have O5 : Hid (OwnS sgG 7 27 w5 w.heap.size v7 XL) := (by rw [hw5]; exact (own_cells (by omega) _ _ _ OZ.out).lower (by omega)); clear hw5) | (refine wpl_get rfl _ rfl _ rfl (by assumption) rfl ?_) | fail)
          have xx0 : w5.cell? ⟨w.heap.size + 1 + 1, 0, none⟩ = some (.string xm) := R5.cell 0 rfl
          have xx1 : w5.cell? ⟨w.heap.size + 1 + 1, 1, none⟩ = some (.int .i64 xi) := R5.cell 1 rfl
          have xx2 : w5.cell? ⟨w.heap.size + 1 + 1, 2, none⟩ = some (.int .i64 xp) := R5.cell 2 rfl
          have xx3 : w5.cell? ⟨w.heap.size + 1 + 1, 3, none⟩ = some (.int .i64 xd) := R5.cell 3 rfl
          have xx4 : w5.cell? ⟨w.heap.size + 1 + 1, 4, none⟩ = some (.int .i64 xs) := R5.cell 4 rfl
          have xx5 : w5.cell? ⟨w.heap.size + 1 + 1, 5, none⟩ = some (.int .i64 xu) := R5.cell 5 rfl
          have xx6 : w5.cell? ⟨w.heap.size + 1 + 1, 6, none⟩ = some (.int .i64 xn) := R5.cell 6 rfl
          have xx7 : w5.cell? ⟨w.heap.size + 1 + 1, 7, none⟩ = some (.int .i64 xw) := R5.cell 7 rfl
          have xx8 : w5.cell? ⟨w.heap.size + 1 + 1, 8, none⟩ = some (.string xI) := R5.cell 8 rfl
          have xx9 : w5.cell? ⟨w.heap.size + 1 + 1, 9, none⟩ = some (.string xO) := R5.cell 9 rfl
          have xx10 : w5.cell? ⟨w.heap.size + 1 + 1, 10, none⟩ = some (.bool xF) := R5.cell 10 rfl
          (try simp only [Exit.inBlock, Exit.then])
          refine bodyPost_ret (v := .tuple #[.agg #[.string xm, .int .i64 xi, .int .i64 xp, .int .i64 xd, .int .i64 xs, .int .i64 xu, .int .i64 xn, .int .i64 xw, .string xI, .string xO, .bool xF], v7, .int .i64 0]) (by simp [results, Try.results8, go_sem, xx0, xx1, xx2, xx3, xx4, xx5, xx6, xx7, xx8, xx9, xx10]; try rfl) rfl ?_
          exact ⟨_, rfl, O5.out, B5.out⟩
        exact AllReadyH.nil
      exact AllReadyH.nil
    refine AllReadyH.cons rfl (fun K hK => ?_) ?_
    · go_simp
      have N9 : Bx (w6.alloc (.cells #[.string ⟨#[]⟩, .int .i64 0, .int .i64 0, .int .i64 0, .int .i64 0, .int .i64 0, .int .i64 0, .int .i64 0, .string ⟨#[]⟩, .string ⟨#[]⟩, .bool false] 24)) w6.heap.size [.string ⟨#[]⟩, .int .i64 0, .int .i64 0, .int .i64 0, .int .i64 0, .int .i64 0, .int .i64 0, .int .i64 0, .string ⟨#[]⟩, .string ⟨#[]⟩, .bool false] := Bx.new w6 #[.string ⟨#[]⟩, .int .i64 0, .int .i64 0, .int .i64 0, .int .i64 0, .int .i64 0, .int .i64 0, .int .i64 0, .string ⟨#[]⟩, .string ⟨#[]⟩, .bool false] _
      have L9 : Hid (XD w.heap.size [.string mc, .int .i64 ip, .int .i64 po, .int .i64 di, .int .i64 st, .int .i64 un, .int .i64 nx, .int .i64 wa, .string inn, .string out, .bool fin] (w.heap.size + 1) [.int .i64 sp, .int .i64 dp, .int .i64 sq, .int .i64 ac, .int .i64 fl, .int .i64 wi, .string da] (w.heap.size + 1 + 1) [.string ⟨#[]⟩, .int .i64 0, .int .i64 0, .int .i64 0, .int .i64 0, .int .i64 0, .int .i64 0, .int .i64 0, .string ⟨#[]⟩, .string ⟨#[]⟩, .bool false] w (w6.alloc (.cells #[.string ⟨#[]⟩, .int .i64 0, .int .i64 0, .int .i64 0, .int .i64 0, .int .i64 0, .int .i64 0, .int .i64 0, .string ⟨#[]⟩, .string ⟨#[]⟩, .bool false] 24))) := L6.out.below ((Below.refl _ _).alloc (Nat.le_refl _) _)
      have S9 : Hid (w6.heap.size < (w6.alloc (.cells #[.string ⟨#[]⟩, .int .i64 0, .int .i64 0, .int .i64 0, .int .i64 0, .int .i64 0, .int .i64 0, .int .i64 0, .string ⟨#[]⟩, .string ⟨#[]⟩, .bool false] 24)).heap.size) := by show _ < _; simp
      have G9 : w.heap.size + 3 ≤ w6.heap.size := HS.out _ L6.out
      have P9 : Hid ((w6.alloc (.cells #[.string ⟨#[]⟩, .int .i64 0, .int .i64 0, .int .i64 0, .int .i64 0, .int .i64 0, .int .i64 0, .int .i64 0, .string ⟨#[]⟩, .string ⟨#[]⟩, .bool false] 24)).cell? ⟨w2.heap.size, 0, none⟩ = some (.func (.func 68) #[] #[]) ∧ (w6.alloc (.cells #[.string ⟨#[]⟩, .int .i64 0, .int .i64 0, .int .i64 0, .int .i64 0, .int .i64 0, .int .i64 0, .int .i64 0, .string ⟨#[]⟩, .string ⟨#[]⟩, .bool false] 24)).cell? ⟨w2.heap.size + 1, 0, none⟩ = some (.func (.func 69) #[] #[])) := ⟨acell P6.out.1 _, acell P6.out.2 _⟩
      have Q9 : Hid (w2.heap.size + 2 ≤ (w6.alloc (.cells #[.string ⟨#[]⟩, .int .i64 0, .int .i64 0, .int .i64 0, .int .i64 0, .int .i64 0, .int .i64 0, .int .i64 0, .string ⟨#[]⟩, .string ⟨#[]⟩, .bool false] 24)).heap.size) := by have := Q6.out; show _ ≤ _; simp; omega
      generalize (w6.alloc (.cells #[.string ⟨#[]⟩, .int .i64 0, .int .i64 0, .int .i64 0, .int .i64 0, .int .i64 0, .int .i64 0, .int .i64 0, .string ⟨#[]⟩, .string ⟨#[]⟩, .bool false] 24)) = w9 at N9 L9 S9 P9 Q9 ⊢
      obtain ⟨nb, hnb⟩ : ∃ nb, nb = w6.heap.size := ⟨_, rfl⟩
      rw [← hnb] at N9 S9 G9 ⊢
      clear hnb
      refine hK.out _ _ ?_ (fun hH1013 => ?_)
      · (try dsimp only)
        first | (with_reducible exact L8.out) | (with_reducible exact L9.out) | (with_reducible exact L7.out) | (with_reducible exact L6.out) | (with_reducible exact FRR.out _ _ G9 L8.out)
      clear hK K hH1005
      refine wpAnyH_ready (rs := [5]) (by kernel_rfl) (by simp) ?_
      refine AllReadyH.cons rfl (fun K hK => ?_) ?_
      · go_simp
        go_at_call 82
        first | (with_reducible refine (TL.out w9.heap.size (w9.heap.size + 1) w6 (by have := Q6.out; omega) (by have := Q6.out; omega) P6.out.1 P6.out.2).mono ?_) | (with_reducible refine (TL.out w2.heap.size (w2.heap.size + 1) w9 (by have := Q9.out; omega) (by have := Q9.out; omega) P9.out.1 P9.out.2).mono ?_)
        rintro e w8 ⟨v7, rfl, o7, b7⟩
        first | (have L8 : Hid (XD w.heap.size [.string mc, .int .i64 ip, .int .i64 po, .int .i64 di, .int .i64 st, .int .i64 un, .int .i64 nx, .int .i64 wa, .string inn, .string out, .bool fin] (w.heap.size + 1) [.int .i64 sp, .int .i64 dp, .int .i64 sq, .int .i64 ac, .int .i64 fl, .int .i64 wi, .string da] (w.heap.size + 1 + 1) [.string ⟨#[]⟩, .int .i64 0, .int .i64 0, .int .i64 0, .int .i64 0, .int .i64 0, .int .i64 0, .int .i64 0, .string ⟨#[]⟩, .string ⟨#[]⟩, .bool false] w w8) := L9.out.below b7; have NX : Bx w8 nb [.string ⟨#[]⟩, .int .i64 0, .int .i64 0, .int .i64 0, .int .i64 0, .int .i64 0, .int .i64 0, .int .i64 0, .string ⟨#[]⟩, .string ⟨#[]⟩, .bool false] := N9.below b7; have NE : Hid (∀ k, v7.ownBlock = some k → k ≠ nb) := (fun k hk => by have h1 := (o7.lt k hk).1; have h2 := S9.out; omega); have O8 : Hid (OwnS sgG 7 27 w8 (w.heap.size + 3) v7 XL) := o7.lower (HS.out _ L9.out)) | (have L8 : Hid (XD w.heap.size [.string mc, .int .i64 ip, .int .i64 po, .int .i64 di, .int .i64 st, .int .i64 un, .int .i64 nx, .int .i64 wa, .string inn, .string out, .bool fin] (w.heap.size + 1) [.int .i64 sp, .int .i64 dp, .int .i64 sq, .int .i64 ac, .int .i64 fl, .int .i64 wi, .string da] (w.heap.size + 1 + 1) [.string ⟨#[]⟩, .int .i64 0, .int .i64 0, .int .i64 0, .int .i64 0, .int .i64 0, .int .i64 0, .int .i64 0, .string ⟨#[]⟩, .string ⟨#[]⟩, .bool false] w w8) := L6.out.below b7; have NX : Bx w8 nb [.string ⟨#[]⟩, .int .i64 0, .int .i64 0, .int .i64 0, .int .i64 0, .int .i64 0, .int .i64 0, .int .i64 0, .string ⟨#[]⟩, .string ⟨#[]⟩, .bool false] := N6.below b7; have NE : Hid (∀ k, v7.ownBlock = some k → k ≠ nb) := (fun k hk => by have h1 := (o7.lt k hk).1; have h2 := S6.out; omega); have O8 : Hid (OwnS sgG 7 27 w8 (w.heap.size + 3) v7 XL) := o7.lower (HS.out _ L6.out))
        have zz0 : w8.cell? ⟨nb, 0, none⟩ = some (.string ⟨#[]⟩) := NX.cell 0 rfl
        have hh0 : w8.frozen? ⟨nb, 0, none⟩ = false := NX.thaw 0 (by simp)
        have zz1 : w8.cell? ⟨nb, 1, none⟩ = some (.int .i64 0) := NX.cell 1 rfl
        have hh1 : w8.frozen? ⟨nb, 1, none⟩ = false := NX.thaw 1 (by simp)
        have zz2 : w8.cell? ⟨nb, 2, none⟩ = some (.int .i64 0) := NX.cell 2 rfl
        have hh2 : w8.frozen? ⟨nb, 2, none⟩ = false := NX.thaw 2 (by simp)
        have zz3 : w8.cell? ⟨nb, 3, none⟩ = some (.int .i64 0) := NX.cell 3 rfl
        have hh3 : w8.frozen? ⟨nb, 3, none⟩ = false := NX.thaw 3 (by simp)
        have zz4 : w8.cell? ⟨nb, 4, none⟩ = some (.int .i64 0) := NX.cell 4 rfl
        have hh4 : w8.frozen? ⟨nb, 4, none⟩ = false := NX.thaw 4 (by simp)
        have zz5 : w8.cell? ⟨nb, 5, none⟩ = some (.int .i64 0) := NX.cell 5 rfl
        have hh5 : w8.frozen? ⟨nb, 5, none⟩ = false := NX.thaw 5 (by simp)
        have zz6 : w8.cell? ⟨nb, 6, none⟩ = some (.int .i64 0) := NX.cell 6 rfl
        have hh6 : w8.frozen? ⟨nb, 6, none⟩ = false := NX.thaw 6 (by simp)
        have zz7 : w8.cell? ⟨nb, 7, none⟩ = some (.int .i64 0) := NX.cell 7 rfl
        have hh7 : w8.frozen? ⟨nb, 7, none⟩ = false := NX.thaw 7 (by simp)
        have zz8 : w8.cell? ⟨nb, 8, none⟩ = some (.string ⟨#[]⟩) := NX.cell 8 rfl
        have hh8 : w8.frozen? ⟨nb, 8, none⟩ = false := NX.thaw 8 (by simp)
        have zz9 : w8.cell? ⟨nb, 9, none⟩ = some (.string ⟨#[]⟩) := NX.cell 9 rfl
        have hh9 : w8.frozen? ⟨nb, 9, none⟩ = false := NX.thaw 9 (by simp)
        have zz10 : w8.cell? ⟨nb, 10, none⟩ = some (.bool false) := NX.cell 10 rfl
        have hh10 : w8.frozen? ⟨nb, 10, none⟩ = false := NX.thaw 10 (by simp)
        clear b7 o7
        refine hK.out _ _ ?_ (fun hH1014 => ?_)
        · (try dsimp only)
          first | (with_reducible exact L8.out) | (with_reducible exact L9.out) | (with_reducible exact L7.out) | (with_reducible exact L6.out) | (with_reducible exact FRR.out _ _ G9 L8.out)
        clear hK K hH1013
        refine wpAnyH_take (i := 6) (v := ?v1015) rfl (by kernel_rfl) (by kernel_rfl) (by kernel_rfl) (fun _ _ _ h => h) (Or.inl ⟨by rfl, ?hy1015⟩) (by assumption) ?rest1015
        case hy1015 => (intro w hSw; (try dsimp only at hSw); go_simp; (try with_reducible rfl))
        refine wpAnyH_take (i := 7) (v := ?v1016) rfl (by kernel_rfl) (by kernel_rfl) (by kernel_rfl) (fun _ _ _ h => h) (Or.inl ⟨by rfl, ?hy1016⟩) (by assumption) ?rest1016
        case hy1016 => (intro w hSw; (try dsimp only at hSw); go_simp; (try with_reducible rfl))
        refine wpAnyH_take (i := 8) (v := ?v1017) rfl (by kernel_rfl) (by kernel_rfl) (by kernel_rfl) (fun _ _ _ h => h) (Or.inl ⟨by rfl, ?hy1017⟩) (by assumption) ?rest1017
        case hy1017 => (intro w hSw; (try dsimp only at hSw); go_simp; (try with_reducible rfl))
        refine wpAnyH_ready (rs := [10]) (by kernel_rfl) (by simp) ?_
        refine AllReadyH.cons rfl (fun K hK => ?_) ?_
        · go_simp
          refine hK.out _ _ ?_ (fun hH1018 => ?_)
          · (try dsimp only)
            first | (with_reducible exact L8.out) | (with_reducible exact L9.out) | (with_reducible exact L7.out) | (with_reducible exact L6.out) | (with_reducible exact FRR.out _ _ G9 L8.out)
          clear hK K hH1014
          refine wpAnyH_take (i := 11) (v := ?v1019) rfl (by kernel_rfl) (by kernel_rfl) (by kernel_rfl) (fun _ _ _ h => h) (Or.inl ⟨by rfl, ?hy1019⟩) (by assumption) ?rest1019
          case hy1019 => (intro w hSw; (try dsimp only at hSw); go_simp; (try with_reducible rfl))
          refine wpAnyH_done (by kernel_rfl) ?_ _
          have FZ : Hid (Bx (((((((((((w8.setCell ⟨nb, 0, none⟩ (.string xm)).setCell ⟨nb, 1, none⟩ (.int .i64 xi)).setCell ⟨nb, 2, none⟩ (.int .i64 xp)).setCell ⟨nb, 3, none⟩ (.int .i64 xd)).setCell ⟨nb, 4, none⟩ (.int .i64 xs)).setCell ⟨nb, 5, none⟩ (.int .i64 xu)).setCell ⟨nb, 6, none⟩ (.int .i64 xn)).setCell ⟨nb, 7, none⟩ (.int .i64 xw)).setCell ⟨nb, 8, none⟩ (.string xI)).setCell ⟨nb, 9, none⟩ (.string xO)).setCell ⟨nb, 10, none⟩ (.bool xF)) nb [.string xm, .int .i64 xi, .int .i64 xp, .int .i64 xd, .int .i64 xs, .int .i64 xu, .int .i64 xn, .int .i64 xw, .string xI, .string xO, .bool xF] ∧ XD w.heap.size [.string mc, .int .i64 ip, .int .i64 po, .int .i64 di, .int .i64 st, .int .i64 un, .int .i64 nx, .int .i64 wa, .string inn, .string out, .bool fin] (w.heap.size + 1) [.int .i64 sp, .int .i64 dp, .int .i64 sq, .int .i64 ac, .int .i64 fl, .int .i64 wi, .string da] (w.heap.size + 1 + 1) [.string ⟨#[]⟩, .int .i64 0, .int .i64 0, .int .i64 0, .int .i64 0, .int .i64 0, .int .i64 0, .int .i64 0, .string ⟨#[]⟩, .string ⟨#[]⟩, .bool false] w (((((((((((w8.setCell ⟨nb, 0, none⟩ (.string xm)).setCell ⟨nb, 1, none⟩ (.int .i64 xi)).setCell ⟨nb, 2, none⟩ (.int .i64 xp)).setCell ⟨nb, 3, none⟩ (.int .i64 xd)).setCell ⟨nb, 4, none⟩ (.int .i64 xs)).setCell ⟨nb, 5, none⟩ (.int .i64 xu)).setCell ⟨nb, 6, none⟩ (.int .i64 xn)).setCell ⟨nb, 7, none⟩ (.int .i64 xw)).setCell ⟨nb, 8, none⟩ (.string xI)).setCell ⟨nb, 9, none⟩ (.string xO)).setCell ⟨nb, 10, none⟩ (.bool xF)) ∧ OwnS sgG 7 27 (((((((((((w8.setCell ⟨nb, 0, none⟩ (.string xm)).setCell ⟨nb, 1, none⟩ (.int .i64 xi)).setCell ⟨nb, 2, none⟩ (.int .i64 xp)).setCell ⟨nb, 3, none⟩ (.int .i64 xd)).setCell ⟨nb, 4, none⟩ (.int .i64 xs)).setCell ⟨nb, 5, none⟩ (.int .i64 xu)).setCell ⟨nb, 6, none⟩ (.int .i64 xn)).setCell ⟨nb, 7, none⟩ (.int .i64 xw)).setCell ⟨nb, 8, none⟩ (.string xI)).setCell ⟨nb, 9, none⟩ (.string xO)).setCell ⟨nb, 10, none⟩ (.bool xF)) (w.heap.size + 3) v7 XL) := ⟨(((((((((((NX.field 0 (.string xm)).field 1 (.int .i64 xi)).field 2 (.int .i64 xp)).field 3 (.int .i64 xd)).field 4 (.int .i64 xs)).field 5 (.int .i64 xu)).field 6 (.int .i64 xn)).field 7 (.int .i64 xw)).field 8 (.string xI)).field 9 (.string xO)).field 10 (.bool xF)), FRR.out _ _ G9 L8.out, (((((((((((O8.out.apart9 ⟨nb, 0, none⟩ (.string xm) NE.out).apart9 ⟨nb, 1, none⟩ (.int .i64 xi) NE.out).apart9 ⟨nb, 2, none⟩ (.int .i64 xp) NE.out).apart9 ⟨nb, 3, none⟩ (.int .i64 xd) NE.out).apart9 ⟨nb, 4, none⟩ (.int .i64 xs) NE.out).apart9 ⟨nb, 5, none⟩ (.int .i64 xu) NE.out).apart9 ⟨nb, 6, none⟩ (.int .i64 xn) NE.out).apart9 ⟨nb, 7, none⟩ (.int .i64 xw) NE.out).apart9 ⟨nb, 8, none⟩ (.string xI) NE.out).apart9 ⟨nb, 9, none⟩ (.string xO) NE.out).apart9 ⟨nb, 10, none⟩ (.bool xF) NE.out)⟩
          clear hH1018 zz0 hh0 zz1 hh1 zz2 hh2 zz3 hh3 zz4 hh4 zz5 hh5 zz6 hh6 zz7 hh7 zz8 hh8 zz9 hh9 zz10 hh10 NX L8 O8 FRR
          generalize (((((((((((w8.setCell ⟨nb, 0, none⟩ (.string xm)).setCell ⟨nb, 1, none⟩ (.int .i64 xi)).setCell ⟨nb, 2, none⟩ (.int .i64 xp)).setCell ⟨nb, 3, none⟩ (.int .i64 xd)).setCell ⟨nb, 4, none⟩ (.int .i64 xs)).setCell ⟨nb, 5, none⟩ (.int .i64 xu)).setCell ⟨nb, 6, none⟩ (.int .i64 xn)).setCell ⟨nb, 7, none⟩ (.int .i64 xw)).setCell ⟨nb, 8, none⟩ (.string xI)).setCell ⟨nb, 9, none⟩ (.string xO)).setCell ⟨nb, 10, none⟩ (.bool xF)) = wz at FZ ⊢
          have CZ : Bx wz nb [.string xm, .int .i64 xi, .int .i64 xp, .int .i64 xd, .int .i64 xs, .int .i64 xu, .int .i64 xn, .int .i64 xw, .string xI, .string xO, .bool xF] := FZ.out.1
          have RZ : Bx wz (w.heap.size + 1 + 1) [.string ⟨#[]⟩, .int .i64 0, .int .i64 0, .int .i64 0, .int .i64 0, .int .i64 0, .int .i64 0, .int .i64 0, .string ⟨#[]⟩, .string ⟨#[]⟩, .bool false] := FZ.out.2.1.r
          have BZ9 : Hid (Below w.heap.size w wz) := FZ.out.2.1.out
          have OZ : Hid (OwnS sgG 7 27 wz (w.heap.size + 3) v7 XL) := FZ.out.2.2
          go_wp2_with (first | (refine wpl_put rfl _ _ rfl (w.heap.size + 1 + 1) _ rfl rfl RZ rfl rfl rfl ?_; intro w5 hw5 R5; have B5 : Hid (Below w.heap.size w w5) := (by rw [hw5]; exact below_cells (by omega) _ _ _ BZ9.out); have O5 : Hid (OwnS sgG 7 27 w5 w.heap.size v7 XL) := (by rw [hw5]; exact (own_cells (by omega) _ _ _ OZ.out).lower (by omega)); clear hw5) | (refine wpl_get rfl _ rfl _ rfl (by assumption) rfl ?_) | fail)
          have xx0 : w5.cell? ⟨w.heap.size + 1 + 1, 0, none⟩ = some (.string xm) := R5.cell 0 rfl
          have xx1 : w5.cell? ⟨w.heap.size + 1 + 1, 1, none⟩ = some (.int .i64 xi) := R5.cell 1 rfl
          have xx2 : w5.cell? ⟨w.heap.size + 1 + 1, 2, none⟩ = some (.int .i64 xp) := R5.cell 2 rfl
          have xx3 : w5.cell? ⟨w.heap.size + 1 + 1, 3, none⟩ = some (.int .i64 xd) := R5.cell 3 rfl
          have xx4 : w5.cell? ⟨w.heap.size + 1 + 1, 4, none⟩ = some (.int .i64 xs) := R5.cell 4 rfl
          have xx5 : w5.cell? ⟨w.heap.size + 1 + 1, 5, none⟩ = some (.int .i64 xu) := R5.cell 5 rfl
          have xx6 : w5.cell? ⟨w.heap.size + 1 + 1, 6, none⟩ = some (.int .i64 xn) := R5.cell 6 rfl
          have xx7 : w5.cell? ⟨w.heap.size + 1 + 1, 7, none⟩ = some (.int .i64 xw) := R5.cell 7 rfl
          have xx8 : w5.cell? ⟨w.heap.size + 1 + 1, 8, none⟩ = some (.string xI) := R5.cell 8 rfl
          have xx9 : w5.cell? ⟨w.heap.size + 1 + 1, 9, none⟩ = some (.string xO) := R5.cell 9 rfl
          have xx10 : w5.cell? ⟨w.heap.size + 1 + 1, 10, none⟩ = some (.bool xF) := R5.cell 10 rfl
          (try simp only [Exit.inBlock, Exit.then])
          refine bodyPost_ret (v := .tuple #[.agg #[.string xm, .int .i64 xi, .int .i64 xp, .int .i64 xd, .int .i64 xs, .int .i64 xu, .int .i64 xn, .int .i64 xw, .string xI, .string xO, .bool xF], v7, .int .i64 0]) (by simp [results, Try.results8, go_sem, xx0, xx1, xx2, xx3, xx4, xx5, xx6, xx7, xx8, xx9, xx10]; try rfl) rfl ?_
          exact ⟨_, rfl, O5.out, B5.out⟩
        exact AllReadyH.nil
      exact AllReadyH.nil
    exact AllReadyH.nil
  refine AllReadyH.cons rfl (fun K hK => ?_) ?_
  · go_simp
    have N9 : Bx (w2.alloc (.cells #[.string ⟨#[]⟩, .int .i64 0, .int .i64 0, .int .i64 0, .int .i64 0, .int .i64 0, .int .i64 0, .int .i64 0, .string ⟨#[]⟩, .string ⟨#[]⟩, .bool false] 24)).drew w2.heap.size [.string ⟨#[]⟩, .int .i64 0, .int .i64 0, .int .i64 0, .int .i64 0, .int .i64 0, .int .i64 0, .int .i64 0, .string ⟨#[]⟩, .string ⟨#[]⟩, .bool false] := (Bx.new w2 #[.string ⟨#[]⟩, .int .i64 0, .int .i64 0, .int .i64 0, .int .i64 0, .int .i64 0, .int .i64 0, .int .i64 0, .string ⟨#[]⟩, .string ⟨#[]⟩, .bool false] _).below ((Below.refl _ _).drew)
    have L9 : Hid (XD w.heap.size [.string mc, .int .i64 ip, .int .i64 po, .int .i64 di, .int .i64 st, .int .i64 un, .int .i64 nx, .int .i64 wa, .string inn, .string out, .bool fin] (w.heap.size + 1) [.int .i64 sp, .int .i64 dp, .int .i64 sq, .int .i64 ac, .int .i64 fl, .int .i64 wi, .string da] (w.heap.size + 1 + 1) [.string ⟨#[]⟩, .int .i64 0, .int .i64 0, .int .i64 0, .int .i64 0, .int .i64 0, .int .i64 0, .int .i64 0, .string ⟨#[]⟩, .string ⟨#[]⟩, .bool false] w (w2.alloc (.cells #[.string ⟨#[]⟩, .int .i64 0, .int .i64 0, .int .i64 0, .int .i64 0, .int .i64 0, .int .i64 0, .int .i64 0, .string ⟨#[]⟩, .string ⟨#[]⟩, .bool false] 24)).drew) := SS2.out.below (((Below.refl _ _).alloc (Nat.le_refl _) _).drew)
    have S9 : Hid (w2.heap.size < (w2.alloc (.cells #[.string ⟨#[]⟩, .int .i64 0, .int .i64 0, .int .i64 0, .int .i64 0, .int .i64 0, .int .i64 0, .int .i64 0, .string ⟨#[]⟩, .string ⟨#[]⟩, .bool false] 24)).drew.heap.size) := by show _ < _; simp
    have G9 : w.heap.size + 3 ≤ w2.heap.size := H2
    generalize (w2.alloc (.cells #[.string ⟨#[]⟩, .int .i64 0, .int .i64 0, .int .i64 0, .int .i64 0, .int .i64 0, .int .i64 0, .int .i64 0, .string ⟨#[]⟩, .string ⟨#[]⟩, .bool false] 24)).drew = w9 at N9 L9 S9 ⊢
    obtain ⟨nb, hnb⟩ : ∃ nb, nb = w2.heap.size := ⟨_, rfl⟩
    rw [← hnb] at N9 S9 G9 ⊢
    clear hnb
    refine hK.out _ _ ?_ (fun hH1020 => ?_)
    · (try dsimp only)
      first | (with_reducible exact L8.out) | (with_reducible exact L9.out) | (with_reducible exact L7.out) | (with_reducible exact L6.out) | (with_reducible exact FRR.out _ _ G9 L8.out)
    clear hK K hH0
    refine wpAnyH_ready (rs := [2]) (by kernel_rfl) (by simp) ?_
    refine AllReadyH.cons rfl (fun K hK => ?_) ?_
    · go_simp
      go_at_call 34
      with_reducible refine (TC.out _).mono ?_
      rintro e w6 ⟨rfl, hp⟩
      have b6 : Below w9.heap.size w9 w6 := hp.2.2.2
      have P6 : Hid (w6.cell? ⟨w9.heap.size, 0, none⟩ = some (.func (.func 68) #[] #[]) ∧ w6.cell? ⟨w9.heap.size + 1, 0, none⟩ = some (.func (.func 69) #[] #[])) := ⟨hp.1, hp.2.1⟩
      have Q6 : Hid (w9.heap.size + 2 ≤ w6.heap.size) := hp.2.2.1
      clear hp
      have L6 : Hid (XD w.heap.size [.string mc, .int .i64 ip, .int .i64 po, .int .i64 di, .int .i64 st, .int .i64 un, .int .i64 nx, .int .i64 wa, .string inn, .string out, .bool fin] (w.heap.size + 1) [.int .i64 sp, .int .i64 dp, .int .i64 sq, .int .i64 ac, .int .i64 fl, .int .i64 wi, .string da] (w.heap.size + 1 + 1) [.string ⟨#[]⟩, .int .i64 0, .int .i64 0, .int .i64 0, .int .i64 0, .int .i64 0, .int .i64 0, .int .i64 0, .string ⟨#[]⟩, .string ⟨#[]⟩, .bool false] w w6) := L9.out.below b6
      have N6 : Bx w6 nb [.string ⟨#[]⟩, .int .i64 0, .int .i64 0, .int .i64 0, .int .i64 0, .int .i64 0, .int .i64 0, .int .i64 0, .string ⟨#[]⟩, .string ⟨#[]⟩, .bool false] := N9.below b6
      have S6 : Hid (nb < w6.heap.size) := Nat.lt_of_lt_of_le S9.out b6.size
      clear N9 L9 S9
      clear b6
      refine hK.out _ _ ?_ (fun hH1021 => ?_)
      · (try dsimp only)
        first | (with_reducible exact L8.out) | (with_reducible exact L9.out) | (with_reducible exact L7.out) | (with_reducible exact L6.out) | (with_reducible exact FRR.out _ _ G9 L8.out)
      clear hK K hH1020
      refine wpAnyH_ready (rs := [5]) (by kernel_rfl) (by simp) ?_
      refine AllReadyH.cons rfl (fun K hK => ?_) ?_
      · go_simp
        go_at_call 82
        first | (with_reducible refine (TL.out w9.heap.size (w9.heap.size + 1) w6 (by have := Q6.out; omega) (by have := Q6.out; omega) P6.out.1 P6.out.2).mono ?_) | (with_reducible refine (TL.out w2.heap.size (w2.heap.size + 1) w9 (by have := Q9.out; omega) (by have := Q9.out; omega) P9.out.1 P9.out.2).mono ?_)
        rintro e w8 ⟨v7, rfl, o7, b7⟩
        first | (have L8 : Hid (XD w.heap.size [.string mc, .int .i64 ip, .int .i64 po, .int .i64 di, .int .i64 st, .int .i64 un, .int .i64 nx, .int .i64 wa, .string inn, .string out, .bool fin] (w.heap.size + 1) [.int .i64 sp, .int .i64 dp, .int .i64 sq, .int .i64 ac, .int .i64 fl, .int .i64 wi, .string da] (w.heap.size + 1 + 1) [.string ⟨#[]⟩, .int .i64 0, .int .i64 0, .int .i64 0, .int .i64 0, .int .i64 0, .int .i64 0, .int .i64 0, .string ⟨#[]⟩, .string ⟨#[]⟩, .bool false] w w8) := L9.out.below b7; have NX : Bx w8 nb [.string ⟨#[]⟩, .int .i64 0, .int .i64 0, .int .i64 0, .int .i64 0, .int .i64 0, .int .i64 0, .int .i64 0, .string ⟨#[]⟩, .string ⟨#[]⟩, .bool false] := N9.below b7; have NE : Hid (∀ k, v7.ownBlock = some k → k ≠ nb) := (fun k hk => by have h1 := (o7.lt k hk).1; have h2 := S9.out; omega); have O8 : Hid (OwnS sgG 7 27 w8 (w.heap.size + 3) v7 XL) := o7.lower (HS.out _ L9.out)) | (have L8 : Hid (XD w.heap.size [.string mc, .int .i64 ip, .int .i64 po, .int .i64 di, .int .i64 st, .int .i64 un, .int .i64 nx, .int .i64 wa, .string inn, .string out, .bool fin] (w.heap.size + 1) [.int .i64 sp, .int .i64 dp, .int .i64 sq, .int .i64 ac, .int .i64 fl, .int .i64 wi, .string da] (w.heap.size + 1 + 1) [.string ⟨#[]⟩, .int .i64 0, .int .i64 0, .int .i64 0, .int .i64 0, .int .i64 0, .int .i64 0, .int .i64 0, .string ⟨#[]⟩, .string ⟨#[]⟩, .bool false] w w8) := L6.out.below b7; have NX : Bx w8 nb [.string ⟨#[]⟩, .int .i64 0, .int .i64 0, .int .i64 0, .int .i64 0, .int .i64 0, .int .i64 0, .int .i64 0, .string ⟨#[]⟩, .string ⟨#[]⟩, .bool false] := N6.below b7; have NE : Hid (∀ k, v7.ownBlock = some k → k ≠ nb) := (fun k hk => by have h1 := (o7.lt k hk).1; have h2 := S6.out; omega); have O8 : Hid (OwnS sgG 7 27 w8 (w.heap.size + 3) v7 XL) := o7.lower (HS.out _ L6.out))
        have zz0 : w8.cell? ⟨nb, 0, none⟩ = some (.string ⟨#[]⟩) := NX.cell 0 rfl
        have hh0 : w8.frozen? ⟨nb, 0, none⟩ = false := NX.thaw 0 (by simp)
        have zz1 : w8.cell? ⟨nb, 1, none⟩ = some (.int .i64 0) := NX.cell 1 rfl
        have hh1 : w8.frozen? ⟨nb, 1, none⟩ = false := NX.thaw 1 (by simp)
        have zz2 : w8.cell? ⟨nb, 2, none⟩ = some (.int .i64 0) := NX.cell 2 rfl
        have hh2 : w8.frozen? ⟨nb, 2, none⟩ = false := NX.thaw 2 (by simp)
        have zz3 : w8.cell? ⟨nb, 3, none⟩ = some (.int .i64 0) := NX.cell 3 rfl
        have hh3 : w8.frozen? ⟨nb, 3, none⟩ = false := NX.thaw 3 (by simp)
        have zz4 : w8.cell? ⟨nb, 4, none⟩ = some (.int .i64 0) := NX.cell 4 rfl
        have hh4 : w8.frozen? ⟨nb, 4, none⟩ = false := NX.thaw 4 (by simp)
        have zz5 : w8.cell? ⟨nb, 5, none⟩ = some (.int .i64 0) := NX.cell 5 rfl
        have hh5 : w8.frozen? ⟨nb, 5, none⟩ = false := NX.thaw 5 (by simp)
        have zz6 : w8.cell? ⟨nb, 6, none⟩ = some (.int .i64 0) := NX.cell 6 rfl
        have hh6 : w8.frozen? ⟨nb, 6, none⟩ = false := NX.thaw 6 (by simp)
        have zz7 : w8.cell? ⟨nb, 7, none⟩ = some (.int .i64 0) := NX.cell 7 rfl
        have hh7 : w8.frozen? ⟨nb, 7, none⟩ = false := NX.thaw 7 (by simp)
        have zz8 : w8.cell? ⟨nb, 8, none⟩ = some (.string ⟨#[]⟩) := NX.cell 8 rfl
        have hh8 : w8.frozen? ⟨nb, 8, none⟩ = false := NX.thaw 8 (by simp)
        have zz9 : w8.cell? ⟨nb, 9, none⟩ = some (.string ⟨#[]⟩) := NX.cell 9 rfl
        have hh9 : w8.frozen? ⟨nb, 9, none⟩ = false := NX.thaw 9 (by simp)
        have zz10 : w8.cell? ⟨nb, 10, none⟩ = some (.bool false) := NX.cell 10 rfl
        have hh10 : w8.frozen? ⟨nb, 10, none⟩ = false := NX.thaw 10 (by simp)
        clear b7 o7
        refine hK.out _ _ ?_ (fun hH1022 => ?_)
        · (try dsimp only)
          first | (with_reducible exact L8.out) | (with_reducible exact L9.out) | (with_reducible exact L7.out) | (with_reducible exact L6.out) | (with_reducible exact FRR.out _ _ G9 L8.out)
        clear hK K hH1021
        refine wpAnyH_take (i := 6) (v := ?v1023) rfl (by kernel_rfl) (by kernel_rfl) (by kernel_rfl) (fun _ _ _ h => h) (Or.inl ⟨by rfl, ?hy1023⟩) (by assumption) ?rest1023
        case hy1023 => (intro w hSw; (try dsimp only at hSw); go_simp; (try with_reducible rfl))
        refine wpAnyH_take (i := 7) (v := ?v1024) rfl (by kernel_rfl) (by kernel_rfl) (by kernel_rfl) (fun _ _ _ h => h) (Or.inl ⟨by rfl, ?hy1024⟩) (by assumption) ?rest1024
        case hy1024 => (intro w hSw; (try dsimp only at hSw); go_simp; (try with_reducible rfl))
        refine wpAnyH_take (i := 8) (v := ?v1025) rfl (by kernel_rfl) (by kernel_rfl) (by kernel_rfl) (fun _ _ _ h => h) (Or.inl ⟨by rfl, ?hy1025⟩) (by assumption) ?rest1025
        case hy1025 => (intro w hSw; (try dsimp only at hSw); go_simp; (try with_reducible rfl))
        refine wpAnyH_ready (rs := [10]) (by kernel_rfl) (by simp) ?_
        refine AllReadyH.cons rfl (fun K hK => ?_) ?_
        · go_simp
          refine hK.out _ _ ?_ (fun hH1026 => ?_)
          · (try dsimp only)
            first | (with_reducible exact L8.out) | (with_reducible exact L9.out) | (with_reducible exact L7.out) | (with_reducible exact L6.out) | (with_reducible exact FRR.out _ _ G9 L8.out)
          clear hK K hH1022
          refine wpAnyH_take (i := 11) (v := ?v1027) rfl (by kernel_rfl) (by kernel_rfl) (by kernel_rfl) (fun _ _ _ h => h) (Or.inl ⟨by rfl, ?hy1027⟩) (by assumption) ?rest1027
          case hy1027 => (intro w hSw; (try dsimp only at hSw); go_simp; (try with_reducible rfl))
          refine wpAnyH_done (by kernel_rfl) ?_ _
          have FZ : Hid (Bx (((((((((((w8.setCell ⟨nb, 0, none⟩ (.string xm)).setCell ⟨nb, 1, none⟩ (.int .i64 xi)).setCell ⟨nb, 2, none⟩ (.int .i64 xp)).setCell ⟨nb, 3, none⟩ (.int .i64 xd)).setCell ⟨nb, 4, none⟩ (.int .i64 xs)).setCell ⟨nb, 5, none⟩ (.int .i64 xu)).setCell ⟨nb, 6, none⟩ (.int .i64 xn)).setCell ⟨nb, 7, none⟩ (.int .i64 xw)).setCell ⟨nb, 8, none⟩ (.string xI)).setCell ⟨nb, 9, none⟩ (.string xO)).setCell ⟨nb, 10, none⟩ (.bool xF)) nb [.string xm, .int .i64 xi, .int .i64 xp, .int .i64 xd, .int .i64 xs, .int .i64 xu, .int .i64 xn, .int .i64 xw, .string xI, .string xO, .bool xF] ∧ XD w.heap.size [.string mc, .int .i64 ip, .int .i64 po, .int .i64 di, .int .i64 st, .int .i64 un, .int .i64 nx, .int .i64 wa, .string inn, .string out, .bool fin] (w.heap.size + 1) [.int .i64 sp, .int .i64 dp, .int .i64 sq, .int .i64 ac, .int .i64 fl, .int .i64 wi, .string da] (w.heap.size + 1 + 1) [.string ⟨#[]⟩, .int .i64 0, .int .i64 0, .int .i64 0, .int .i64 0, .int .i64 0, .int .i64 0, .int .i64 0, .string ⟨#[]⟩, .string ⟨#[]⟩, .bool false] w (((((((((((w8.setCell ⟨nb, 0, none⟩ (.string xm)).setCell ⟨nb, 1, none⟩ (.int .i64 xi)).setCell ⟨nb, 2, none⟩ (.int .i64 xp)).setCell ⟨nb, 3, none⟩ (.int .i64 xd)).setCell ⟨nb, 4, none⟩ (.int .i64 xs)).setCell ⟨nb, 5, none⟩ (.int .i64 xu)).setCell ⟨nb, 6, none⟩ (.int .i64 xn)).setCell ⟨nb, 7, none⟩ (.int .i64 xw)).setCell ⟨nb, 8, none⟩ (.string xI)).setCell ⟨nb, 9, none⟩ (.string xO)).setCell ⟨nb, 10, none⟩ (.bool xF)) ∧ OwnS sgG 7 27 (((((((((((w8.setCell ⟨nb, 0, none⟩ (.string xm)).setCell ⟨nb, 1, none⟩ (.int .i64 xi)).setCell ⟨nb, 2, none⟩ (.int .i64 xp)).setCell ⟨nb, 3, none⟩ (.int .i64 xd)).setCell ⟨nb, 4, none⟩ (.int .i64 xs)).setCell ⟨nb, 5, none⟩ (.int .i64 xu)).setCell ⟨nb, 6, none⟩ (.int .i64 xn)).setCell ⟨nb, 7, none⟩ (.int .i64 xw)).setCell ⟨nb, 8, none⟩ (.string xI)).setCell ⟨nb, 9, none⟩ (.string xO)).setCell ⟨nb, 10, none⟩ (.bool xF)) (w.heap.size + 3) v7 XL) := ⟨(((((((((((NX.field 0 (.string xm)).field 1 (.int .i64 xi)).field 2 (.int .i64 xp)).field 3 (.int .i64 xd)).field 4 (.int .i64 xs)).field 5 (.int .i64 xu)).field 6 (.int .i64 xn)).field 7 (.int .i64 xw)).field 8 (.string xI)).field 9 (.string xO)).field 10 (.bool xF)), FRR.out _ _ G9 L8.out, (((((((((((O8.out.apart9 ⟨nb, 0, none⟩ (.string xm) NE.out).apart9 ⟨nb, 1, none⟩ (.int .i64 xi) NE.out).apart9 ⟨nb, 2, none⟩ (.int .i64 xp) NE.out).apart9 ⟨nb, 3, none⟩ (.int .i64 xd) NE.out).apart9 ⟨nb, 4, none⟩ (.int .i64 xs) NE.out).apart9 ⟨nb, 5, none⟩ (.int .i64 xu) NE.out).apart9 ⟨nb, 6, none⟩ (.int .i64 xn) NE.out).apart9 ⟨nb, 7, none⟩ (.int .i64 xw) NE.out).apart9 ⟨nb, 8, none⟩ (.string xI) NE.out).apart9 ⟨nb, 9, none⟩ (.string xO) NE.out).apart9 ⟨nb, 10, none⟩ (.bool xF) NE.out)⟩
          clear hH1026 zz0 hh0 zz1 hh1 zz2 hh2 zz3 hh3 zz4 hh4 zz5 hh5 zz6 hh6 zz7 hh7 zz8 hh8 zz9 hh9 zz10 hh10 NX L8 O8 FRR
          generalize (((((((((((w8.setCell ⟨nb, 0, none⟩ (.string xm)).setCell ⟨nb, 1, none⟩ (.int .i64 xi)).setCell ⟨nb, 2, none⟩ (.int .i64 xp)).setCell ⟨nb, 3, none⟩ (.int .i64 xd)).setCell ⟨nb, 4, none⟩ (.int .i64 xs)).setCell ⟨nb, 5, none⟩ (.int .i64 xu)).setCell ⟨nb, 6, none⟩ (.int .i64 xn)).setCell ⟨nb, 7, none⟩ (.int .i64 xw)).setCell ⟨nb, 8, none⟩ (.string xI)).setCell ⟨nb, 9, none⟩ (.string xO)).setCell ⟨nb, 10, none⟩ (.bool xF)) = wz at FZ ⊢
          have CZ : Bx wz nb [.string xm, .int .i64 xi, .int .i64 xp, .int .i64 xd, .int .i64 xs, .int .i64 xu, .int .i64 xn, .int .i64 xw, .string xI, .string xO, .bool xF] := FZ.out.1
          have RZ : Bx wz (w.heap.size + 1 + 1) [.string ⟨#[]⟩, .int .i64 0, .int .i64 0, .int .i64 0, .int .i64 0, .int .i64 0, .int .i64 0, .int .i64 0, .string ⟨#[]⟩, .string ⟨#[]⟩, .bool false] := FZ.out.2.1.r
          have BZ9 : Hid (Below w.heap.size w wz) := FZ.out.2.1.out
          have OZ : Hid (OwnS sgG 7 27 wz (w.heap.size + 3) v7 XL) := FZ.out.2.2
          go_wp2_with (first | (refine wpl_put rfl _ _ rfl (w.heap.size + 1 + 1) _ rfl rfl RZ rfl rfl rfl ?_; intro w5 hw5 R5; have B5 : Hid (Below w.heap.size w w5) := (by rw [hw5]; exact below_cells (by omega) _ _ _ BZ9.out); have O5 : Hid (OwnS sgG 7 27 w5 w.heap.size v7 XL) := (by rw [hw5]; exact (own_cells (by omega) _ _ _ OZ.out).lower (by omega)); clear hw5) | (refine wpl_get rfl _ rfl _ rfl (by assumption) rfl ?_) | fail)
          have xx0 : w5.cell? ⟨w.heap.size + 1 + 1, 0, none⟩ = some (.string xm) := R5.cell 0 rfl
          have xx1 : w5.cell? ⟨w.heap.size + 1 + 1, 1, none⟩ = some (.int .i64 xi) := R5.cell 1 rfl
          have xx2 : w5.cell? ⟨w.heap.size + 1 + 1, 2, none⟩ = some (.int .i64 xp) := R5.cell 2 rfl
          have xx3 : w5.cell? ⟨w.heap.size + 1 + 1, 3, none⟩ = some (.int .i64 xd) := R5.cell 3 rfl
          have xx4 : w5.cell? ⟨w.heap.size + 1 + 1, 4, none⟩ = some (.int .i64 xs) := R5.cell 4 rfl
          have xx5 : w5.cell? ⟨w.heap.size + 1 + 1, 5, none⟩ = some (.int .i64 xu) := R5.cell 5 rfl
          have xx6 : w5.cell? ⟨w.heap.size + 1 + 1, 6, none⟩ = some (.int .i64 xn) := R5.cell 6 rfl
          have xx7 : w5.cell? ⟨w.heap.size + 1 + 1, 7, none⟩ = some (.int .i64 xw) := R5.cell 7 rfl
          have xx8 : w5.cell? ⟨w.heap.size + 1 + 1, 8, none⟩ = some (.string xI) := R5.cell 8 rfl
          have xx9 : w5.cell? ⟨w.heap.size + 1 + 1, 9, none⟩ = some (.string xO) := R5.cell 9 rfl
          have xx10 : w5.cell? ⟨w.heap.size + 1 + 1, 10, none⟩ = some (.bool xF) := R5.cell 10 rfl
          (try simp only [Exit.inBlock, Exit.then])
          refine bodyPost_ret (v := .tuple #[.agg #[.string xm, .int .i64 xi, .int .i64 xp, .int .i64 xd, .int .i64 xs, .int .i64 xu, .int .i64 xn, .int .i64 xw, .string xI, .string xO, .bool xF], v7, .int .i64 0]) (by simp [results, Try.results8, go_sem, xx0, xx1, xx2, xx3, xx4, xx5, xx6, xx7, xx8, xx9, xx10]; try rfl) rfl ?_
          exact ⟨_, rfl, O5.out, B5.out⟩
        exact AllReadyH.nil
      exact AllReadyH.nil
    exact AllReadyH.nil
  exact AllReadyH.nil
end Go.Proofs.Ytfgghffgfefgpaa
