/- ConnTake: l10Take of the model: what is not taken in, data there. ConnTake: l10Take of the model: what is taken in, data there. ConnTake: l10Take of the model: greetings. ConnTake: l10Take of the model: a greeting to one that is past it, an end alone. -/
import Derived.Test.YtfgghffgfefgpaaJ1
namespace Go.Proofs.Ytfgghffgfefgpaa
open Go.RowKit Go.PlainAid Go.Proofs.Ytfgghffgfefgpaa.Bt Go.Sort
set_option linter.unusedVariables false
set_option maxRecDepth 20000
set_option maxHeartbeats 16000000 in
theorem tkNa_any (mc : ByteArray) (ip po di st un nx wa : Int) (inn out : ByteArray) (fin : Bool) (sp dp sq ac fl wi : Int) (da : ByteArray) (dm : ByteArray) (di1 dp1 dd ds du dn dw : Int) (dI dO : ByteArray) (dF : Bool) (w : World) (t4 : (st == 4) = false) (f4 : (bits BinOp.and IntKind.i64 fl 4 != 0) = false) (f2 : (bits BinOp.and IntKind.i64 fl 2 != 0) = false) (f16 : (bits BinOp.and IntKind.i64 fl 16 == 0) = false) (TK0 : ∀ w, Calls Try.prog 78 #[.agg #[.string mc, .int .i64 ip, .int .i64 po, .int .i64 di, .int .i64 st, .int .i64 un, .int .i64 nx, .int .i64 wa, .string inn, .string out, .bool fin], .int .i64 ac] w fun e w' => e = .returned (.agg #[.string dm, .int .i64 di1, .int .i64 dp1, .int .i64 dd, .int .i64 ds, .int .i64 du, .int .i64 dn, .int .i64 dw, .string dI, .string dO, .bool dF]) ∧ Below w.heap.size w w') (u1 : (ds == 1) = false) (u4 : (ds == 4) = false) (ed : (da.toList == []) = false) (q : (sq == dw) = false) :
    Calls Try.prog 37 #[.agg #[.string mc, .int .i64 ip, .int .i64 po, .int .i64 di, .int .i64 st, .int .i64 un, .int .i64 nx, .int .i64 wa, .string inn, .string out, .bool fin], .agg #[.int .i64 sp, .int .i64 dp, .int .i64 sq, .int .i64 ac, .int .i64 fl, .int .i64 wi, .string da]] w fun e w' => ∃ v, e = .returned (.tuple #[.agg #[.string dm, .int .i64 di1, .int .i64 dp1, .int .i64 dd, .int .i64 ds, .int .i64 du, .int .i64 dn, .int .i64 dw, .string dI, .string dO, .bool dF], v]) ∧ OwnS sgG 7 27 w' w.heap.size v [⟨80, dp1, dn, dw, 16, 1000, ⟨#[]⟩⟩] ∧ Below w.heap.size w w' := by
  have TK : Hid _ := TK0
  clear TK0
  have TA : Hid (∀ w, Calls Try.prog 77 #[.agg #[.string dm, .int .i64 di1, .int .i64 dp1, .int .i64 dd, .int .i64 ds, .int .i64 du, .int .i64 dn, .int .i64 dw, .string dI, .string dO, .bool dF], .int .i64 dn, .int .i64 16, .string ⟨#[]⟩] w fun e w' => e = .returned (.agg #[.int .i64 80, .int .i64 dp1, .int .i64 dn, .int .i64 dw, .int .i64 16, .int .i64 1000, .string ⟨#[]⟩]) ∧ Grw w w') := fun w => l10Reply_any dm di1 dp1 dd ds du dn dw dI dO dF dn 16 ⟨#[]⟩ w
  have C9 : Bx (((w.alloc (.cells #[.string mc, .int .i64 ip, .int .i64 po, .int .i64 di, .int .i64 st, .int .i64 un, .int .i64 nx, .int .i64 wa, .string inn, .string out, .bool fin] 24)).alloc (.cells #[.int .i64 sp, .int .i64 dp, .int .i64 sq, .int .i64 ac, .int .i64 fl, .int .i64 wi, .string da] 27)).alloc (.cells #[.string ⟨#[]⟩, .int .i64 0, .int .i64 0, .int .i64 0, .int .i64 0, .int .i64 0, .int .i64 0, .int .i64 0, .string ⟨#[]⟩, .string ⟨#[]⟩, .bool false] 24)) w.heap.size [.string mc, .int .i64 ip, .int .i64 po, .int .i64 di, .int .i64 st, .int .i64 un, .int .i64 nx, .int .i64 wa, .string inn, .string out, .bool fin] := ((Bx.new w _ _).below ((Below.refl _ _).alloc (Nat.le_refl _) _)).below ((Below.refl _ _).alloc (Nat.le_refl _) _)
  have G9 : Bx (((w.alloc (.cells #[.string mc, .int .i64 ip, .int .i64 po, .int .i64 di, .int .i64 st, .int .i64 un, .int .i64 nx, .int .i64 wa, .string inn, .string out, .bool fin] 24)).alloc (.cells #[.int .i64 sp, .int .i64 dp, .int .i64 sq, .int .i64 ac, .int .i64 fl, .int .i64 wi, .string da] 27)).alloc (.cells #[.string ⟨#[]⟩, .int .i64 0, .int .i64 0, .int .i64 0, .int .i64 0, .int .i64 0, .int .i64 0, .int .i64 0, .string ⟨#[]⟩, .string ⟨#[]⟩, .bool false] 24)) (w.heap.size + 1) [.int .i64 sp, .int .i64 dp, .int .i64 sq, .int .i64 ac, .int .i64 fl, .int .i64 wi, .string da] := by
    have h := (Bx.new (w.alloc (.cells #[.string mc, .int .i64 ip, .int .i64 po, .int .i64 di, .int .i64 st, .int .i64 un, .int .i64 nx, .int .i64 wa, .string inn, .string out, .bool fin] 24)) #[.int .i64 sp, .int .i64 dp, .int .i64 sq, .int .i64 ac, .int .i64 fl, .int .i64 wi, .string da] 27).below ((Below.refl _ _).alloc (Nat.le_refl _) (.cells #[.string ⟨#[]⟩, .int .i64 0, .int .i64 0, .int .i64 0, .int .i64 0, .int .i64 0, .int .i64 0, .int .i64 0, .string ⟨#[]⟩, .string ⟨#[]⟩, .bool false] 24))
    rw [World.size_alloc] at h
    exact h
  have R9 : Bx (((w.alloc (.cells #[.string mc, .int .i64 ip, .int .i64 po, .int .i64 di, .int .i64 st, .int .i64 un, .int .i64 nx, .int .i64 wa, .string inn, .string out, .bool fin] 24)).alloc (.cells #[.int .i64 sp, .int .i64 dp, .int .i64 sq, .int .i64 ac, .int .i64 fl, .int .i64 wi, .string da] 27)).alloc (.cells #[.string ⟨#[]⟩, .int .i64 0, .int .i64 0, .int .i64 0, .int .i64 0, .int .i64 0, .int .i64 0, .int .i64 0, .string ⟨#[]⟩, .string ⟨#[]⟩, .bool false] 24)) (w.heap.size + 1 + 1) [.string ⟨#[]⟩, .int .i64 0, .int .i64 0, .int .i64 0, .int .i64 0, .int .i64 0, .int .i64 0, .int .i64 0, .string ⟨#[]⟩, .string ⟨#[]⟩, .bool false] := by
    have h := Bx.new ((w.alloc (.cells #[.string mc, .int .i64 ip, .int .i64 po, .int .i64 di, .int .i64 st, .int .i64 un, .int .i64 nx, .int .i64 wa, .string inn, .string out, .bool fin] 24)).alloc (.cells #[.int .i64 sp, .int .i64 dp, .int .i64 sq, .int .i64 ac, .int .i64 fl, .int .i64 wi, .string da] 27)) #[.string ⟨#[]⟩, .int .i64 0, .int .i64 0, .int .i64 0, .int .i64 0, .int .i64 0, .int .i64 0, .int .i64 0, .string ⟨#[]⟩, .string ⟨#[]⟩, .bool false] 24
    rw [World.size_alloc, World.size_alloc] at h
    exact h
  have B9 : Hid (Below w.heap.size w (((w.alloc (.cells #[.string mc, .int .i64 ip, .int .i64 po, .int .i64 di, .int .i64 st, .int .i64 un, .int .i64 nx, .int .i64 wa, .string inn, .string out, .bool fin] 24)).alloc (.cells #[.int .i64 sp, .int .i64 dp, .int .i64 sq, .int .i64 ac, .int .i64 fl, .int .i64 wi, .string da] 27)).alloc (.cells #[.string ⟨#[]⟩, .int .i64 0, .int .i64 0, .int .i64 0, .int .i64 0, .int .i64 0, .int .i64 0, .int .i64 0, .string ⟨#[]⟩, .string ⟨#[]⟩, .bool false] 24))) := ((((Below.refl _ _).alloc (Nat.le_refl _) _).alloc (by simp) _).alloc (by simp; omega) _)
  have C0 : Bx ((((w.alloc (.cells #[.string mc, .int .i64 ip, .int .i64 po, .int .i64 di, .int .i64 st, .int .i64 un, .int .i64 nx, .int .i64 wa, .string inn, .string out, .bool fin] 24)).alloc (.cells #[.int .i64 sp, .int .i64 dp, .int .i64 sq, .int .i64 ac, .int .i64 fl, .int .i64 wi, .string da] 27)).alloc (.cells #[.string ⟨#[]⟩, .int .i64 0, .int .i64 0, .int .i64 0, .int .i64 0, .int .i64 0, .int .i64 0, .int .i64 0, .string ⟨#[]⟩, .string ⟨#[]⟩, .bool false] 24)).alloc (.cells #[] 27)) w.heap.size [.string mc, .int .i64 ip, .int .i64 po, .int .i64 di, .int .i64 st, .int .i64 un, .int .i64 nx, .int .i64 wa, .string inn, .string out, .bool fin] := C9.below ((Below.refl _ _).alloc (Nat.le_refl _) _)
  have G0 : Bx ((((w.alloc (.cells #[.string mc, .int .i64 ip, .int .i64 po, .int .i64 di, .int .i64 st, .int .i64 un, .int .i64 nx, .int .i64 wa, .string inn, .string out, .bool fin] 24)).alloc (.cells #[.int .i64 sp, .int .i64 dp, .int .i64 sq, .int .i64 ac, .int .i64 fl, .int .i64 wi, .string da] 27)).alloc (.cells #[.string ⟨#[]⟩, .int .i64 0, .int .i64 0, .int .i64 0, .int .i64 0, .int .i64 0, .int .i64 0, .int .i64 0, .string ⟨#[]⟩, .string ⟨#[]⟩, .bool false] 24)).alloc (.cells #[] 27)) (w.heap.size + 1) [.int .i64 sp, .int .i64 dp, .int .i64 sq, .int .i64 ac, .int .i64 fl, .int .i64 wi, .string da] := G9.below ((Below.refl _ _).alloc (Nat.le_refl _) _)
  have R0 : Bx ((((w.alloc (.cells #[.string mc, .int .i64 ip, .int .i64 po, .int .i64 di, .int .i64 st, .int .i64 un, .int .i64 nx, .int .i64 wa, .string inn, .string out, .bool fin] 24)).alloc (.cells #[.int .i64 sp, .int .i64 dp, .int .i64 sq, .int .i64 ac, .int .i64 fl, .int .i64 wi, .string da] 27)).alloc (.cells #[.string ⟨#[]⟩, .int .i64 0, .int .i64 0, .int .i64 0, .int .i64 0, .int .i64 0, .int .i64 0, .int .i64 0, .string ⟨#[]⟩, .string ⟨#[]⟩, .bool false] 24)).alloc (.cells #[] 27)) (w.heap.size + 1 + 1) [.string ⟨#[]⟩, .int .i64 0, .int .i64 0, .int .i64 0, .int .i64 0, .int .i64 0, .int .i64 0, .int .i64 0, .string ⟨#[]⟩, .string ⟨#[]⟩, .bool false] := R9.below ((Below.refl _ _).alloc (Nat.le_refl _) _)
  have B0 : Hid (Below w.heap.size w ((((w.alloc (.cells #[.string mc, .int .i64 ip, .int .i64 po, .int .i64 di, .int .i64 st, .int .i64 un, .int .i64 nx, .int .i64 wa, .string inn, .string out, .bool fin] 24)).alloc (.cells #[.int .i64 sp, .int .i64 dp, .int .i64 sq, .int .i64 ac, .int .i64 fl, .int .i64 wi, .string da] 27)).alloc (.cells #[.string ⟨#[]⟩, .int .i64 0, .int .i64 0, .int .i64 0, .int .i64 0, .int .i64 0, .int .i64 0, .int .i64 0, .string ⟨#[]⟩, .string ⟨#[]⟩, .bool false] 24)).alloc (.cells #[] 27))) := (((((Below.refl _ _).alloc (Nat.le_refl _) _).alloc (by simp) _).alloc (by simp; omega) _).alloc (by simp; omega) _)
  have O0 : OwnS sgG 7 27 ((((w.alloc (.cells #[.string mc, .int .i64 ip, .int .i64 po, .int .i64 di, .int .i64 st, .int .i64 un, .int .i64 nx, .int .i64 wa, .string inn, .string out, .bool fin] 24)).alloc (.cells #[.int .i64 sp, .int .i64 dp, .int .i64 sq, .int .i64 ac, .int .i64 fl, .int .i64 wi, .string da] 27)).alloc (.cells #[.string ⟨#[]⟩, .int .i64 0, .int .i64 0, .int .i64 0, .int .i64 0, .int .i64 0, .int .i64 0, .int .i64 0, .string ⟨#[]⟩, .string ⟨#[]⟩, .bool false] 24)).alloc (.cells #[] 27)) (w.heap.size + 3) (.slice (some ⟨w.heap.size + 1 + 1 + 1, 0, none⟩) 0 0) [] := lit_at (by omega) (by simp)
  clear C9 G9 R9 B9
  go_enter Try.func37, Try.ntmps37
  go_wp2_with fail
  refine (TK.out _).mono ?_
  rintro e w1 ⟨rfl, b1⟩
  have C1 : Bx w1 w.heap.size [.string mc, .int .i64 ip, .int .i64 po, .int .i64 di, .int .i64 st, .int .i64 un, .int .i64 nx, .int .i64 wa, .string inn, .string out, .bool fin] := C0.below b1
  have G1 : Bx w1 (w.heap.size + 1) [.int .i64 sp, .int .i64 dp, .int .i64 sq, .int .i64 ac, .int .i64 fl, .int .i64 wi, .string da] := G0.below b1
  have R1 : Bx w1 (w.heap.size + 1 + 1) [.string ⟨#[]⟩, .int .i64 0, .int .i64 0, .int .i64 0, .int .i64 0, .int .i64 0, .int .i64 0, .int .i64 0, .string ⟨#[]⟩, .string ⟨#[]⟩, .bool false] := R0.below b1
  have B1 : Hid (Below w.heap.size w w1) := B0.out.trans (b1.mono B0.out.size)
  have O1 : OwnS sgG 7 27 w1 (w.heap.size + 3) (.slice (some ⟨w.heap.size + 1 + 1 + 1, 0, none⟩) 0 0) [] := O0.now b1
  clear b1 C0 G0 R0 B0 O0 TK
  dsimp only
  refine (by assumption : ∀ (a : Act) (w : World), wpList _ _ _ _ a w → _) _ _ ?_
  (refine wpl_put rfl _ _ rfl (w.heap.size) _ rfl rfl C1 rfl rfl rfl ?_; intro w3 hw3 C3; have G3 : Bx w3 (w.heap.size + 1) [.int .i64 sp, .int .i64 dp, .int .i64 sq, .int .i64 ac, .int .i64 fl, .int .i64 wi, .string da] := (by rw [hw3]; exact G1.apart _ (by omega)); have R3 : Bx w3 (w.heap.size + 1 + 1) [.string ⟨#[]⟩, .int .i64 0, .int .i64 0, .int .i64 0, .int .i64 0, .int .i64 0, .int .i64 0, .int .i64 0, .string ⟨#[]⟩, .string ⟨#[]⟩, .bool false] := (by rw [hw3]; exact R1.apart _ (by omega)); have B3 : Hid (Below w.heap.size w w3) := (by rw [hw3]; exact below_cells (Nat.le_refl _) _ _ _ B1.out); have O3 : Hid (OwnS sgG 7 27 w3 (w.heap.size + 3) (.slice (some ⟨w.heap.size + 1 + 1 + 1, 0, none⟩) 0 0) []) := (by rw [hw3]; exact own_cells (by omega) _ _ _ O1); have v4 : w3.cell? ⟨w.heap.size, 4, none⟩ = some (.int .i64 ds) := C3.cell 4 rfl; have v7 : w3.cell? ⟨w.heap.size, 7, none⟩ = some (.int .i64 dw) := C3.cell 7 rfl; have v8 : w3.cell? ⟨w.heap.size, 8, none⟩ = some (.string dI) := C3.cell 8 rfl; have z7 : w3.frozen? ⟨w.heap.size, 7, none⟩ = false := C3.thaw 7 (by simp); have z8 : w3.frozen? ⟨w.heap.size, 8, none⟩ = false := C3.thaw 8 (by simp); have k2 : w3.cell? ⟨w.heap.size + 1, 2, none⟩ = some (.int .i64 sq) := G3.cell 2 rfl; have k4 : w3.cell? ⟨w.heap.size + 1, 4, none⟩ = some (.int .i64 fl) := G3.cell 4 rfl; have k6 : w3.cell? ⟨w.heap.size + 1, 6, none⟩ = some (.string da) := G3.cell 6 rfl; clear hw3 C1 G1 R1 B1 O1)
  go_wp2_with fail
  have C5 := C3
  have R5 := R3
  have B5 := B3
  clear C3 R3 B3
  clear v4 v7 v8 z7 z8 k2 k4 k6 G3 O3
  generalize w3 = w5 at C5 R5 B5 ⊢
  have hs5 : w.heap.size + 3 ≤ w5.heap.size := by
    have := World.block_lt_of_cell? w5 _ (R5.cell 0 rfl)
    dsimp only at this
    omega
  have SS : Hid (XQ (w.heap.size) [.string dm, .int .i64 di1, .int .i64 dp1, .int .i64 dd, .int .i64 ds, .int .i64 du, .int .i64 dn, .int .i64 dw, .string dI, .string dO, .bool dF] w w5.drew) := ⟨C5.below ((Below.refl _ _).drew), B5.out.drew⟩
  have RS : Hid (Bx w5.drew (w.heap.size + 1 + 1) [.string ⟨#[]⟩, .int .i64 0, .int .i64 0, .int .i64 0, .int .i64 0, .int .i64 0, .int .i64 0, .int .i64 0, .string ⟨#[]⟩, .string ⟨#[]⟩, .bool false]) := R5.below ((Below.refl _ _).drew)
  clear C5 R5 B5
  refine wp_region_held_drew (S := (fun wx => XQ (w.heap.size) [.string dm, .int .i64 di1, .int .i64 dp1, .int .i64 dd, .int .i64 ds, .int .i64 du, .int .i64 dn, .int .i64 dw, .string dI, .string dO, .bool dF] w wx)) (by kernel_rfl) ?_ (fun hH0 => ?_)
  · with_reducible exact SS.out
  refine wpAnyH_take (i := 0) (v := .agg #[.string dm, .int .i64 di1, .int .i64 dp1, .int .i64 dd, .int .i64 ds, .int .i64 du, .int .i64 dn, .int .i64 dw, .string dI, .string dO, .bool dF]) rfl (by kernel_rfl) (by kernel_rfl) (by kernel_rfl) (fun _ _ _ h => h) (yieldsIf_load_mid (by rfl) 24 _ rfl (w.heap.size) 0 rfl [.string dm, .int .i64 di1, .int .i64 dp1, .int .i64 dd, .int .i64 ds, .int .i64 du, .int .i64 dn, .int .i64 dw, .string dI, .string dO, .bool dF] _ (fun _ h => h.c.cl) Try.underlying24 rfl rfl) (by assumption) ?rest1001
  refine wpAnyH_take (i := 1) (v := .agg #[.string dm, .int .i64 di1, .int .i64 dp1, .int .i64 dd, .int .i64 ds, .int .i64 du, .int .i64 dn, .int .i64 dw, .string dI, .string dO, .bool dF]) rfl (by kernel_rfl) (by kernel_rfl) (by kernel_rfl) (fun _ _ _ h => h) (yieldsIf_load_mid (by rfl) 24 _ rfl (w.heap.size) 0 rfl [.string dm, .int .i64 di1, .int .i64 dp1, .int .i64 dd, .int .i64 ds, .int .i64 du, .int .i64 dn, .int .i64 dw, .string dI, .string dO, .bool dF] _ (fun _ h => h.c.cl) Try.underlying24 rfl rfl) (by assumption) ?rest1002
  refine wpAnyH_take (i := 2) (v := ?v1003) rfl (by kernel_rfl) (by kernel_rfl) (by kernel_rfl) (fun _ _ _ h => h) (Or.inl ⟨by rfl, ?hy1003⟩) (by assumption) ?rest1003
  case hy1003 => (intro w hSw; (try dsimp only at hSw); go_simp; (try with_reducible rfl))
  refine wpAnyH_take (i := 3) (v := .int .i64 dn) rfl (by kernel_rfl) (by kernel_rfl) (by kernel_rfl) (fun _ _ _ h => h) (Or.inl ⟨by rfl, ?hy1004⟩) (by assumption) ?rest1004
  case hy1004 =>
    intro wz hSw
    have hf := hSw.c.cell 6 rfl
    go_simp
  refine wpAnyH_ready (rs := [4]) (by kernel_rfl) (by simp) ?_
  refine AllReadyH.cons rfl (fun K hK => ?_) ?_
  · go_simp
    go_at_call 77
    with_reducible refine (TA.out _).mono ?_
    rintro e w6 ⟨rfl, g6⟩
    have hs6 : w.heap.size + 3 ≤ w6.heap.size := Nat.le_trans (by simpa using hs5) g6.below.size
    have L6 : Hid (XQ (w.heap.size) [.string dm, .int .i64 di1, .int .i64 dp1, .int .i64 dd, .int .i64 ds, .int .i64 du, .int .i64 dn, .int .i64 dw, .string dI, .string dO, .bool dF] w w6) := SS.out.below g6.below
    have R6 : Hid (Bx w6 (w.heap.size + 1 + 1) [.string ⟨#[]⟩, .int .i64 0, .int .i64 0, .int .i64 0, .int .i64 0, .int .i64 0, .int .i64 0, .int .i64 0, .string ⟨#[]⟩, .string ⟨#[]⟩, .bool false]) := RS.out.below g6.below
    have LA : Hid (XQ (w.heap.size) [.string dm, .int .i64 di1, .int .i64 dp1, .int .i64 dd, .int .i64 ds, .int .i64 du, .int .i64 dn, .int .i64 dw, .string dI, .string dO, .bool dF] w (w6.alloc (.cells #[.int .i64 80, .int .i64 dp1, .int .i64 dn, .int .i64 dw, .int .i64 16, .int .i64 1000, .string ⟨#[]⟩] 27))) := L6.out.below ((Below.refl _ _).alloc (Nat.le_refl _) _)
    clear g6 SS RS
    refine hK.out _ _ ?_ (fun hH1005 => ?_)
    · (try dsimp only)
      first | (with_reducible exact L6.out) | (with_reducible exact LA.out) | (with_reducible exact F8.out.1) | (with_reducible exact F8.out.2)
    clear hK K hH0
    refine wpAnyH_ready (rs := [5, 6]) (by kernel_rfl) (by simp) ?_
    refine AllReadyH.cons rfl (fun K hK => ?_) ?_
    · go_simp
      refine hK.out _ _ ?_ (fun hH1006 => ?_)
      · (try dsimp only)
        first | (with_reducible exact L6.out) | (with_reducible exact LA.out) | (with_reducible exact F8.out.1) | (with_reducible exact F8.out.2)
      clear hK K hH1005
      refine wpAnyH_ready (rs := [6]) (by kernel_rfl) (by simp) ?_
      refine AllReadyH.cons rfl (fun K hK => ?_) ?_
      · skip
        refine wpr_put rfl _ _ rfl (w.heap.size + 1 + 1) _ rfl rfl (R6.out.below ((Below.refl _ _).alloc (Nat.le_refl _) (.cells #[.int .i64 80, .int .i64 dp1, .int .i64 dn, .int .i64 dw, .int .i64 16, .int .i64 1000, .string ⟨#[]⟩] 27))) rfl rfl rfl ?_
        intro w8 hw8 R8
        have F8 : Hid (XQ (w.heap.size) [.string dm, .int .i64 di1, .int .i64 dp1, .int .i64 dd, .int .i64 ds, .int .i64 du, .int .i64 dn, .int .i64 dw, .string dI, .string dO, .bool dF] w w8 ∧ OwnS sgG 7 27 w8 w.heap.size (.slice (some ⟨w6.heap.size, 0, none⟩) 1 1) [⟨80, dp1, dn, dw, 16, 1000, ⟨#[]⟩⟩]) := by
          rw [hw8]
          exact ⟨LA.out.cells (by omega) (by omega), (own_cells (by omega) _ _ _ (own1 w6 (w.heap.size + 3) 80 dp1 dn dw 16 1000 ⟨#[]⟩ hs6)).lower (by omega)⟩
        clear hw8
        refine hK.out _ _ ?_ (fun hH1007 => ?_)
        · (try dsimp only)
          first | (with_reducible exact L6.out) | (with_reducible exact LA.out) | (with_reducible exact F8.out.1) | (with_reducible exact F8.out.2)
        clear hK K hH1006
        refine wpAnyH_take (i := 7) (v := ?v1008) rfl (by kernel_rfl) (by kernel_rfl) (by kernel_rfl) (fun _ _ _ h => h) (Or.inl ⟨by rfl, ?hy1008⟩) (by assumption) ?rest1008
        case hy1008 => (intro w hSw; (try dsimp only at hSw); go_simp; (try with_reducible rfl))
        refine wpAnyH_done (by kernel_rfl) ?_ _
        have O9 : Hid (OwnS sgG 7 27 w8 w.heap.size (.slice (some ⟨w6.heap.size, 0, none⟩) 1 1) [⟨80, dp1, dn, dw, 16, 1000, ⟨#[]⟩⟩] ∧ Below w.heap.size w w8) := ⟨F8.out.2, F8.out.1.out⟩
        have R9 := R8
        clear hH1007
        go_wp2
        have xx0 : w8.cell? ⟨w.heap.size + 1 + 1, 0, none⟩ = some (.string dm) := R9.cell 0 rfl
        have xx1 : w8.cell? ⟨w.heap.size + 1 + 1, 1, none⟩ = some (.int .i64 di1) := R9.cell 1 rfl
        have xx2 : w8.cell? ⟨w.heap.size + 1 + 1, 2, none⟩ = some (.int .i64 dp1) := R9.cell 2 rfl
        have xx3 : w8.cell? ⟨w.heap.size + 1 + 1, 3, none⟩ = some (.int .i64 dd) := R9.cell 3 rfl
        have xx4 : w8.cell? ⟨w.heap.size + 1 + 1, 4, none⟩ = some (.int .i64 ds) := R9.cell 4 rfl
        have xx5 : w8.cell? ⟨w.heap.size + 1 + 1, 5, none⟩ = some (.int .i64 du) := R9.cell 5 rfl
        have xx6 : w8.cell? ⟨w.heap.size + 1 + 1, 6, none⟩ = some (.int .i64 dn) := R9.cell 6 rfl
        have xx7 : w8.cell? ⟨w.heap.size + 1 + 1, 7, none⟩ = some (.int .i64 dw) := R9.cell 7 rfl
        have xx8 : w8.cell? ⟨w.heap.size + 1 + 1, 8, none⟩ = some (.string dI) := R9.cell 8 rfl
        have xx9 : w8.cell? ⟨w.heap.size + 1 + 1, 9, none⟩ = some (.string dO) := R9.cell 9 rfl
        have xx10 : w8.cell? ⟨w.heap.size + 1 + 1, 10, none⟩ = some (.bool dF) := R9.cell 10 rfl
        (try simp only [Exit.inBlock, Exit.then])
        refine bodyPost_ret (v := .tuple #[.agg #[.string dm, .int .i64 di1, .int .i64 dp1, .int .i64 dd, .int .i64 ds, .int .i64 du, .int .i64 dn, .int .i64 dw, .string dI, .string dO, .bool dF], .slice (some ⟨w6.heap.size, 0, none⟩) 1 1]) (by simp [results, Try.results37, go_sem, xx0, xx1, xx2, xx3, xx4, xx5, xx6, xx7, xx8, xx9, xx10]; try rfl) rfl ?_
        exact ⟨_, rfl, O9.out.1, O9.out.2⟩
      exact AllReadyH.nil
    refine AllReadyH.cons rfl (fun K hK => ?_) ?_
    · skip
      refine wpr_put rfl _ _ rfl (w.heap.size + 1 + 1) _ rfl rfl R6.out rfl rfl rfl ?_
      intro w8 hw8 R8
      have hz8 : w.heap.size ≤ w8.heap.size := by
        have := World.block_lt_of_cell? w8 _ (R8.cell 0 rfl)
        dsimp only at this
        omega
      have F8 : Hid (XQ (w.heap.size) [.string dm, .int .i64 di1, .int .i64 dp1, .int .i64 dd, .int .i64 ds, .int .i64 du, .int .i64 dn, .int .i64 dw, .string dI, .string dO, .bool dF] w w8 ∧ XQ (w.heap.size) [.string dm, .int .i64 di1, .int .i64 dp1, .int .i64 dd, .int .i64 ds, .int .i64 du, .int .i64 dn, .int .i64 dw, .string dI, .string dO, .bool dF] w (w8.alloc (.cells #[.int .i64 80, .int .i64 dp1, .int .i64 dn, .int .i64 dw, .int .i64 16, .int .i64 1000, .string ⟨#[]⟩] 27))) := by
        have h : XQ (w.heap.size) [.string dm, .int .i64 di1, .int .i64 dp1, .int .i64 dd, .int .i64 ds, .int .i64 du, .int .i64 dn, .int .i64 dw, .string dI, .string dO, .bool dF] w w8 := by rw [hw8]; exact L6.out.cells (by omega) (by omega)
        exact ⟨h, h.below ((Below.refl _ _).alloc (Nat.le_refl _) _)⟩
      clear hw8
      refine hK.out _ _ ?_ (fun hH1009 => ?_)
      · (try dsimp only)
        first | (with_reducible exact L6.out) | (with_reducible exact LA.out) | (with_reducible exact F8.out.1) | (with_reducible exact F8.out.2)
      clear hK K hH1005
      refine wpAnyH_ready (rs := [5]) (by kernel_rfl) (by simp) ?_
      refine AllReadyH.cons rfl (fun K hK => ?_) ?_
      · go_simp
        refine hK.out _ _ ?_ (fun hH1010 => ?_)
        · (try dsimp only)
          first | (with_reducible exact L6.out) | (with_reducible exact LA.out) | (with_reducible exact F8.out.1) | (with_reducible exact F8.out.2)
        clear hK K hH1009
        refine wpAnyH_take (i := 7) (v := ?v1011) rfl (by kernel_rfl) (by kernel_rfl) (by kernel_rfl) (fun _ _ _ h => h) (Or.inl ⟨by rfl, ?hy1011⟩) (by assumption) ?rest1011
        case hy1011 => (intro w hSw; (try dsimp only at hSw); go_simp; (try with_reducible rfl))
        refine wpAnyH_done (by kernel_rfl) ?_ _
        have O9 : Hid (OwnS sgG 7 27 (w8.alloc (.cells #[.int .i64 80, .int .i64 dp1, .int .i64 dn, .int .i64 dw, .int .i64 16, .int .i64 1000, .string ⟨#[]⟩] 27)) w.heap.size (.slice (some ⟨w8.heap.size, 0, none⟩) 1 1) [⟨80, dp1, dn, dw, 16, 1000, ⟨#[]⟩⟩] ∧ Below w.heap.size w (w8.alloc (.cells #[.int .i64 80, .int .i64 dp1, .int .i64 dn, .int .i64 dw, .int .i64 16, .int .i64 1000, .string ⟨#[]⟩] 27))) := ⟨own1 w8 _ 80 dp1 dn dw 16 1000 ⟨#[]⟩ hz8, F8.out.2.out⟩
        have R9 := R8.below ((Below.refl _ _).alloc (Nat.le_refl _) (.cells #[.int .i64 80, .int .i64 dp1, .int .i64 dn, .int .i64 dw, .int .i64 16, .int .i64 1000, .string ⟨#[]⟩] 27))
        clear hH1010
        generalize (w8.alloc (.cells #[.int .i64 80, .int .i64 dp1, .int .i64 dn, .int .i64 dw, .int .i64 16, .int .i64 1000, .string ⟨#[]⟩] 27)) = w9 at O9 R9 ⊢
        go_wp2
        have xx0 : w9.cell? ⟨w.heap.size + 1 + 1, 0, none⟩ = some (.string dm) := R9.cell 0 rfl
        have xx1 : w9.cell? ⟨w.heap.size + 1 + 1, 1, none⟩ = some (.int .i64 di1) := R9.cell 1 rfl
        have xx2 : w9.cell? ⟨w.heap.size + 1 + 1, 2, none⟩ = some (.int .i64 dp1) := R9.cell 2 rfl
        have xx3 : w9.cell? ⟨w.heap.size + 1 + 1, 3, none⟩ = some (.int .i64 dd) := R9.cell 3 rfl
        have xx4 : w9.cell? ⟨w.heap.size + 1 + 1, 4, none⟩ = some (.int .i64 ds) := R9.cell 4 rfl
        have xx5 : w9.cell? ⟨w.heap.size + 1 + 1, 5, none⟩ = some (.int .i64 du) := R9.cell 5 rfl
        have xx6 : w9.cell? ⟨w.heap.size + 1 + 1, 6, none⟩ = some (.int .i64 dn) := R9.cell 6 rfl
        have xx7 : w9.cell? ⟨w.heap.size + 1 + 1, 7, none⟩ = some (.int .i64 dw) := R9.cell 7 rfl
        have xx8 : w9.cell? ⟨w.heap.size + 1 + 1, 8, none⟩ = some (.string dI) := R9.cell 8 rfl
        have xx9 : w9.cell? ⟨w.heap.size + 1 + 1, 9, none⟩ = some (.string dO) := R9.cell 9 rfl
        have xx10 : w9.cell? ⟨w.heap.size + 1 + 1, 10, none⟩ = some (.bool dF) := R9.cell 10 rfl
        (try simp only [Exit.inBlock, Exit.then])
        refine bodyPost_ret (v := .tuple #[.agg #[.string dm, .int .i64 di1, .int .i64 dp1, .int .i64 dd, .int .i64 ds, .int .i64 du, .int .i64 dn, .int .i64 dw, .string dI, .string dO, .bool dF], .slice (some ⟨w8.heap.size, 0, none⟩) 1 1]) (by simp [results, Try.results37, go_sem, xx0, xx1, xx2, xx3, xx4, xx5, xx6, xx7, xx8, xx9, xx10]; try rfl) rfl ?_
        exact ⟨_, rfl, O9.out.1, O9.out.2⟩
      exact AllReadyH.nil
    exact AllReadyH.nil
  exact AllReadyH.nil
set_option maxHeartbeats 16000000 in
theorem tkMa_any (mc : ByteArray) (ip po di st un nx wa : Int) (inn out : ByteArray) (fin : Bool) (sp dp sq ac fl wi : Int) (da : ByteArray) (dm : ByteArray) (di1 dp1 dd ds du dn dw : Int) (dI dO : ByteArray) (dF : Bool) (w : World) (t4 : (st == 4) = false) (f4 : (bits BinOp.and IntKind.i64 fl 4 != 0) = false) (f2 : (bits BinOp.and IntKind.i64 fl 2 != 0) = false) (f16 : (bits BinOp.and IntKind.i64 fl 16 == 0) = false) (TK0 : ∀ w, Calls Try.prog 78 #[.agg #[.string mc, .int .i64 ip, .int .i64 po, .int .i64 di, .int .i64 st, .int .i64 un, .int .i64 nx, .int .i64 wa, .string inn, .string out, .bool fin], .int .i64 ac] w fun e w' => e = .returned (.agg #[.string dm, .int .i64 di1, .int .i64 dp1, .int .i64 dd, .int .i64 ds, .int .i64 du, .int .i64 dn, .int .i64 dw, .string dI, .string dO, .bool dF]) ∧ Below w.heap.size w w') (u1 : (ds == 1) = false) (u4 : (ds == 4) = false) (ed : (da.toList == []) = false) (q : (sq == dw) = true) (hi : dI.size ≤ 300) (hda : da.size ≤ 360) (r : ¬ (dI.size : Int) + (da.size : Int) ≤ 300) :
    Calls Try.prog 37 #[.agg #[.string mc, .int .i64 ip, .int .i64 po, .int .i64 di, .int .i64 st, .int .i64 un, .int .i64 nx, .int .i64 wa, .string inn, .string out, .bool fin], .agg #[.int .i64 sp, .int .i64 dp, .int .i64 sq, .int .i64 ac, .int .i64 fl, .int .i64 wi, .string da]] w fun e w' => ∃ v, e = .returned (.tuple #[.agg #[.string dm, .int .i64 di1, .int .i64 dp1, .int .i64 dd, .int .i64 ds, .int .i64 du, .int .i64 dn, .int .i64 dw, .string dI, .string dO, .bool dF], v]) ∧ OwnS sgG 7 27 w' w.heap.size v [⟨80, dp1, dn, dw, 16, 1000, ⟨#[]⟩⟩] ∧ Below w.heap.size w w' := by
  have TK : Hid _ := TK0
  clear TK0
  have TA : Hid (∀ w, Calls Try.prog 77 #[.agg #[.string dm, .int .i64 di1, .int .i64 dp1, .int .i64 dd, .int .i64 ds, .int .i64 du, .int .i64 dn, .int .i64 dw, .string dI, .string dO, .bool dF], .int .i64 dn, .int .i64 16, .string ⟨#[]⟩] w fun e w' => e = .returned (.agg #[.int .i64 80, .int .i64 dp1, .int .i64 dn, .int .i64 dw, .int .i64 16, .int .i64 1000, .string ⟨#[]⟩]) ∧ Grw w w') := fun w => l10Reply_any dm di1 dp1 dd ds du dn dw dI dO dF dn 16 ⟨#[]⟩ w
  have C9 : Bx (((w.alloc (.cells #[.string mc, .int .i64 ip, .int .i64 po, .int .i64 di, .int .i64 st, .int .i64 un, .int .i64 nx, .int .i64 wa, .string inn, .string out, .bool fin] 24)).alloc (.cells #[.int .i64 sp, .int .i64 dp, .int .i64 sq, .int .i64 ac, .int .i64 fl, .int .i64 wi, .string da] 27)).alloc (.cells #[.string ⟨#[]⟩, .int .i64 0, .int .i64 0, .int .i64 0, .int .i64 0, .int .i64 0, .int .i64 0, .int .i64 0, .string ⟨#[]⟩, .string ⟨#[]⟩, .bool false] 24)) w.heap.size [.string mc, .int .i64 ip, .int .i64 po, .int .i64 di, .int .i64 st, .int .i64 un, .int .i64 nx, .int .i64 wa, .string inn, .string out, .bool fin] := ((Bx.new w _ _).below ((Below.refl _ _).alloc (Nat.le_refl _) _)).below ((Below.refl _ _).alloc (Nat.le_refl _) _)
  have G9 : Bx (((w.alloc (.cells #[.string mc, .int .i64 ip, .int .i64 po, .int .i64 di, .int .i64 st, .int .i64 un, .int .i64 nx, .int .i64 wa, .string inn, .string out, .bool fin] 24)).alloc (.cells #[.int .i64 sp, .int .i64 dp, .int .i64 sq, .int .i64 ac, .int .i64 fl, .int .i64 wi, .string da] 27)).alloc (.cells #[.string ⟨#[]⟩, .int .i64 0, .int .i64 0, .int .i64 0, .int .i64 0, .int .i64 0, .int .i64 0, .int .i64 0, .string ⟨#[]⟩, .string ⟨#[]⟩, .bool false] 24)) (w.heap.size + 1) [.int .i64 sp, .int .i64 dp, .int .i64 sq, .int .i64 ac, .int .i64 fl, .int .i64 wi, .string da] := by
    have h := (Bx.new (w.alloc (.cells #[.string mc, .int .i64 ip, .int .i64 po, .int .i64 di, .int .i64 st, .int .i64 un, .int .i64 nx, .int .i64 wa, .string inn, .string out, .bool fin] 24)) #[.int .i64 sp, .int .i64 dp, .int .i64 sq, .int .i64 ac, .int .i64 fl, .int .i64 wi, .string da] 27).below ((Below.refl _ _).alloc (Nat.le_refl _) (.cells #[.string ⟨#[]⟩, .int .i64 0, .int .i64 0, .int .i64 0, .int .i64 0, .int .i64 0, .int .i64 0, .int .i64 0, .string ⟨#[]⟩, .string ⟨#[]⟩, .bool false] 24))
    rw [World.size_alloc] at h
    exact h
  have R9 : Bx (((w.alloc (.cells #[.string mc, .int .i64 ip, .int .i64 po, .int .i64 di, .int .i64 st, .int .i64 un, .int .i64 nx, .int .i64 wa, .string inn, .string out, .bool fin] 24)).alloc (.cells #[.int .i64 sp, .int .i64 dp, .int .i64 sq, .int .i64 ac, .int .i64 fl, .int .i64 wi, .string da] 27)).alloc (.cells #[.string ⟨#[]⟩, .int .i64 0, .int .i64 0, .int .i64 0, .int .i64 0, .int .i64 0, .int .i64 0, .int .i64 0, .string ⟨#[]⟩, .string ⟨#[]⟩, .bool false] 24)) (w.heap.size + 1 + 1) [.string ⟨#[]⟩, .int .i64 0, .int .i64 0, .int .i64 0, .int .i64 0, .int .i64 0, .int .i64 0, .int .i64 0, .string ⟨#[]⟩, .string ⟨#[]⟩, .bool false] := by
    have h := Bx.new ((w.alloc (.cells #[.string mc, .int .i64 ip, .int .i64 po, .int .i64 di, .int .i64 st, .int .i64 un, .int .i64 nx, .int .i64 wa, .string inn, .string out, .bool fin] 24)).alloc (.cells #[.int .i64 sp, .int .i64 dp, .int .i64 sq, .int .i64 ac, .int .i64 fl, .int .i64 wi, .string da] 27)) #[.string ⟨#[]⟩, .int .i64 0, .int .i64 0, .int .i64 0, .int .i64 0, .int .i64 0, .int .i64 0, .int .i64 0, .string ⟨#[]⟩, .string ⟨#[]⟩, .bool false] 24
    rw [World.size_alloc, World.size_alloc] at h
    exact h
  have B9 : Hid (Below w.heap.size w (((w.alloc (.cells #[.string mc, .int .i64 ip, .int .i64 po, .int .i64 di, .int .i64 st, .int .i64 un, .int .i64 nx, .int .i64 wa, .string inn, .string out, .bool fin] 24)).alloc (.cells #[.int .i64 sp, .int .i64 dp, .int .i64 sq, .int .i64 ac, .int .i64 fl, .int .i64 wi, .string da] 27)).alloc (.cells #[.string ⟨#[]⟩, .int .i64 0, .int .i64 0, .int .i64 0, .int .i64 0, .int .i64 0, .int .i64 0, .int .i64 0, .string ⟨#[]⟩, .string ⟨#[]⟩, .bool false] 24))) := ((((Below.refl _ _).alloc (Nat.le_refl _) _).alloc (by simp) _).alloc (by simp; omega) _)
  have C0 : Bx ((((w.alloc (.cells #[.string mc, .int .i64 ip, .int .i64 po, .int .i64 di, .int .i64 st, .int .i64 un, .int .i64 nx, .int .i64 wa, .string inn, .string out, .bool fin] 24)).alloc (.cells #[.int .i64 sp, .int .i64 dp, .int .i64 sq, .int .i64 ac, .int .i64 fl, .int .i64 wi, .string da] 27)).alloc (.cells #[.string ⟨#[]⟩, .int .i64 0, .int .i64 0, .int .i64 0, .int .i64 0, .int .i64 0, .int .i64 0, .int .i64 0, .string ⟨#[]⟩, .string ⟨#[]⟩, .bool false] 24)).alloc (.cells #[] 27)) w.heap.size [.string mc, .int .i64 ip, .int .i64 po, .int .i64 di, .int .i64 st, .int .i64 un, .int .i64 nx, .int .i64 wa, .string inn, .string out, .bool fin] := C9.below ((Below.refl _ _).alloc (Nat.le_refl _) _)
  have G0 : Bx ((((w.alloc (.cells #[.string mc, .int .i64 ip, .int .i64 po, .int .i64 di, .int .i64 st, .int .i64 un, .int .i64 nx, .int .i64 wa, .string inn, .string out, .bool fin] 24)).alloc (.cells #[.int .i64 sp, .int .i64 dp, .int .i64 sq, .int .i64 ac, .int .i64 fl, .int .i64 wi, .string da] 27)).alloc (.cells #[.string ⟨#[]⟩, .int .i64 0, .int .i64 0, .int .i64 0, .int .i64 0, .int .i64 0, .int .i64 0, .int .i64 0, .string ⟨#[]⟩, .string ⟨#[]⟩, .bool false] 24)).alloc (.cells #[] 27)) (w.heap.size + 1) [.int .i64 sp, .int .i64 dp, .int .i64 sq, .int .i64 ac, .int .i64 fl, .int .i64 wi, .string da] := G9.below ((Below.refl _ _).alloc (Nat.le_refl _) _)
  have R0 : Bx ((((w.alloc (.cells #[.string mc, .int .i64 ip, .int .i64 po, .int .i64 di, .int .i64 st, .int .i64 un, .int .i64 nx, .int .i64 wa, .string inn, .string out, .bool fin] 24)).alloc (.cells #[.int .i64 sp, .int .i64 dp, .int .i64 sq, .int .i64 ac, .int .i64 fl, .int .i64 wi, .string da] 27)).alloc (.cells #[.string ⟨#[]⟩, .int .i64 0, .int .i64 0, .int .i64 0, .int .i64 0, .int .i64 0, .int .i64 0, .int .i64 0, .string ⟨#[]⟩, .string ⟨#[]⟩, .bool false] 24)).alloc (.cells #[] 27)) (w.heap.size + 1 + 1) [.string ⟨#[]⟩, .int .i64 0, .int .i64 0, .int .i64 0, .int .i64 0, .int .i64 0, .int .i64 0, .int .i64 0, .string ⟨#[]⟩, .string ⟨#[]⟩, .bool false] := R9.below ((Below.refl _ _).alloc (Nat.le_refl _) _)
  have B0 : Hid (Below w.heap.size w ((((w.alloc (.cells #[.string mc, .int .i64 ip, .int .i64 po, .int .i64 di, .int .i64 st, .int .i64 un, .int .i64 nx, .int .i64 wa, .string inn, .string out, .bool fin] 24)).alloc (.cells #[.int .i64 sp, .int .i64 dp, .int .i64 sq, .int .i64 ac, .int .i64 fl, .int .i64 wi, .string da] 27)).alloc (.cells #[.string ⟨#[]⟩, .int .i64 0, .int .i64 0, .int .i64 0, .int .i64 0, .int .i64 0, .int .i64 0, .int .i64 0, .string ⟨#[]⟩, .string ⟨#[]⟩, .bool false] 24)).alloc (.cells #[] 27))) := (((((Below.refl _ _).alloc (Nat.le_refl _) _).alloc (by simp) _).alloc (by simp; omega) _).alloc (by simp; omega) _)
  have O0 : OwnS sgG 7 27 ((((w.alloc (.cells #[.string mc, .int .i64 ip, .int .i64 po, .int .i64 di, .int .i64 st, .int .i64 un, .int .i64 nx, .int .i64 wa, .string inn, .string out, .bool fin] 24)).alloc (.cells #[.int .i64 sp, .int .i64 dp, .int .i64 sq, .int .i64 ac, .int .i64 fl, .int .i64 wi, .string da] 27)).alloc (.cells #[.string ⟨#[]⟩, .int .i64 0, .int .i64 0, .int .i64 0, .int .i64 0, .int .i64 0, .int .i64 0, .int .i64 0, .string ⟨#[]⟩, .string ⟨#[]⟩, .bool false] 24)).alloc (.cells #[] 27)) (w.heap.size + 3) (.slice (some ⟨w.heap.size + 1 + 1 + 1, 0, none⟩) 0 0) [] := lit_at (by omega) (by simp)
  clear C9 G9 R9 B9
  go_enter Try.func37, Try.ntmps37
  go_wp2_with fail
  refine (TK.out _).mono ?_
  rintro e w1 ⟨rfl, b1⟩
  have C1 : Bx w1 w.heap.size [.string mc, .int .i64 ip, .int .i64 po, .int .i64 di, .int .i64 st, .int .i64 un, .int .i64 nx, .int .i64 wa, .string inn, .string out, .bool fin] := C0.below b1
  have G1 : Bx w1 (w.heap.size + 1) [.int .i64 sp, .int .i64 dp, .int .i64 sq, .int .i64 ac, .int .i64 fl, .int .i64 wi, .string da] := G0.below b1
  have R1 : Bx w1 (w.heap.size + 1 + 1) [.string ⟨#[]⟩, .int .i64 0, .int .i64 0, .int .i64 0, .int .i64 0, .int .i64 0, .int .i64 0, .int .i64 0, .string ⟨#[]⟩, .string ⟨#[]⟩, .bool false] := R0.below b1
  have B1 : Hid (Below w.heap.size w w1) := B0.out.trans (b1.mono B0.out.size)
  have O1 : OwnS sgG 7 27 w1 (w.heap.size + 3) (.slice (some ⟨w.heap.size + 1 + 1 + 1, 0, none⟩) 0 0) [] := O0.now b1
  clear b1 C0 G0 R0 B0 O0 TK
  dsimp only
  refine (by assumption : ∀ (a : Act) (w : World), wpList _ _ _ _ a w → _) _ _ ?_
  (refine wpl_put rfl _ _ rfl (w.heap.size) _ rfl rfl C1 rfl rfl rfl ?_; intro w3 hw3 C3; have G3 : Bx w3 (w.heap.size + 1) [.int .i64 sp, .int .i64 dp, .int .i64 sq, .int .i64 ac, .int .i64 fl, .int .i64 wi, .string da] := (by rw [hw3]; exact G1.apart _ (by omega)); have R3 : Bx w3 (w.heap.size + 1 + 1) [.string ⟨#[]⟩, .int .i64 0, .int .i64 0, .int .i64 0, .int .i64 0, .int .i64 0, .int .i64 0, .int .i64 0, .string ⟨#[]⟩, .string ⟨#[]⟩, .bool false] := (by rw [hw3]; exact R1.apart _ (by omega)); have B3 : Hid (Below w.heap.size w w3) := (by rw [hw3]; exact below_cells (Nat.le_refl _) _ _ _ B1.out); have O3 : Hid (OwnS sgG 7 27 w3 (w.heap.size + 3) (.slice (some ⟨w.heap.size + 1 + 1 + 1, 0, none⟩) 0 0) []) := (by rw [hw3]; exact own_cells (by omega) _ _ _ O1); have v4 : w3.cell? ⟨w.heap.size, 4, none⟩ = some (.int .i64 ds) := C3.cell 4 rfl; have v7 : w3.cell? ⟨w.heap.size, 7, none⟩ = some (.int .i64 dw) := C3.cell 7 rfl; have v8 : w3.cell? ⟨w.heap.size, 8, none⟩ = some (.string dI) := C3.cell 8 rfl; have z7 : w3.frozen? ⟨w.heap.size, 7, none⟩ = false := C3.thaw 7 (by simp); have z8 : w3.frozen? ⟨w.heap.size, 8, none⟩ = false := C3.thaw 8 (by simp); have k2 : w3.cell? ⟨w.heap.size + 1, 2, none⟩ = some (.int .i64 sq) := G3.cell 2 rfl; have k4 : w3.cell? ⟨w.heap.size + 1, 4, none⟩ = some (.int .i64 fl) := G3.cell 4 rfl; have k6 : w3.cell? ⟨w.heap.size + 1, 6, none⟩ = some (.string da) := G3.cell 6 rfl; clear hw3 C1 G1 R1 B1 O1)
  go_wp2_with fail
  have C5 := C3
  have R5 := R3
  have B5 := B3
  clear C3 R3 B3
  clear v4 v7 v8 z7 z8 k2 k4 k6 G3 O3
  generalize w3 = w5 at C5 R5 B5 ⊢
  have hs5 : w.heap.size + 3 ≤ w5.heap.size := by
    have := World.block_lt_of_cell? w5 _ (R5.cell 0 rfl)
    dsimp only at this
    omega
  have SS : Hid (XQ (w.heap.size) [.string dm, .int .i64 di1, .int .i64 dp1, .int .i64 dd, .int .i64 ds, .int .i64 du, .int .i64 dn, .int .i64 dw, .string dI, .string dO, .bool dF] w w5.drew) := ⟨C5.below ((Below.refl _ _).drew), B5.out.drew⟩
  have RS : Hid (Bx w5.drew (w.heap.size + 1 + 1) [.string ⟨#[]⟩, .int .i64 0, .int .i64 0, .int .i64 0, .int .i64 0, .int .i64 0, .int .i64 0, .int .i64 0, .string ⟨#[]⟩, .string ⟨#[]⟩, .bool false]) := R5.below ((Below.refl _ _).drew)
  clear C5 R5 B5
  refine wp_region_held_drew (S := (fun wx => XQ (w.heap.size) [.string dm, .int .i64 di1, .int .i64 dp1, .int .i64 dd, .int .i64 ds, .int .i64 du, .int .i64 dn, .int .i64 dw, .string dI, .string dO, .bool dF] w wx)) (by kernel_rfl) ?_ (fun hH0 => ?_)
  · with_reducible exact SS.out
  refine wpAnyH_take (i := 0) (v := .agg #[.string dm, .int .i64 di1, .int .i64 dp1, .int .i64 dd, .int .i64 ds, .int .i64 du, .int .i64 dn, .int .i64 dw, .string dI, .string dO, .bool dF]) rfl (by kernel_rfl) (by kernel_rfl) (by kernel_rfl) (fun _ _ _ h => h) (yieldsIf_load_mid (by rfl) 24 _ rfl (w.heap.size) 0 rfl [.string dm, .int .i64 di1, .int .i64 dp1, .int .i64 dd, .int .i64 ds, .int .i64 du, .int .i64 dn, .int .i64 dw, .string dI, .string dO, .bool dF] _ (fun _ h => h.c.cl) Try.underlying24 rfl rfl) (by assumption) ?rest1001
  refine wpAnyH_take (i := 1) (v := .agg #[.string dm, .int .i64 di1, .int .i64 dp1, .int .i64 dd, .int .i64 ds, .int .i64 du, .int .i64 dn, .int .i64 dw, .string dI, .string dO, .bool dF]) rfl (by kernel_rfl) (by kernel_rfl) (by kernel_rfl) (fun _ _ _ h => h) (yieldsIf_load_mid (by rfl) 24 _ rfl (w.heap.size) 0 rfl [.string dm, .int .i64 di1, .int .i64 dp1, .int .i64 dd, .int .i64 ds, .int .i64 du, .int .i64 dn, .int .i64 dw, .string dI, .string dO, .bool dF] _ (fun _ h => h.c.cl) Try.underlying24 rfl rfl) (by assumption) ?rest1002
  refine wpAnyH_take (i := 2) (v := ?v1003) rfl (by kernel_rfl) (by kernel_rfl) (by kernel_rfl) (fun _ _ _ h => h) (Or.inl ⟨by rfl, ?hy1003⟩) (by assumption) ?rest1003
  case hy1003 => (intro w hSw; (try dsimp only at hSw); go_simp; (try with_reducible rfl))
  refine wpAnyH_take (i := 3) (v := .int .i64 dn) rfl (by kernel_rfl) (by kernel_rfl) (by kernel_rfl) (fun _ _ _ h => h) (Or.inl ⟨by rfl, ?hy1004⟩) (by assumption) ?rest1004
  case hy1004 =>
    intro wz hSw
    have hf := hSw.c.cell 6 rfl
    go_simp
  refine wpAnyH_ready (rs := [4]) (by kernel_rfl) (by simp) ?_
  refine AllReadyH.cons rfl (fun K hK => ?_) ?_
  · go_simp
    go_at_call 77
    with_reducible refine (TA.out _).mono ?_
    rintro e w6 ⟨rfl, g6⟩
    have hs6 : w.heap.size + 3 ≤ w6.heap.size := Nat.le_trans (by simpa using hs5) g6.below.size
    have L6 : Hid (XQ (w.heap.size) [.string dm, .int .i64 di1, .int .i64 dp1, .int .i64 dd, .int .i64 ds, .int .i64 du, .int .i64 dn, .int .i64 dw, .string dI, .string dO, .bool dF] w w6) := SS.out.below g6.below
    have R6 : Hid (Bx w6 (w.heap.size + 1 + 1) [.string ⟨#[]⟩, .int .i64 0, .int .i64 0, .int .i64 0, .int .i64 0, .int .i64 0, .int .i64 0, .int .i64 0, .string ⟨#[]⟩, .string ⟨#[]⟩, .bool false]) := RS.out.below g6.below
    have LA : Hid (XQ (w.heap.size) [.string dm, .int .i64 di1, .int .i64 dp1, .int .i64 dd, .int .i64 ds, .int .i64 du, .int .i64 dn, .int .i64 dw, .string dI, .string dO, .bool dF] w (w6.alloc (.cells #[.int .i64 80, .int .i64 dp1, .int .i64 dn, .int .i64 dw, .int .i64 16, .int .i64 1000, .string ⟨#[]⟩] 27))) := L6.out.below ((Below.refl _ _).alloc (Nat.le_refl _) _)
    clear g6 SS RS
    refine hK.out _ _ ?_ (fun hH1005 => ?_)
    · (try dsimp only)
      first | (with_reducible exact L6.out) | (with_reducible exact LA.out) | (with_reducible exact F8.out.1) | (with_reducible exact F8.out.2)
    clear hK K hH0
    refine wpAnyH_ready (rs := [5, 6]) (by kernel_rfl) (by simp) ?_
    refine AllReadyH.cons rfl (fun K hK => ?_) ?_
    · go_simp
      refine hK.out _ _ ?_ (fun hH1006 => ?_)
      · (try dsimp only)
        first | (with_reducible exact L6.out) | (with_reducible exact LA.out) | (with_reducible exact F8.out.1) | (with_reducible exact F8.out.2)
      clear hK K hH1005
      refine wpAnyH_ready (rs := [6]) (by kernel_rfl) (by simp) ?_
      refine AllReadyH.cons rfl (fun K hK => ?_) ?_
      · skip
        refine wpr_put rfl _ _ rfl (w.heap.size + 1 + 1) _ rfl rfl (R6.out.below ((Below.refl _ _).alloc (Nat.le_refl _) (.cells #[.int .i64 80, .int .i64 dp1, .int .i64 dn, .int .i64 dw, .int .i64 16, .int .i64 1000, .string ⟨#[]⟩] 27))) rfl rfl rfl ?_
        intro w8 hw8 R8
        have F8 : Hid (XQ (w.heap.size) [.string dm, .int .i64 di1, .int .i64 dp1, .int .i64 dd, .int .i64 ds, .int .i64 du, .int .i64 dn, .int .i64 dw, .string dI, .string dO, .bool dF] w w8 ∧ OwnS sgG 7 27 w8 w.heap.size (.slice (some ⟨w6.heap.size, 0, none⟩) 1 1) [⟨80, dp1, dn, dw, 16, 1000, ⟨#[]⟩⟩]) := by
          rw [hw8]
          exact ⟨LA.out.cells (by omega) (by omega), (own_cells (by omega) _ _ _ (own1 w6 (w.heap.size + 3) 80 dp1 dn dw 16 1000 ⟨#[]⟩ hs6)).lower (by omega)⟩
        clear hw8
        refine hK.out _ _ ?_ (fun hH1007 => ?_)
        · (try dsimp only)
          first | (with_reducible exact L6.out) | (with_reducible exact LA.out) | (with_reducible exact F8.out.1) | (with_reducible exact F8.out.2)
        clear hK K hH1006
        refine wpAnyH_take (i := 7) (v := ?v1008) rfl (by kernel_rfl) (by kernel_rfl) (by kernel_rfl) (fun _ _ _ h => h) (Or.inl ⟨by rfl, ?hy1008⟩) (by assumption) ?rest1008
        case hy1008 => (intro w hSw; (try dsimp only at hSw); go_simp; (try with_reducible rfl))
        refine wpAnyH_done (by kernel_rfl) ?_ _
        have O9 : Hid (OwnS sgG 7 27 w8 w.heap.size (.slice (some ⟨w6.heap.size, 0, none⟩) 1 1) [⟨80, dp1, dn, dw, 16, 1000, ⟨#[]⟩⟩] ∧ Below w.heap.size w w8) := ⟨F8.out.2, F8.out.1.out⟩
        have R9 := R8
        clear hH1007
        go_wp2
        have xx0 : w8.cell? ⟨w.heap.size + 1 + 1, 0, none⟩ = some (.string dm) := R9.cell 0 rfl
        have xx1 : w8.cell? ⟨w.heap.size + 1 + 1, 1, none⟩ = some (.int .i64 di1) := R9.cell 1 rfl
        have xx2 : w8.cell? ⟨w.heap.size + 1 + 1, 2, none⟩ = some (.int .i64 dp1) := R9.cell 2 rfl
        have xx3 : w8.cell? ⟨w.heap.size + 1 + 1, 3, none⟩ = some (.int .i64 dd) := R9.cell 3 rfl
        have xx4 : w8.cell? ⟨w.heap.size + 1 + 1, 4, none⟩ = some (.int .i64 ds) := R9.cell 4 rfl
        have xx5 : w8.cell? ⟨w.heap.size + 1 + 1, 5, none⟩ = some (.int .i64 du) := R9.cell 5 rfl
        have xx6 : w8.cell? ⟨w.heap.size + 1 + 1, 6, none⟩ = some (.int .i64 dn) := R9.cell 6 rfl
        have xx7 : w8.cell? ⟨w.heap.size + 1 + 1, 7, none⟩ = some (.int .i64 dw) := R9.cell 7 rfl
        have xx8 : w8.cell? ⟨w.heap.size + 1 + 1, 8, none⟩ = some (.string dI) := R9.cell 8 rfl
        have xx9 : w8.cell? ⟨w.heap.size + 1 + 1, 9, none⟩ = some (.string dO) := R9.cell 9 rfl
        have xx10 : w8.cell? ⟨w.heap.size + 1 + 1, 10, none⟩ = some (.bool dF) := R9.cell 10 rfl
        (try simp only [Exit.inBlock, Exit.then])
        refine bodyPost_ret (v := .tuple #[.agg #[.string dm, .int .i64 di1, .int .i64 dp1, .int .i64 dd, .int .i64 ds, .int .i64 du, .int .i64 dn, .int .i64 dw, .string dI, .string dO, .bool dF], .slice (some ⟨w6.heap.size, 0, none⟩) 1 1]) (by simp [results, Try.results37, go_sem, xx0, xx1, xx2, xx3, xx4, xx5, xx6, xx7, xx8, xx9, xx10]; try rfl) rfl ?_
        exact ⟨_, rfl, O9.out.1, O9.out.2⟩
      exact AllReadyH.nil
    refine AllReadyH.cons rfl (fun K hK => ?_) ?_
    · skip
      refine wpr_put rfl _ _ rfl (w.heap.size + 1 + 1) _ rfl rfl R6.out rfl rfl rfl ?_
      intro w8 hw8 R8
      have hz8 : w.heap.size ≤ w8.heap.size := by
        have := World.block_lt_of_cell? w8 _ (R8.cell 0 rfl)
        dsimp only at this
        omega
      have F8 : Hid (XQ (w.heap.size) [.string dm, .int .i64 di1, .int .i64 dp1, .int .i64 dd, .int .i64 ds, .int .i64 du, .int .i64 dn, .int .i64 dw, .string dI, .string dO, .bool dF] w w8 ∧ XQ (w.heap.size) [.string dm, .int .i64 di1, .int .i64 dp1, .int .i64 dd, .int .i64 ds, .int .i64 du, .int .i64 dn, .int .i64 dw, .string dI, .string dO, .bool dF] w (w8.alloc (.cells #[.int .i64 80, .int .i64 dp1, .int .i64 dn, .int .i64 dw, .int .i64 16, .int .i64 1000, .string ⟨#[]⟩] 27))) := by
        have h : XQ (w.heap.size) [.string dm, .int .i64 di1, .int .i64 dp1, .int .i64 dd, .int .i64 ds, .int .i64 du, .int .i64 dn, .int .i64 dw, .string dI, .string dO, .bool dF] w w8 := by rw [hw8]; exact L6.out.cells (by omega) (by omega)
        exact ⟨h, h.below ((Below.refl _ _).alloc (Nat.le_refl _) _)⟩
      clear hw8
      refine hK.out _ _ ?_ (fun hH1009 => ?_)
      · (try dsimp only)
        first | (with_reducible exact L6.out) | (with_reducible exact LA.out) | (with_reducible exact F8.out.1) | (with_reducible exact F8.out.2)
      clear hK K hH1005
      refine wpAnyH_ready (rs := [5]) (by kernel_rfl) (by simp) ?_
      refine AllReadyH.cons rfl (fun K hK => ?_) ?_
      · go_simp
        refine hK.out _ _ ?_ (fun hH1010 => ?_)
        · (try dsimp only)
          first | (with_reducible exact L6.out) | (with_reducible exact LA.out) | (with_reducible exact F8.out.1) | (with_reducible exact F8.out.2)
        clear hK K hH1009
        refine wpAnyH_take (i := 7) (v := ?v1011) rfl (by kernel_rfl) (by kernel_rfl) (by kernel_rfl) (fun _ _ _ h => h) (Or.inl ⟨by rfl, ?hy1011⟩) (by assumption) ?rest1011
        case hy1011 => (intro w hSw; (try dsimp only at hSw); go_simp; (try with_reducible rfl))
        refine wpAnyH_done (by kernel_rfl) ?_ _
        have O9 : Hid (OwnS sgG 7 27 (w8.alloc (.cells #[.int .i64 80, .int .i64 dp1, .int .i64 dn, .int .i64 dw, .int .i64 16, .int .i64 1000, .string ⟨#[]⟩] 27)) w.heap.size (.slice (some ⟨w8.heap.size, 0, none⟩) 1 1) [⟨80, dp1, dn, dw, 16, 1000, ⟨#[]⟩⟩] ∧ Below w.heap.size w (w8.alloc (.cells #[.int .i64 80, .int .i64 dp1, .int .i64 dn, .int .i64 dw, .int .i64 16, .int .i64 1000, .string ⟨#[]⟩] 27))) := ⟨own1 w8 _ 80 dp1 dn dw 16 1000 ⟨#[]⟩ hz8, F8.out.2.out⟩
        have R9 := R8.below ((Below.refl _ _).alloc (Nat.le_refl _) (.cells #[.int .i64 80, .int .i64 dp1, .int .i64 dn, .int .i64 dw, .int .i64 16, .int .i64 1000, .string ⟨#[]⟩] 27))
        clear hH1010
        generalize (w8.alloc (.cells #[.int .i64 80, .int .i64 dp1, .int .i64 dn, .int .i64 dw, .int .i64 16, .int .i64 1000, .string ⟨#[]⟩] 27)) = w9 at O9 R9 ⊢
        go_wp2
        have xx0 : w9.cell? ⟨w.heap.size + 1 + 1, 0, none⟩ = some (.string dm) := R9.cell 0 rfl
        have xx1 : w9.cell? ⟨w.heap.size + 1 + 1, 1, none⟩ = some (.int .i64 di1) := R9.cell 1 rfl
        have xx2 : w9.cell? ⟨w.heap.size + 1 + 1, 2, none⟩ = some (.int .i64 dp1) := R9.cell 2 rfl
        have xx3 : w9.cell? ⟨w.heap.size + 1 + 1, 3, none⟩ = some (.int .i64 dd) := R9.cell 3 rfl
        have xx4 : w9.cell? ⟨w.heap.size + 1 + 1, 4, none⟩ = some (.int .i64 ds) := R9.cell 4 rfl
        have xx5 : w9.cell? ⟨w.heap.size + 1 + 1, 5, none⟩ = some (.int .i64 du) := R9.cell 5 rfl
        have xx6 : w9.cell? ⟨w.heap.size + 1 + 1, 6, none⟩ = some (.int .i64 dn) := R9.cell 6 rfl
        have xx7 : w9.cell? ⟨w.heap.size + 1 + 1, 7, none⟩ = some (.int .i64 dw) := R9.cell 7 rfl
        have xx8 : w9.cell? ⟨w.heap.size + 1 + 1, 8, none⟩ = some (.string dI) := R9.cell 8 rfl
        have xx9 : w9.cell? ⟨w.heap.size + 1 + 1, 9, none⟩ = some (.string dO) := R9.cell 9 rfl
        have xx10 : w9.cell? ⟨w.heap.size + 1 + 1, 10, none⟩ = some (.bool dF) := R9.cell 10 rfl
        (try simp only [Exit.inBlock, Exit.then])
        refine bodyPost_ret (v := .tuple #[.agg #[.string dm, .int .i64 di1, .int .i64 dp1, .int .i64 dd, .int .i64 ds, .int .i64 du, .int .i64 dn, .int .i64 dw, .string dI, .string dO, .bool dF], .slice (some ⟨w8.heap.size, 0, none⟩) 1 1]) (by simp [results, Try.results37, go_sem, xx0, xx1, xx2, xx3, xx4, xx5, xx6, xx7, xx8, xx9, xx10]; try rfl) rfl ?_
        exact ⟨_, rfl, O9.out.1, O9.out.2⟩
      exact AllReadyH.nil
    exact AllReadyH.nil
  exact AllReadyH.nil
end Go.Proofs.Ytfgghffgfefgpaa

namespace Go.Proofs.Ytfgghffgfefgpaa
open Go.RowKit Go.PlainAid Go.Proofs.Ytfgghffgfefgpaa.Bt Go.Sort
set_option linter.unusedVariables false
set_option maxRecDepth 20000
set_option maxHeartbeats 16000000 in
theorem tkTa_any (mc : ByteArray) (ip po di st un nx wa : Int) (inn out : ByteArray) (fin : Bool) (sp dp sq ac fl wi : Int) (da : ByteArray) (dm : ByteArray) (di1 dp1 dd ds du dn dw : Int) (dI dO : ByteArray) (dF : Bool) (w : World) (t4 : (st == 4) = false) (f4 : (bits BinOp.and IntKind.i64 fl 4 != 0) = false) (f2 : (bits BinOp.and IntKind.i64 fl 2 != 0) = false) (f16 : (bits BinOp.and IntKind.i64 fl 16 == 0) = false) (TK0 : ∀ w, Calls Try.prog 78 #[.agg #[.string mc, .int .i64 ip, .int .i64 po, .int .i64 di, .int .i64 st, .int .i64 un, .int .i64 nx, .int .i64 wa, .string inn, .string out, .bool fin], .int .i64 ac] w fun e w' => e = .returned (.agg #[.string dm, .int .i64 di1, .int .i64 dp1, .int .i64 dd, .int .i64 ds, .int .i64 du, .int .i64 dn, .int .i64 dw, .string dI, .string dO, .bool dF]) ∧ Below w.heap.size w w') (u1 : (ds == 1) = false) (u4 : (ds == 4) = false) (ed : (da.toList == []) = false) (q : (sq == dw) = true) (hi : dI.size ≤ 300) (hda : da.size ≤ 360) (hw : 0 ≤ dw ∧ dw ≤ 4294967295) (r : (dI.size : Int) + (da.size : Int) ≤ 300) (f1 : (bits BinOp.and IntKind.i64 fl 1 != 0) = false) :
    Calls Try.prog 37 #[.agg #[.string mc, .int .i64 ip, .int .i64 po, .int .i64 di, .int .i64 st, .int .i64 un, .int .i64 nx, .int .i64 wa, .string inn, .string out, .bool fin], .agg #[.int .i64 sp, .int .i64 dp, .int .i64 sq, .int .i64 ac, .int .i64 fl, .int .i64 wi, .string da]] w fun e w' => ∃ v, e = .returned (.tuple #[.agg #[.string dm, .int .i64 di1, .int .i64 dp1, .int .i64 dd, .int .i64 ds, .int .i64 du, .int .i64 dn, .int .i64 (sqN (dw + (da.size : Int))), .string (dI ++ da), .string dO, .bool dF], v]) ∧ OwnS sgG 7 27 w' w.heap.size v [⟨80, dp1, dn, sqN (dw + (da.size : Int)), 16, 1000, ⟨#[]⟩⟩] ∧ Below w.heap.size w w' := by
  have TK : Hid _ := TK0
  clear TK0
  have hadd : ∀ wx : World, (Op.stringOp .add dI da).run Try.prog wx = .ok (.string (dI ++ da)) wx := fun wx => run_string_add_sum (P := Try.prog) (w := wx) _ _ (by omega)
  have TQ : Hid (∀ w, Calls Try.prog 61 #[.int .i64 (dw + (da.size : Int))] w fun e w' => e = .returned (.int .i64 (sqN (dw + (da.size : Int)))) ∧ w' = w) := fun w => l10Seq_any _ w (by omega) (by omega)
  have hqb := sqN_bd (dw + (da.size : Int))
  have TR : Hid (∀ w, Calls Try.prog 61 #[.int .i64 (sqN (dw + (da.size : Int)) + 1)] w fun e w' => e = .returned (.int .i64 (sqN (sqN (dw + (da.size : Int)) + 1))) ∧ w' = w) := fun w => l10Seq_any _ w (by omega) (by omega)
  have ew1 : IntKind.i64.wrap (dw + (da.size : Int)) = dw + (da.size : Int) := by rw [IntKind.wrap_i64]; omega
  have ew2 : IntKind.i64.wrap (sqN (dw + (da.size : Int)) + 1) = sqN (dw + (da.size : Int)) + 1 := by rw [IntKind.wrap_i64]; omega
  generalize sqN (sqN (dw + (da.size : Int)) + 1) = NQ2 at TR
  generalize sqN (dw + (da.size : Int)) = NQ at TQ TR ew2 hqb ⊢
  have TA : Hid (∀ w, Calls Try.prog 77 #[.agg #[.string dm, .int .i64 di1, .int .i64 dp1, .int .i64 dd, .int .i64 ds, .int .i64 du, .int .i64 dn, .int .i64 NQ, .string (dI ++ da), .string dO, .bool dF], .int .i64 dn, .int .i64 16, .string ⟨#[]⟩] w fun e w' => e = .returned (.agg #[.int .i64 80, .int .i64 dp1, .int .i64 dn, .int .i64 NQ, .int .i64 16, .int .i64 1000, .string ⟨#[]⟩]) ∧ Grw w w') := fun w => l10Reply_any dm di1 dp1 dd ds du dn NQ (dI ++ da) dO dF dn 16 ⟨#[]⟩ w
  have C9 : Bx (((w.alloc (.cells #[.string mc, .int .i64 ip, .int .i64 po, .int .i64 di, .int .i64 st, .int .i64 un, .int .i64 nx, .int .i64 wa, .string inn, .string out, .bool fin] 24)).alloc (.cells #[.int .i64 sp, .int .i64 dp, .int .i64 sq, .int .i64 ac, .int .i64 fl, .int .i64 wi, .string da] 27)).alloc (.cells #[.string ⟨#[]⟩, .int .i64 0, .int .i64 0, .int .i64 0, .int .i64 0, .int .i64 0, .int .i64 0, .int .i64 0, .string ⟨#[]⟩, .string ⟨#[]⟩, .bool false] 24)) w.heap.size [.string mc, .int .i64 ip, .int .i64 po, .int .i64 di, .int .i64 st, .int .i64 un, .int .i64 nx, .int .i64 wa, .string inn, .string out, .bool fin] := ((Bx.new w _ _).below ((Below.refl _ _).alloc (Nat.le_refl _) _)).below ((Below.refl _ _).alloc (Nat.le_refl _) _)
  have G9 : Bx (((w.alloc (.cells #[.string mc, .int .i64 ip, .int .i64 po, .int .i64 di, .int .i64 st, .int .i64 un, .int .i64 nx, .int .i64 wa, .string inn, .string out, .bool fin] 24)).alloc (.cells #[.int .i64 sp, .int .i64 dp, .int .i64 sq, .int .i64 ac, .int .i64 fl, .int .i64 wi, .string da] 27)).alloc (.cells #[.string ⟨#[]⟩, .int .i64 0, .int .i64 0, .int .i64 0, .int .i64 0, .int .i64 0, .int .i64 0, .int .i64 0, .string ⟨#[]⟩, .string ⟨#[]⟩, .bool false] 24)) (w.heap.size + 1) [.int .i64 sp, .int .i64 dp, .int .i64 sq, .int .i64 ac, .int .i64 fl, .int .i64 wi, .string da] := by
    have h := (Bx.new (w.alloc (.cells #[.string mc, .int .i64 ip, .int .i64 po, .int .i64 di, .int .i64 st, .int .i64 un, .int .i64 nx, .int .i64 wa, .string inn, .string out, .bool fin] 24)) #[.int .i64 sp, .int .i64 dp, .int .i64 sq, .int .i64 ac, .int .i64 fl, .int .i64 wi, .string da] 27).below ((Below.refl _ _).alloc (Nat.le_refl _) (.cells #[.string ⟨#[]⟩, .int .i64 0, .int .i64 0, .int .i64 0, .int .i64 0, .int .i64 0, .int .i64 0, .int .i64 0, .string ⟨#[]⟩, .string ⟨#[]⟩, .bool false] 24))
    rw [World.size_alloc] at h
    exact h
  have R9 : Bx (((w.alloc (.cells #[.string mc, .int .i64 ip, .int .i64 po, .int .i64 di, .int .i64 st, .int .i64 un, .int .i64 nx, .int .i64 wa, .string inn, .string out, .bool fin] 24)).alloc (.cells #[.int .i64 sp, .int .i64 dp, .int .i64 sq, .int .i64 ac, .int .i64 fl, .int .i64 wi, .string da] 27)).alloc (.cells #[.string ⟨#[]⟩, .int .i64 0, .int .i64 0, .int .i64 0, .int .i64 0, .int .i64 0, .int .i64 0, .int .i64 0, .string ⟨#[]⟩, .string ⟨#[]⟩, .bool false] 24)) (w.heap.size + 1 + 1) [.string ⟨#[]⟩, .int .i64 0, .int .i64 0, .int .i64 0, .int .i64 0, .int .i64 0, .int .i64 0, .int .i64 0, .string ⟨#[]⟩, .string ⟨#[]⟩, .bool false] := by
    have h := Bx.new ((w.alloc (.cells #[.string mc, .int .i64 ip, .int .i64 po, .int .i64 di, .int .i64 st, .int .i64 un, .int .i64 nx, .int .i64 wa, .string inn, .string out, .bool fin] 24)).alloc (.cells #[.int .i64 sp, .int .i64 dp, .int .i64 sq, .int .i64 ac, .int .i64 fl, .int .i64 wi, .string da] 27)) #[.string ⟨#[]⟩, .int .i64 0, .int .i64 0, .int .i64 0, .int .i64 0, .int .i64 0, .int .i64 0, .int .i64 0, .string ⟨#[]⟩, .string ⟨#[]⟩, .bool false] 24
    rw [World.size_alloc, World.size_alloc] at h
    exact h
  have B9 : Hid (Below w.heap.size w (((w.alloc (.cells #[.string mc, .int .i64 ip, .int .i64 po, .int .i64 di, .int .i64 st, .int .i64 un, .int .i64 nx, .int .i64 wa, .string inn, .string out, .bool fin] 24)).alloc (.cells #[.int .i64 sp, .int .i64 dp, .int .i64 sq, .int .i64 ac, .int .i64 fl, .int .i64 wi, .string da] 27)).alloc (.cells #[.string ⟨#[]⟩, .int .i64 0, .int .i64 0, .int .i64 0, .int .i64 0, .int .i64 0, .int .i64 0, .int .i64 0, .string ⟨#[]⟩, .string ⟨#[]⟩, .bool false] 24))) := ((((Below.refl _ _).alloc (Nat.le_refl _) _).alloc (by simp) _).alloc (by simp; omega) _)
  have C0 : Bx ((((w.alloc (.cells #[.string mc, .int .i64 ip, .int .i64 po, .int .i64 di, .int .i64 st, .int .i64 un, .int .i64 nx, .int .i64 wa, .string inn, .string out, .bool fin] 24)).alloc (.cells #[.int .i64 sp, .int .i64 dp, .int .i64 sq, .int .i64 ac, .int .i64 fl, .int .i64 wi, .string da] 27)).alloc (.cells #[.string ⟨#[]⟩, .int .i64 0, .int .i64 0, .int .i64 0, .int .i64 0, .int .i64 0, .int .i64 0, .int .i64 0, .string ⟨#[]⟩, .string ⟨#[]⟩, .bool false] 24)).alloc (.cells #[] 27)) w.heap.size [.string mc, .int .i64 ip, .int .i64 po, .int .i64 di, .int .i64 st, .int .i64 un, .int .i64 nx, .int .i64 wa, .string inn, .string out, .bool fin] := C9.below ((Below.refl _ _).alloc (Nat.le_refl _) _)
  have G0 : Bx ((((w.alloc (.cells #[.string mc, .int .i64 ip, .int .i64 po, .int .i64 di, .int .i64 st, .int .i64 un, .int .i64 nx, .int .i64 wa, .string inn, .string out, .bool fin] 24)).alloc (.cells #[.int .i64 sp, .int .i64 dp, .int .i64 sq, .int .i64 ac, .int .i64 fl, .int .i64 wi, .string da] 27)).alloc (.cells #[.string ⟨#[]⟩, .int .i64 0, .int .i64 0, .int .i64 0, .int .i64 0, .int .i64 0, .int .i64 0, .int .i64 0, .string ⟨#[]⟩, .string ⟨#[]⟩, .bool false] 24)).alloc (.cells #[] 27)) (w.heap.size + 1) [.int .i64 sp, .int .i64 dp, .int .i64 sq, .int .i64 ac, .int .i64 fl, .int .i64 wi, .string da] := G9.below ((Below.refl _ _).alloc (Nat.le_refl _) _)
  have R0 : Bx ((((w.alloc (.cells #[.string mc, .int .i64 ip, .int .i64 po, .int .i64 di, .int .i64 st, .int .i64 un, .int .i64 nx, .int .i64 wa, .string inn, .string out, .bool fin] 24)).alloc (.cells #[.int .i64 sp, .int .i64 dp, .int .i64 sq, .int .i64 ac, .int .i64 fl, .int .i64 wi, .string da] 27)).alloc (.cells #[.string ⟨#[]⟩, .int .i64 0, .int .i64 0, .int .i64 0, .int .i64 0, .int .i64 0, .int .i64 0, .int .i64 0, .string ⟨#[]⟩, .string ⟨#[]⟩, .bool false] 24)).alloc (.cells #[] 27)) (w.heap.size + 1 + 1) [.string ⟨#[]⟩, .int .i64 0, .int .i64 0, .int .i64 0, .int .i64 0, .int .i64 0, .int .i64 0, .int .i64 0, .string ⟨#[]⟩, .string ⟨#[]⟩, .bool false] := R9.below ((Below.refl _ _).alloc (Nat.le_refl _) _)
  have B0 : Hid (Below w.heap.size w ((((w.alloc (.cells #[.string mc, .int .i64 ip, .int .i64 po, .int .i64 di, .int .i64 st, .int .i64 un, .int .i64 nx, .int .i64 wa, .string inn, .string out, .bool fin] 24)).alloc (.cells #[.int .i64 sp, .int .i64 dp, .int .i64 sq, .int .i64 ac, .int .i64 fl, .int .i64 wi, .string da] 27)).alloc (.cells #[.string ⟨#[]⟩, .int .i64 0, .int .i64 0, .int .i64 0, .int .i64 0, .int .i64 0, .int .i64 0, .int .i64 0, .string ⟨#[]⟩, .string ⟨#[]⟩, .bool false] 24)).alloc (.cells #[] 27))) := (((((Below.refl _ _).alloc (Nat.le_refl _) _).alloc (by simp) _).alloc (by simp; omega) _).alloc (by simp; omega) _)
  have O0 : OwnS sgG 7 27 ((((w.alloc (.cells #[.string mc, .int .i64 ip, .int .i64 po, .int .i64 di, .int .i64 st, .int .i64 un, .int .i64 nx, .int .i64 wa, .string inn, .string out, .bool fin] 24)).alloc (.cells #[.int .i64 sp, .int .i64 dp, .int .i64 sq, .int .i64 ac, .int .i64 fl, .int .i64 wi, .string da] 27)).alloc (.cells #[.string ⟨#[]⟩, .int .i64 0, .int .i64 0, .int .i64 0, .int .i64 0, .int .i64 0, .int .i64 0, .int .i64 0, .string ⟨#[]⟩, .string ⟨#[]⟩, .bool false] 24)).alloc (.cells #[] 27)) (w.heap.size + 3) (.slice (some ⟨w.heap.size + 1 + 1 + 1, 0, none⟩) 0 0) [] := lit_at (by omega) (by simp)
  clear C9 G9 R9 B9
  go_enter Try.func37, Try.ntmps37
  go_wp2_with fail
  refine (TK.out _).mono ?_
  rintro e w1 ⟨rfl, b1⟩
  have C1 : Bx w1 w.heap.size [.string mc, .int .i64 ip, .int .i64 po, .int .i64 di, .int .i64 st, .int .i64 un, .int .i64 nx, .int .i64 wa, .string inn, .string out, .bool fin] := C0.below b1
  have G1 : Bx w1 (w.heap.size + 1) [.int .i64 sp, .int .i64 dp, .int .i64 sq, .int .i64 ac, .int .i64 fl, .int .i64 wi, .string da] := G0.below b1
  have R1 : Bx w1 (w.heap.size + 1 + 1) [.string ⟨#[]⟩, .int .i64 0, .int .i64 0, .int .i64 0, .int .i64 0, .int .i64 0, .int .i64 0, .int .i64 0, .string ⟨#[]⟩, .string ⟨#[]⟩, .bool false] := R0.below b1
  have B1 : Hid (Below w.heap.size w w1) := B0.out.trans (b1.mono B0.out.size)
  have O1 : OwnS sgG 7 27 w1 (w.heap.size + 3) (.slice (some ⟨w.heap.size + 1 + 1 + 1, 0, none⟩) 0 0) [] := O0.now b1
  clear b1 C0 G0 R0 B0 O0 TK
  go_wp2_with (first | (refine wpl_put rfl _ _ rfl (w.heap.size) _ rfl rfl C1 rfl rfl rfl ?_; intro w3 hw3 C3; have G3 : Bx w3 (w.heap.size + 1) [.int .i64 sp, .int .i64 dp, .int .i64 sq, .int .i64 ac, .int .i64 fl, .int .i64 wi, .string da] := (by rw [hw3]; exact G1.apart _ (by omega)); have R3 : Bx w3 (w.heap.size + 1 + 1) [.string ⟨#[]⟩, .int .i64 0, .int .i64 0, .int .i64 0, .int .i64 0, .int .i64 0, .int .i64 0, .int .i64 0, .string ⟨#[]⟩, .string ⟨#[]⟩, .bool false] := (by rw [hw3]; exact R1.apart _ (by omega)); have B3 : Hid (Below w.heap.size w w3) := (by rw [hw3]; exact below_cells (Nat.le_refl _) _ _ _ B1.out); have O3 : Hid (OwnS sgG 7 27 w3 (w.heap.size + 3) (.slice (some ⟨w.heap.size + 1 + 1 + 1, 0, none⟩) 0 0) []) := (by rw [hw3]; exact own_cells (by omega) _ _ _ O1); have v4 : w3.cell? ⟨w.heap.size, 4, none⟩ = some (.int .i64 ds) := C3.cell 4 rfl; have v7 : w3.cell? ⟨w.heap.size, 7, none⟩ = some (.int .i64 dw) := C3.cell 7 rfl; have v8 : w3.cell? ⟨w.heap.size, 8, none⟩ = some (.string dI) := C3.cell 8 rfl; have z7 : w3.frozen? ⟨w.heap.size, 7, none⟩ = false := C3.thaw 7 (by simp); have z8 : w3.frozen? ⟨w.heap.size, 8, none⟩ = false := C3.thaw 8 (by simp); have k2 : w3.cell? ⟨w.heap.size + 1, 2, none⟩ = some (.int .i64 sq) := G3.cell 2 rfl; have k4 : w3.cell? ⟨w.heap.size + 1, 4, none⟩ = some (.int .i64 fl) := G3.cell 4 rfl; have k6 : w3.cell? ⟨w.heap.size + 1, 6, none⟩ = some (.string da) := G3.cell 6 rfl; clear hw3 C1 G1 R1 B1 O1) | fail)
  refine (TQ.out _).mono ?_
  rintro e wq ⟨rfl, hw⟩
  subst hw
  go_wp2_with fail
  have C5 : Bx ((w3.setCell ⟨w.heap.size, 8, none⟩ (.string (dI ++ da))).setCell ⟨w.heap.size, 7, none⟩ (.int .i64 NQ)) w.heap.size [.string dm, .int .i64 di1, .int .i64 dp1, .int .i64 dd, .int .i64 ds, .int .i64 du, .int .i64 dn, .int .i64 NQ, .string (dI ++ da), .string dO, .bool dF] := (C3.field 8 _).field 7 _
  have R5 : Bx ((w3.setCell ⟨w.heap.size, 8, none⟩ (.string (dI ++ da))).setCell ⟨w.heap.size, 7, none⟩ (.int .i64 NQ)) (w.heap.size + 1 + 1) [.string ⟨#[]⟩, .int .i64 0, .int .i64 0, .int .i64 0, .int .i64 0, .int .i64 0, .int .i64 0, .int .i64 0, .string ⟨#[]⟩, .string ⟨#[]⟩, .bool false] := (R3.far _ _ (by dsimp only; omega)).far _ _ (by dsimp only; omega)
  have B5 : Hid (Below w.heap.size w ((w3.setCell ⟨w.heap.size, 8, none⟩ (.string (dI ++ da))).setCell ⟨w.heap.size, 7, none⟩ (.int .i64 NQ))) := (B3.out.setCell (Nat.le_refl _) _).setCell (Nat.le_refl _) _
  clear C3 R3 B3
  clear v4 v7 v8 z7 z8 k2 k4 k6 G3 O3
  generalize ((w3.setCell ⟨w.heap.size, 8, none⟩ (.string (dI ++ da))).setCell ⟨w.heap.size, 7, none⟩ (.int .i64 NQ)) = w5 at C5 R5 B5 ⊢
  have hs5 : w.heap.size + 3 ≤ w5.heap.size := by
    have := World.block_lt_of_cell? w5 _ (R5.cell 0 rfl)
    dsimp only at this
    omega
  have SS : Hid (XQ (w.heap.size) [.string dm, .int .i64 di1, .int .i64 dp1, .int .i64 dd, .int .i64 ds, .int .i64 du, .int .i64 dn, .int .i64 NQ, .string (dI ++ da), .string dO, .bool dF] w w5.drew) := ⟨C5.below ((Below.refl _ _).drew), B5.out.drew⟩
  have RS : Hid (Bx w5.drew (w.heap.size + 1 + 1) [.string ⟨#[]⟩, .int .i64 0, .int .i64 0, .int .i64 0, .int .i64 0, .int .i64 0, .int .i64 0, .int .i64 0, .string ⟨#[]⟩, .string ⟨#[]⟩, .bool false]) := R5.below ((Below.refl _ _).drew)
  clear C5 R5 B5
  refine wp_region_held_drew (S := (fun wx => XQ (w.heap.size) [.string dm, .int .i64 di1, .int .i64 dp1, .int .i64 dd, .int .i64 ds, .int .i64 du, .int .i64 dn, .int .i64 NQ, .string (dI ++ da), .string dO, .bool dF] w wx)) (by kernel_rfl) ?_ (fun hH0 => ?_)
  · with_reducible exact SS.out
  refine wpAnyH_take (i := 0) (v := .agg #[.string dm, .int .i64 di1, .int .i64 dp1, .int .i64 dd, .int .i64 ds, .int .i64 du, .int .i64 dn, .int .i64 NQ, .string (dI ++ da), .string dO, .bool dF]) rfl (by kernel_rfl) (by kernel_rfl) (by kernel_rfl) (fun _ _ _ h => h) (yieldsIf_load_mid (by rfl) 24 _ rfl (w.heap.size) 0 rfl [.string dm, .int .i64 di1, .int .i64 dp1, .int .i64 dd, .int .i64 ds, .int .i64 du, .int .i64 dn, .int .i64 NQ, .string (dI ++ da), .string dO, .bool dF] _ (fun _ h => h.c.cl) Try.underlying24 rfl rfl) (by assumption) ?rest1001
  refine wpAnyH_take (i := 1) (v := .agg #[.string dm, .int .i64 di1, .int .i64 dp1, .int .i64 dd, .int .i64 ds, .int .i64 du, .int .i64 dn, .int .i64 NQ, .string (dI ++ da), .string dO, .bool dF]) rfl (by kernel_rfl) (by kernel_rfl) (by kernel_rfl) (fun _ _ _ h => h) (yieldsIf_load_mid (by rfl) 24 _ rfl (w.heap.size) 0 rfl [.string dm, .int .i64 di1, .int .i64 dp1, .int .i64 dd, .int .i64 ds, .int .i64 du, .int .i64 dn, .int .i64 NQ, .string (dI ++ da), .string dO, .bool dF] _ (fun _ h => h.c.cl) Try.underlying24 rfl rfl) (by assumption) ?rest1002
  refine wpAnyH_take (i := 2) (v := ?v1003) rfl (by kernel_rfl) (by kernel_rfl) (by kernel_rfl) (fun _ _ _ h => h) (Or.inl ⟨by rfl, ?hy1003⟩) (by assumption) ?rest1003
  case hy1003 => (intro w hSw; (try dsimp only at hSw); go_simp; (try with_reducible rfl))
  refine wpAnyH_take (i := 3) (v := .int .i64 dn) rfl (by kernel_rfl) (by kernel_rfl) (by kernel_rfl) (fun _ _ _ h => h) (Or.inl ⟨by rfl, ?hy1004⟩) (by assumption) ?rest1004
  case hy1004 =>
    intro wz hSw
    have hf := hSw.c.cell 6 rfl
    go_simp
  refine wpAnyH_ready (rs := [4]) (by kernel_rfl) (by simp) ?_
  refine AllReadyH.cons rfl (fun K hK => ?_) ?_
  · go_simp
    go_at_call 77
    with_reducible refine (TA.out _).mono ?_
    rintro e w6 ⟨rfl, g6⟩
    have hs6 : w.heap.size + 3 ≤ w6.heap.size := Nat.le_trans (by simpa using hs5) g6.below.size
    have L6 : Hid (XQ (w.heap.size) [.string dm, .int .i64 di1, .int .i64 dp1, .int .i64 dd, .int .i64 ds, .int .i64 du, .int .i64 dn, .int .i64 NQ, .string (dI ++ da), .string dO, .bool dF] w w6) := SS.out.below g6.below
    have R6 : Hid (Bx w6 (w.heap.size + 1 + 1) [.string ⟨#[]⟩, .int .i64 0, .int .i64 0, .int .i64 0, .int .i64 0, .int .i64 0, .int .i64 0, .int .i64 0, .string ⟨#[]⟩, .string ⟨#[]⟩, .bool false]) := RS.out.below g6.below
    have LA : Hid (XQ (w.heap.size) [.string dm, .int .i64 di1, .int .i64 dp1, .int .i64 dd, .int .i64 ds, .int .i64 du, .int .i64 dn, .int .i64 NQ, .string (dI ++ da), .string dO, .bool dF] w (w6.alloc (.cells #[.int .i64 80, .int .i64 dp1, .int .i64 dn, .int .i64 NQ, .int .i64 16, .int .i64 1000, .string ⟨#[]⟩] 27))) := L6.out.below ((Below.refl _ _).alloc (Nat.le_refl _) _)
    clear g6 SS RS
    refine hK.out _ _ ?_ (fun hH1005 => ?_)
    · (try dsimp only)
      first | (with_reducible exact L6.out) | (with_reducible exact LA.out) | (with_reducible exact F8.out.1) | (with_reducible exact F8.out.2)
    clear hK K hH0
    refine wpAnyH_ready (rs := [5, 6]) (by kernel_rfl) (by simp) ?_
    refine AllReadyH.cons rfl (fun K hK => ?_) ?_
    · go_simp
      refine hK.out _ _ ?_ (fun hH1006 => ?_)
      · (try dsimp only)
        first | (with_reducible exact L6.out) | (with_reducible exact LA.out) | (with_reducible exact F8.out.1) | (with_reducible exact F8.out.2)
      clear hK K hH1005
      refine wpAnyH_ready (rs := [6]) (by kernel_rfl) (by simp) ?_
      refine AllReadyH.cons rfl (fun K hK => ?_) ?_
      · skip
        refine wpr_put rfl _ _ rfl (w.heap.size + 1 + 1) _ rfl rfl (R6.out.below ((Below.refl _ _).alloc (Nat.le_refl _) (.cells #[.int .i64 80, .int .i64 dp1, .int .i64 dn, .int .i64 NQ, .int .i64 16, .int .i64 1000, .string ⟨#[]⟩] 27))) rfl rfl rfl ?_
        intro w8 hw8 R8
        have F8 : Hid (XQ (w.heap.size) [.string dm, .int .i64 di1, .int .i64 dp1, .int .i64 dd, .int .i64 ds, .int .i64 du, .int .i64 dn, .int .i64 NQ, .string (dI ++ da), .string dO, .bool dF] w w8 ∧ OwnS sgG 7 27 w8 w.heap.size (.slice (some ⟨w6.heap.size, 0, none⟩) 1 1) [⟨80, dp1, dn, NQ, 16, 1000, ⟨#[]⟩⟩]) := by
          rw [hw8]
          exact ⟨LA.out.cells (by omega) (by omega), (own_cells (by omega) _ _ _ (own1 w6 (w.heap.size + 3) 80 dp1 dn NQ 16 1000 ⟨#[]⟩ hs6)).lower (by omega)⟩
        clear hw8
        refine hK.out _ _ ?_ (fun hH1007 => ?_)
        · (try dsimp only)
          first | (with_reducible exact L6.out) | (with_reducible exact LA.out) | (with_reducible exact F8.out.1) | (with_reducible exact F8.out.2)
        clear hK K hH1006
        refine wpAnyH_take (i := 7) (v := ?v1008) rfl (by kernel_rfl) (by kernel_rfl) (by kernel_rfl) (fun _ _ _ h => h) (Or.inl ⟨by rfl, ?hy1008⟩) (by assumption) ?rest1008
        case hy1008 => (intro w hSw; (try dsimp only at hSw); go_simp; (try with_reducible rfl))
        refine wpAnyH_done (by kernel_rfl) ?_ _
        have O9 : Hid (OwnS sgG 7 27 w8 w.heap.size (.slice (some ⟨w6.heap.size, 0, none⟩) 1 1) [⟨80, dp1, dn, NQ, 16, 1000, ⟨#[]⟩⟩] ∧ Below w.heap.size w w8) := ⟨F8.out.2, F8.out.1.out⟩
        have R9 := R8
        clear hH1007
        go_wp2
        have xx0 : w8.cell? ⟨w.heap.size + 1 + 1, 0, none⟩ = some (.string dm) := R9.cell 0 rfl
        have xx1 : w8.cell? ⟨w.heap.size + 1 + 1, 1, none⟩ = some (.int .i64 di1) := R9.cell 1 rfl
        have xx2 : w8.cell? ⟨w.heap.size + 1 + 1, 2, none⟩ = some (.int .i64 dp1) := R9.cell 2 rfl
        have xx3 : w8.cell? ⟨w.heap.size + 1 + 1, 3, none⟩ = some (.int .i64 dd) := R9.cell 3 rfl
        have xx4 : w8.cell? ⟨w.heap.size + 1 + 1, 4, none⟩ = some (.int .i64 ds) := R9.cell 4 rfl
        have xx5 : w8.cell? ⟨w.heap.size + 1 + 1, 5, none⟩ = some (.int .i64 du) := R9.cell 5 rfl
        have xx6 : w8.cell? ⟨w.heap.size + 1 + 1, 6, none⟩ = some (.int .i64 dn) := R9.cell 6 rfl
        have xx7 : w8.cell? ⟨w.heap.size + 1 + 1, 7, none⟩ = some (.int .i64 NQ) := R9.cell 7 rfl
        have xx8 : w8.cell? ⟨w.heap.size + 1 + 1, 8, none⟩ = some (.string (dI ++ da)) := R9.cell 8 rfl
        have xx9 : w8.cell? ⟨w.heap.size + 1 + 1, 9, none⟩ = some (.string dO) := R9.cell 9 rfl
        have xx10 : w8.cell? ⟨w.heap.size + 1 + 1, 10, none⟩ = some (.bool dF) := R9.cell 10 rfl
        (try simp only [Exit.inBlock, Exit.then])
        refine bodyPost_ret (v := .tuple #[.agg #[.string dm, .int .i64 di1, .int .i64 dp1, .int .i64 dd, .int .i64 ds, .int .i64 du, .int .i64 dn, .int .i64 NQ, .string (dI ++ da), .string dO, .bool dF], .slice (some ⟨w6.heap.size, 0, none⟩) 1 1]) (by simp [results, Try.results37, go_sem, xx0, xx1, xx2, xx3, xx4, xx5, xx6, xx7, xx8, xx9, xx10]; try rfl) rfl ?_
        exact ⟨_, rfl, O9.out.1, O9.out.2⟩
      exact AllReadyH.nil
    refine AllReadyH.cons rfl (fun K hK => ?_) ?_
    · skip
      refine wpr_put rfl _ _ rfl (w.heap.size + 1 + 1) _ rfl rfl R6.out rfl rfl rfl ?_
      intro w8 hw8 R8
      have hz8 : w.heap.size ≤ w8.heap.size := by
        have := World.block_lt_of_cell? w8 _ (R8.cell 0 rfl)
        dsimp only at this
        omega
      have F8 : Hid (XQ (w.heap.size) [.string dm, .int .i64 di1, .int .i64 dp1, .int .i64 dd, .int .i64 ds, .int .i64 du, .int .i64 dn, .int .i64 NQ, .string (dI ++ da), .string dO, .bool dF] w w8 ∧ XQ (w.heap.size) [.string dm, .int .i64 di1, .int .i64 dp1, .int .i64 dd, .int .i64 ds, .int .i64 du, .int .i64 dn, .int .i64 NQ, .string (dI ++ da), .string dO, .bool dF] w (w8.alloc (.cells #[.int .i64 80, .int .i64 dp1, .int .i64 dn, .int .i64 NQ, .int .i64 16, .int .i64 1000, .string ⟨#[]⟩] 27))) := by
        have h : XQ (w.heap.size) [.string dm, .int .i64 di1, .int .i64 dp1, .int .i64 dd, .int .i64 ds, .int .i64 du, .int .i64 dn, .int .i64 NQ, .string (dI ++ da), .string dO, .bool dF] w w8 := by rw [hw8]; exact L6.out.cells (by omega) (by omega)
        exact ⟨h, h.below ((Below.refl _ _).alloc (Nat.le_refl _) _)⟩
      clear hw8
      refine hK.out _ _ ?_ (fun hH1009 => ?_)
      · (try dsimp only)
        first | (with_reducible exact L6.out) | (with_reducible exact LA.out) | (with_reducible exact F8.out.1) | (with_reducible exact F8.out.2)
      clear hK K hH1005
      refine wpAnyH_ready (rs := [5]) (by kernel_rfl) (by simp) ?_
      refine AllReadyH.cons rfl (fun K hK => ?_) ?_
      · go_simp
        refine hK.out _ _ ?_ (fun hH1010 => ?_)
        · (try dsimp only)
          first | (with_reducible exact L6.out) | (with_reducible exact LA.out) | (with_reducible exact F8.out.1) | (with_reducible exact F8.out.2)
        clear hK K hH1009
        refine wpAnyH_take (i := 7) (v := ?v1011) rfl (by kernel_rfl) (by kernel_rfl) (by kernel_rfl) (fun _ _ _ h => h) (Or.inl ⟨by rfl, ?hy1011⟩) (by assumption) ?rest1011
        case hy1011 => (intro w hSw; (try dsimp only at hSw); go_simp; (try with_reducible rfl))
        refine wpAnyH_done (by kernel_rfl) ?_ _
        have O9 : Hid (OwnS sgG 7 27 (w8.alloc (.cells #[.int .i64 80, .int .i64 dp1, .int .i64 dn, .int .i64 NQ, .int .i64 16, .int .i64 1000, .string ⟨#[]⟩] 27)) w.heap.size (.slice (some ⟨w8.heap.size, 0, none⟩) 1 1) [⟨80, dp1, dn, NQ, 16, 1000, ⟨#[]⟩⟩] ∧ Below w.heap.size w (w8.alloc (.cells #[.int .i64 80, .int .i64 dp1, .int .i64 dn, .int .i64 NQ, .int .i64 16, .int .i64 1000, .string ⟨#[]⟩] 27))) := ⟨own1 w8 _ 80 dp1 dn NQ 16 1000 ⟨#[]⟩ hz8, F8.out.2.out⟩
        have R9 := R8.below ((Below.refl _ _).alloc (Nat.le_refl _) (.cells #[.int .i64 80, .int .i64 dp1, .int .i64 dn, .int .i64 NQ, .int .i64 16, .int .i64 1000, .string ⟨#[]⟩] 27))
        clear hH1010
        generalize (w8.alloc (.cells #[.int .i64 80, .int .i64 dp1, .int .i64 dn, .int .i64 NQ, .int .i64 16, .int .i64 1000, .string ⟨#[]⟩] 27)) = w9 at O9 R9 ⊢
        go_wp2
        have xx0 : w9.cell? ⟨w.heap.size + 1 + 1, 0, none⟩ = some (.string dm) := R9.cell 0 rfl
        have xx1 : w9.cell? ⟨w.heap.size + 1 + 1, 1, none⟩ = some (.int .i64 di1) := R9.cell 1 rfl
        have xx2 : w9.cell? ⟨w.heap.size + 1 + 1, 2, none⟩ = some (.int .i64 dp1) := R9.cell 2 rfl
        have xx3 : w9.cell? ⟨w.heap.size + 1 + 1, 3, none⟩ = some (.int .i64 dd) := R9.cell 3 rfl
        have xx4 : w9.cell? ⟨w.heap.size + 1 + 1, 4, none⟩ = some (.int .i64 ds) := R9.cell 4 rfl
        have xx5 : w9.cell? ⟨w.heap.size + 1 + 1, 5, none⟩ = some (.int .i64 du) := R9.cell 5 rfl
        have xx6 : w9.cell? ⟨w.heap.size + 1 + 1, 6, none⟩ = some (.int .i64 dn) := R9.cell 6 rfl
        have xx7 : w9.cell? ⟨w.heap.size + 1 + 1, 7, none⟩ = some (.int .i64 NQ) := R9.cell 7 rfl
        have xx8 : w9.cell? ⟨w.heap.size + 1 + 1, 8, none⟩ = some (.string (dI ++ da)) := R9.cell 8 rfl
        have xx9 : w9.cell? ⟨w.heap.size + 1 + 1, 9, none⟩ = some (.string dO) := R9.cell 9 rfl
        have xx10 : w9.cell? ⟨w.heap.size + 1 + 1, 10, none⟩ = some (.bool dF) := R9.cell 10 rfl
        (try simp only [Exit.inBlock, Exit.then])
        refine bodyPost_ret (v := .tuple #[.agg #[.string dm, .int .i64 di1, .int .i64 dp1, .int .i64 dd, .int .i64 ds, .int .i64 du, .int .i64 dn, .int .i64 NQ, .string (dI ++ da), .string dO, .bool dF], .slice (some ⟨w8.heap.size, 0, none⟩) 1 1]) (by simp [results, Try.results37, go_sem, xx0, xx1, xx2, xx3, xx4, xx5, xx6, xx7, xx8, xx9, xx10]; try rfl) rfl ?_
        exact ⟨_, rfl, O9.out.1, O9.out.2⟩
      exact AllReadyH.nil
    exact AllReadyH.nil
  exact AllReadyH.nil
set_option maxHeartbeats 16000000 in
theorem tkUa_any (mc : ByteArray) (ip po di st un nx wa : Int) (inn out : ByteArray) (fin : Bool) (sp dp sq ac fl wi : Int) (da : ByteArray) (dm : ByteArray) (di1 dp1 dd ds du dn dw : Int) (dI dO : ByteArray) (dF : Bool) (w : World) (t4 : (st == 4) = false) (f4 : (bits BinOp.and IntKind.i64 fl 4 != 0) = false) (f2 : (bits BinOp.and IntKind.i64 fl 2 != 0) = false) (f16 : (bits BinOp.and IntKind.i64 fl 16 == 0) = false) (TK0 : ∀ w, Calls Try.prog 78 #[.agg #[.string mc, .int .i64 ip, .int .i64 po, .int .i64 di, .int .i64 st, .int .i64 un, .int .i64 nx, .int .i64 wa, .string inn, .string out, .bool fin], .int .i64 ac] w fun e w' => e = .returned (.agg #[.string dm, .int .i64 di1, .int .i64 dp1, .int .i64 dd, .int .i64 ds, .int .i64 du, .int .i64 dn, .int .i64 dw, .string dI, .string dO, .bool dF]) ∧ Below w.heap.size w w') (u1 : (ds == 1) = false) (u4 : (ds == 4) = false) (ed : (da.toList == []) = false) (q : (sq == dw) = true) (hi : dI.size ≤ 300) (hda : da.size ≤ 360) (hw : 0 ≤ dw ∧ dw ≤ 4294967295) (r : (dI.size : Int) + (da.size : Int) ≤ 300) (f2 : (bits BinOp.and IntKind.i64 fl 1 != 0) = true) :
    Calls Try.prog 37 #[.agg #[.string mc, .int .i64 ip, .int .i64 po, .int .i64 di, .int .i64 st, .int .i64 un, .int .i64 nx, .int .i64 wa, .string inn, .string out, .bool fin], .agg #[.int .i64 sp, .int .i64 dp, .int .i64 sq, .int .i64 ac, .int .i64 fl, .int .i64 wi, .string da]] w fun e w' => ∃ v, e = .returned (.tuple #[.agg #[.string dm, .int .i64 di1, .int .i64 dp1, .int .i64 dd, .int .i64 ds, .int .i64 du, .int .i64 dn, .int .i64 (sqN (sqN (dw + (da.size : Int)) + 1)), .string (dI ++ da), .string dO, .bool dF], v]) ∧ OwnS sgG 7 27 w' w.heap.size v [⟨80, dp1, dn, sqN (sqN (dw + (da.size : Int)) + 1), 16, 1000, ⟨#[]⟩⟩] ∧ Below w.heap.size w w' := by
  have TK : Hid _ := TK0
  clear TK0
  have hadd : ∀ wx : World, (Op.stringOp .add dI da).run Try.prog wx = .ok (.string (dI ++ da)) wx := fun wx => run_string_add_sum (P := Try.prog) (w := wx) _ _ (by omega)
  have TQ : Hid (∀ w, Calls Try.prog 61 #[.int .i64 (dw + (da.size : Int))] w fun e w' => e = .returned (.int .i64 (sqN (dw + (da.size : Int)))) ∧ w' = w) := fun w => l10Seq_any _ w (by omega) (by omega)
  have hqb := sqN_bd (dw + (da.size : Int))
  have TR : Hid (∀ w, Calls Try.prog 61 #[.int .i64 (sqN (dw + (da.size : Int)) + 1)] w fun e w' => e = .returned (.int .i64 (sqN (sqN (dw + (da.size : Int)) + 1))) ∧ w' = w) := fun w => l10Seq_any _ w (by omega) (by omega)
  have ew1 : IntKind.i64.wrap (dw + (da.size : Int)) = dw + (da.size : Int) := by rw [IntKind.wrap_i64]; omega
  have ew2 : IntKind.i64.wrap (sqN (dw + (da.size : Int)) + 1) = sqN (dw + (da.size : Int)) + 1 := by rw [IntKind.wrap_i64]; omega
  generalize sqN (sqN (dw + (da.size : Int)) + 1) = NQ2 at TR ⊢
  generalize sqN (dw + (da.size : Int)) = NQ at TQ TR ew2 hqb ⊢
  have TA : Hid (∀ w, Calls Try.prog 77 #[.agg #[.string dm, .int .i64 di1, .int .i64 dp1, .int .i64 dd, .int .i64 ds, .int .i64 du, .int .i64 dn, .int .i64 NQ2, .string (dI ++ da), .string dO, .bool dF], .int .i64 dn, .int .i64 16, .string ⟨#[]⟩] w fun e w' => e = .returned (.agg #[.int .i64 80, .int .i64 dp1, .int .i64 dn, .int .i64 NQ2, .int .i64 16, .int .i64 1000, .string ⟨#[]⟩]) ∧ Grw w w') := fun w => l10Reply_any dm di1 dp1 dd ds du dn NQ2 (dI ++ da) dO dF dn 16 ⟨#[]⟩ w
  have C9 : Bx (((w.alloc (.cells #[.string mc, .int .i64 ip, .int .i64 po, .int .i64 di, .int .i64 st, .int .i64 un, .int .i64 nx, .int .i64 wa, .string inn, .string out, .bool fin] 24)).alloc (.cells #[.int .i64 sp, .int .i64 dp, .int .i64 sq, .int .i64 ac, .int .i64 fl, .int .i64 wi, .string da] 27)).alloc (.cells #[.string ⟨#[]⟩, .int .i64 0, .int .i64 0, .int .i64 0, .int .i64 0, .int .i64 0, .int .i64 0, .int .i64 0, .string ⟨#[]⟩, .string ⟨#[]⟩, .bool false] 24)) w.heap.size [.string mc, .int .i64 ip, .int .i64 po, .int .i64 di, .int .i64 st, .int .i64 un, .int .i64 nx, .int .i64 wa, .string inn, .string out, .bool fin] := ((Bx.new w _ _).below ((Below.refl _ _).alloc (Nat.le_refl _) _)).below ((Below.refl _ _).alloc (Nat.le_refl _) _)
  have G9 : Bx (((w.alloc (.cells #[.string mc, .int .i64 ip, .int .i64 po, .int .i64 di, .int .i64 st, .int .i64 un, .int .i64 nx, .int .i64 wa, .string inn, .string out, .bool fin] 24)).alloc (.cells #[.int .i64 sp, .int .i64 dp, .int .i64 sq, .int .i64 ac, .int .i64 fl, .int .i64 wi, .string da] 27)).alloc (.cells #[.string ⟨#[]⟩, .int .i64 0, .int .i64 0, .int .i64 0, .int .i64 0, .int .i64 0, .int .i64 0, .int .i64 0, .string ⟨#[]⟩, .string ⟨#[]⟩, .bool false] 24)) (w.heap.size + 1) [.int .i64 sp, .int .i64 dp, .int .i64 sq, .int .i64 ac, .int .i64 fl, .int .i64 wi, .string da] := by
    have h := (Bx.new (w.alloc (.cells #[.string mc, .int .i64 ip, .int .i64 po, .int .i64 di, .int .i64 st, .int .i64 un, .int .i64 nx, .int .i64 wa, .string inn, .string out, .bool fin] 24)) #[.int .i64 sp, .int .i64 dp, .int .i64 sq, .int .i64 ac, .int .i64 fl, .int .i64 wi, .string da] 27).below ((Below.refl _ _).alloc (Nat.le_refl _) (.cells #[.string ⟨#[]⟩, .int .i64 0, .int .i64 0, .int .i64 0, .int .i64 0, .int .i64 0, .int .i64 0, .int .i64 0, .string ⟨#[]⟩, .string ⟨#[]⟩, .bool false] 24))
    rw [World.size_alloc] at h
    exact h
  have R9 : Bx (((w.alloc (.cells #[.string mc, .int .i64 ip, .int .i64 po, .int .i64 di, .int .i64 st, .int .i64 un, .int .i64 nx, .int .i64 wa, .string inn, .string out, .bool fin] 24)).alloc (.cells #[.int .i64 sp, .int .i64 dp, .int .i64 sq, .int .i64 ac, .int .i64 fl, .int .i64 wi, .string da] 27)).alloc (.cells #[.string ⟨#[]⟩, .int .i64 0, .int .i64 0, .int .i64 0, .int .i64 0, .int .i64 0, .int .i64 0, .int .i64 0, .string ⟨#[]⟩, .string ⟨#[]⟩, .bool false] 24)) (w.heap.size + 1 + 1) [.string ⟨#[]⟩, .int .i64 0, .int .i64 0, .int .i64 0, .int .i64 0, .int .i64 0, .int .i64 0, .int .i64 0, .string ⟨#[]⟩, .string ⟨#[]⟩, .bool false] := by
    have h := Bx.new ((w.alloc (.cells #[.string mc, .int .i64 ip, .int .i64 po, .int .i64 di, .int .i64 st, .int .i64 un, .int .i64 nx, .int .i64 wa, .string inn, .string out, .bool fin] 24)).alloc (.cells #[.int .i64 sp, .int .i64 dp, .int .i64 sq, .int .i64 ac, .int .i64 fl, .int .i64 wi, .string da] 27)) #[.string ⟨#[]⟩, .int .i64 0, .int .i64 0, .int .i64 0, .int .i64 0, .int .i64 0, .int .i64 0, .int .i64 0, .string ⟨#[]⟩, .string ⟨#[]⟩, .bool false] 24
    rw [World.size_alloc, World.size_alloc] at h
    exact h
  have B9 : Hid (Below w.heap.size w (((w.alloc (.cells #[.string mc, .int .i64 ip, .int .i64 po, .int .i64 di, .int .i64 st, .int .i64 un, .int .i64 nx, .int .i64 wa, .string inn, .string out, .bool fin] 24)).alloc (.cells #[.int .i64 sp, .int .i64 dp, .int .i64 sq, .int .i64 ac, .int .i64 fl, .int .i64 wi, .string da] 27)).alloc (.cells #[.string ⟨#[]⟩, .int .i64 0, .int .i64 0, .int .i64 0, .int .i64 0, .int .i64 0, .int .i64 0, .int .i64 0, .string ⟨#[]⟩, .string ⟨#[]⟩, .bool false] 24))) := ((((Below.refl _ _).alloc (Nat.le_refl _) _).alloc (by simp) _).alloc (by simp; omega) _)
  have C0 : Bx ((((w.alloc (.cells #[.string mc, .int .i64 ip, .int .i64 po, .int .i64 di, .int .i64 st, .int .i64 un, .int .i64 nx, .int .i64 wa, .string inn, .string out, .bool fin] 24)).alloc (.cells #[.int .i64 sp, .int .i64 dp, .int .i64 sq, .int .i64 ac, .int .i64 fl, .int .i64 wi, .string da] 27)).alloc (.cells #[.string ⟨#[]⟩, .int .i64 0, .int .i64 0, .int .i64 0, .int .i64 0, .int .i64 0, .int .i64 0, .int .i64 0, .string ⟨#[]⟩, .string ⟨#[]⟩, .bool false] 24)).alloc (.cells #[] 27)) w.heap.size [.string mc, .int .i64 ip, .int .i64 po, .int .i64 di, .int .i64 st, .int .i64 un, .int .i64 nx, .int .i64 wa, .string inn, .string out, .bool fin] := C9.below ((Below.refl _ _).alloc (Nat.le_refl _) _)
  have G0 : Bx ((((w.alloc (.cells #[.string mc, .int .i64 ip, .int .i64 po, .int .i64 di, .int .i64 st, .int .i64 un, .int .i64 nx, .int .i64 wa, .string inn, .string out, .bool fin] 24)).alloc (.cells #[.int .i64 sp, .int .i64 dp, .int .i64 sq, .int .i64 ac, .int .i64 fl, .int .i64 wi, .string da] 27)).alloc (.cells #[.string ⟨#[]⟩, .int .i64 0, .int .i64 0, .int .i64 0, .int .i64 0, .int .i64 0, .int .i64 0, .int .i64 0, .string ⟨#[]⟩, .string ⟨#[]⟩, .bool false] 24)).alloc (.cells #[] 27)) (w.heap.size + 1) [.int .i64 sp, .int .i64 dp, .int .i64 sq, .int .i64 ac, .int .i64 fl, .int .i64 wi, .string da] := G9.below ((Below.refl _ _).alloc (Nat.le_refl _) _)
  have R0 : Bx ((((w.alloc (.cells #[.string mc, .int .i64 ip, .int .i64 po, .int .i64 di, .int .i64 st, .int .i64 un, .int .i64 nx, .int .i64 wa, .string inn, .string out, .bool fin] 24)).alloc (.cells #[.int .i64 sp, .int .i64 dp, .int .i64 sq, .int .i64 ac, .int .i64 fl, .int .i64 wi, .string da] 27)).alloc (.cells #[.string ⟨#[]⟩, .int .i64 0, .int .i64 0, .int .i64 0, .int .i64 0, .int .i64 0, .int .i64 0, .int .i64 0, .string ⟨#[]⟩, .string ⟨#[]⟩, .bool false] 24)).alloc (.cells #[] 27)) (w.heap.size + 1 + 1) [.string ⟨#[]⟩, .int .i64 0, .int .i64 0, .int .i64 0, .int .i64 0, .int .i64 0, .int .i64 0, .int .i64 0, .string ⟨#[]⟩, .string ⟨#[]⟩, .bool false] := R9.below ((Below.refl _ _).alloc (Nat.le_refl _) _)
  have B0 : Hid (Below w.heap.size w ((((w.alloc (.cells #[.string mc, .int .i64 ip, .int .i64 po, .int .i64 di, .int .i64 st, .int .i64 un, .int .i64 nx, .int .i64 wa, .string inn, .string out, .bool fin] 24)).alloc (.cells #[.int .i64 sp, .int .i64 dp, .int .i64 sq, .int .i64 ac, .int .i64 fl, .int .i64 wi, .string da] 27)).alloc (.cells #[.string ⟨#[]⟩, .int .i64 0, .int .i64 0, .int .i64 0, .int .i64 0, .int .i64 0, .int .i64 0, .int .i64 0, .string ⟨#[]⟩, .string ⟨#[]⟩, .bool false] 24)).alloc (.cells #[] 27))) := (((((Below.refl _ _).alloc (Nat.le_refl _) _).alloc (by simp) _).alloc (by simp; omega) _).alloc (by simp; omega) _)
  have O0 : OwnS sgG 7 27 ((((w.alloc (.cells #[.string mc, .int .i64 ip, .int .i64 po, .int .i64 di, .int .i64 st, .int .i64 un, .int .i64 nx, .int .i64 wa, .string inn, .string out, .bool fin] 24)).alloc (.cells #[.int .i64 sp, .int .i64 dp, .int .i64 sq, .int .i64 ac, .int .i64 fl, .int .i64 wi, .string da] 27)).alloc (.cells #[.string ⟨#[]⟩, .int .i64 0, .int .i64 0, .int .i64 0, .int .i64 0, .int .i64 0, .int .i64 0, .int .i64 0, .string ⟨#[]⟩, .string ⟨#[]⟩, .bool false] 24)).alloc (.cells #[] 27)) (w.heap.size + 3) (.slice (some ⟨w.heap.size + 1 + 1 + 1, 0, none⟩) 0 0) [] := lit_at (by omega) (by simp)
  clear C9 G9 R9 B9
  go_enter Try.func37, Try.ntmps37
  go_wp2_with fail
  refine (TK.out _).mono ?_
  rintro e w1 ⟨rfl, b1⟩
  have C1 : Bx w1 w.heap.size [.string mc, .int .i64 ip, .int .i64 po, .int .i64 di, .int .i64 st, .int .i64 un, .int .i64 nx, .int .i64 wa, .string inn, .string out, .bool fin] := C0.below b1
  have G1 : Bx w1 (w.heap.size + 1) [.int .i64 sp, .int .i64 dp, .int .i64 sq, .int .i64 ac, .int .i64 fl, .int .i64 wi, .string da] := G0.below b1
  have R1 : Bx w1 (w.heap.size + 1 + 1) [.string ⟨#[]⟩, .int .i64 0, .int .i64 0, .int .i64 0, .int .i64 0, .int .i64 0, .int .i64 0, .int .i64 0, .string ⟨#[]⟩, .string ⟨#[]⟩, .bool false] := R0.below b1
  have B1 : Hid (Below w.heap.size w w1) := B0.out.trans (b1.mono B0.out.size)
  have O1 : OwnS sgG 7 27 w1 (w.heap.size + 3) (.slice (some ⟨w.heap.size + 1 + 1 + 1, 0, none⟩) 0 0) [] := O0.now b1
  clear b1 C0 G0 R0 B0 O0 TK
  go_wp2_with (first | (refine wpl_put rfl _ _ rfl (w.heap.size) _ rfl rfl C1 rfl rfl rfl ?_; intro w3 hw3 C3; have G3 : Bx w3 (w.heap.size + 1) [.int .i64 sp, .int .i64 dp, .int .i64 sq, .int .i64 ac, .int .i64 fl, .int .i64 wi, .string da] := (by rw [hw3]; exact G1.apart _ (by omega)); have R3 : Bx w3 (w.heap.size + 1 + 1) [.string ⟨#[]⟩, .int .i64 0, .int .i64 0, .int .i64 0, .int .i64 0, .int .i64 0, .int .i64 0, .int .i64 0, .string ⟨#[]⟩, .string ⟨#[]⟩, .bool false] := (by rw [hw3]; exact R1.apart _ (by omega)); have B3 : Hid (Below w.heap.size w w3) := (by rw [hw3]; exact below_cells (Nat.le_refl _) _ _ _ B1.out); have O3 : Hid (OwnS sgG 7 27 w3 (w.heap.size + 3) (.slice (some ⟨w.heap.size + 1 + 1 + 1, 0, none⟩) 0 0) []) := (by rw [hw3]; exact own_cells (by omega) _ _ _ O1); have v4 : w3.cell? ⟨w.heap.size, 4, none⟩ = some (.int .i64 ds) := C3.cell 4 rfl; have v7 : w3.cell? ⟨w.heap.size, 7, none⟩ = some (.int .i64 dw) := C3.cell 7 rfl; have v8 : w3.cell? ⟨w.heap.size, 8, none⟩ = some (.string dI) := C3.cell 8 rfl; have z7 : w3.frozen? ⟨w.heap.size, 7, none⟩ = false := C3.thaw 7 (by simp); have z8 : w3.frozen? ⟨w.heap.size, 8, none⟩ = false := C3.thaw 8 (by simp); have k2 : w3.cell? ⟨w.heap.size + 1, 2, none⟩ = some (.int .i64 sq) := G3.cell 2 rfl; have k4 : w3.cell? ⟨w.heap.size + 1, 4, none⟩ = some (.int .i64 fl) := G3.cell 4 rfl; have k6 : w3.cell? ⟨w.heap.size + 1, 6, none⟩ = some (.string da) := G3.cell 6 rfl; clear hw3 C1 G1 R1 B1 O1) | fail)
  refine (TQ.out _).mono ?_
  rintro e wq ⟨rfl, hw⟩
  subst hw
  go_wp2_with fail
  refine (TR.out _).mono ?_
  rintro e wq2 ⟨rfl, hw⟩
  subst hw
  go_wp2_with fail
  have C5 : Bx (((w3.setCell ⟨w.heap.size, 8, none⟩ (.string (dI ++ da))).setCell ⟨w.heap.size, 7, none⟩ (.int .i64 NQ)).setCell ⟨w.heap.size, 7, none⟩ (.int .i64 NQ2)) w.heap.size [.string dm, .int .i64 di1, .int .i64 dp1, .int .i64 dd, .int .i64 ds, .int .i64 du, .int .i64 dn, .int .i64 NQ2, .string (dI ++ da), .string dO, .bool dF] := ((C3.field 8 _).field 7 _).field 7 _
  have R5 : Bx (((w3.setCell ⟨w.heap.size, 8, none⟩ (.string (dI ++ da))).setCell ⟨w.heap.size, 7, none⟩ (.int .i64 NQ)).setCell ⟨w.heap.size, 7, none⟩ (.int .i64 NQ2)) (w.heap.size + 1 + 1) [.string ⟨#[]⟩, .int .i64 0, .int .i64 0, .int .i64 0, .int .i64 0, .int .i64 0, .int .i64 0, .int .i64 0, .string ⟨#[]⟩, .string ⟨#[]⟩, .bool false] := ((R3.far _ _ (by dsimp only; omega)).far _ _ (by dsimp only; omega)).far _ _ (by dsimp only; omega)
  have B5 : Hid (Below w.heap.size w (((w3.setCell ⟨w.heap.size, 8, none⟩ (.string (dI ++ da))).setCell ⟨w.heap.size, 7, none⟩ (.int .i64 NQ)).setCell ⟨w.heap.size, 7, none⟩ (.int .i64 NQ2))) := ((B3.out.setCell (Nat.le_refl _) _).setCell (Nat.le_refl _) _).setCell (Nat.le_refl _) _
  clear C3 R3 B3
  clear v4 v7 v8 z7 z8 k2 k4 k6 G3 O3
  generalize (((w3.setCell ⟨w.heap.size, 8, none⟩ (.string (dI ++ da))).setCell ⟨w.heap.size, 7, none⟩ (.int .i64 NQ)).setCell ⟨w.heap.size, 7, none⟩ (.int .i64 NQ2)) = w5 at C5 R5 B5 ⊢
  have hs5 : w.heap.size + 3 ≤ w5.heap.size := by
    have := World.block_lt_of_cell? w5 _ (R5.cell 0 rfl)
    dsimp only at this
    omega
  have SS : Hid (XQ (w.heap.size) [.string dm, .int .i64 di1, .int .i64 dp1, .int .i64 dd, .int .i64 ds, .int .i64 du, .int .i64 dn, .int .i64 NQ2, .string (dI ++ da), .string dO, .bool dF] w w5.drew) := ⟨C5.below ((Below.refl _ _).drew), B5.out.drew⟩
  have RS : Hid (Bx w5.drew (w.heap.size + 1 + 1) [.string ⟨#[]⟩, .int .i64 0, .int .i64 0, .int .i64 0, .int .i64 0, .int .i64 0, .int .i64 0, .int .i64 0, .string ⟨#[]⟩, .string ⟨#[]⟩, .bool false]) := R5.below ((Below.refl _ _).drew)
  clear C5 R5 B5
  refine wp_region_held_drew (S := (fun wx => XQ (w.heap.size) [.string dm, .int .i64 di1, .int .i64 dp1, .int .i64 dd, .int .i64 ds, .int .i64 du, .int .i64 dn, .int .i64 NQ2, .string (dI ++ da), .string dO, .bool dF] w wx)) (by kernel_rfl) ?_ (fun hH0 => ?_)
  · with_reducible exact SS.out
  refine wpAnyH_take (i := 0) (v := .agg #[.string dm, .int .i64 di1, .int .i64 dp1, .int .i64 dd, .int .i64 ds, .int .i64 du, .int .i64 dn, .int .i64 NQ2, .string (dI ++ da), .string dO, .bool dF]) rfl (by kernel_rfl) (by kernel_rfl) (by kernel_rfl) (fun _ _ _ h => h) (yieldsIf_load_mid (by rfl) 24 _ rfl (w.heap.size) 0 rfl [.string dm, .int .i64 di1, .int .i64 dp1, .int .i64 dd, .int .i64 ds, .int .i64 du, .int .i64 dn, .int .i64 NQ2, .string (dI ++ da), .string dO, .bool dF] _ (fun _ h => h.c.cl) Try.underlying24 rfl rfl) (by assumption) ?rest1001
  refine wpAnyH_take (i := 1) (v := .agg #[.string dm, .int .i64 di1, .int .i64 dp1, .int .i64 dd, .int .i64 ds, .int .i64 du, .int .i64 dn, .int .i64 NQ2, .string (dI ++ da), .string dO, .bool dF]) rfl (by kernel_rfl) (by kernel_rfl) (by kernel_rfl) (fun _ _ _ h => h) (yieldsIf_load_mid (by rfl) 24 _ rfl (w.heap.size) 0 rfl [.string dm, .int .i64 di1, .int .i64 dp1, .int .i64 dd, .int .i64 ds, .int .i64 du, .int .i64 dn, .int .i64 NQ2, .string (dI ++ da), .string dO, .bool dF] _ (fun _ h => h.c.cl) Try.underlying24 rfl rfl) (by assumption) ?rest1002
  refine wpAnyH_take (i := 2) (v := ?v1003) rfl (by kernel_rfl) (by kernel_rfl) (by kernel_rfl) (fun _ _ _ h => h) (Or.inl ⟨by rfl, ?hy1003⟩) (by assumption) ?rest1003
  case hy1003 => (intro w hSw; (try dsimp only at hSw); go_simp; (try with_reducible rfl))
  refine wpAnyH_take (i := 3) (v := .int .i64 dn) rfl (by kernel_rfl) (by kernel_rfl) (by kernel_rfl) (fun _ _ _ h => h) (Or.inl ⟨by rfl, ?hy1004⟩) (by assumption) ?rest1004
  case hy1004 =>
    intro wz hSw
    have hf := hSw.c.cell 6 rfl
    go_simp
  refine wpAnyH_ready (rs := [4]) (by kernel_rfl) (by simp) ?_
  refine AllReadyH.cons rfl (fun K hK => ?_) ?_
  · go_simp
    go_at_call 77
    with_reducible refine (TA.out _).mono ?_
    rintro e w6 ⟨rfl, g6⟩
    have hs6 : w.heap.size + 3 ≤ w6.heap.size := Nat.le_trans (by simpa using hs5) g6.below.size
    have L6 : Hid (XQ (w.heap.size) [.string dm, .int .i64 di1, .int .i64 dp1, .int .i64 dd, .int .i64 ds, .int .i64 du, .int .i64 dn, .int .i64 NQ2, .string (dI ++ da), .string dO, .bool dF] w w6) := SS.out.below g6.below
    have R6 : Hid (Bx w6 (w.heap.size + 1 + 1) [.string ⟨#[]⟩, .int .i64 0, .int .i64 0, .int .i64 0, .int .i64 0, .int .i64 0, .int .i64 0, .int .i64 0, .string ⟨#[]⟩, .string ⟨#[]⟩, .bool false]) := RS.out.below g6.below
    have LA : Hid (XQ (w.heap.size) [.string dm, .int .i64 di1, .int .i64 dp1, .int .i64 dd, .int .i64 ds, .int .i64 du, .int .i64 dn, .int .i64 NQ2, .string (dI ++ da), .string dO, .bool dF] w (w6.alloc (.cells #[.int .i64 80, .int .i64 dp1, .int .i64 dn, .int .i64 NQ2, .int .i64 16, .int .i64 1000, .string ⟨#[]⟩] 27))) := L6.out.below ((Below.refl _ _).alloc (Nat.le_refl _) _)
    clear g6 SS RS
    refine hK.out _ _ ?_ (fun hH1005 => ?_)
    · (try dsimp only)
      first | (with_reducible exact L6.out) | (with_reducible exact LA.out) | (with_reducible exact F8.out.1) | (with_reducible exact F8.out.2)
    clear hK K hH0
    refine wpAnyH_ready (rs := [5, 6]) (by kernel_rfl) (by simp) ?_
    refine AllReadyH.cons rfl (fun K hK => ?_) ?_
    · go_simp
      refine hK.out _ _ ?_ (fun hH1006 => ?_)
      · (try dsimp only)
        first | (with_reducible exact L6.out) | (with_reducible exact LA.out) | (with_reducible exact F8.out.1) | (with_reducible exact F8.out.2)
      clear hK K hH1005
      refine wpAnyH_ready (rs := [6]) (by kernel_rfl) (by simp) ?_
      refine AllReadyH.cons rfl (fun K hK => ?_) ?_
      · skip
        refine wpr_put rfl _ _ rfl (w.heap.size + 1 + 1) _ rfl rfl (R6.out.below ((Below.refl _ _).alloc (Nat.le_refl _) (.cells #[.int .i64 80, .int .i64 dp1, .int .i64 dn, .int .i64 NQ2, .int .i64 16, .int .i64 1000, .string ⟨#[]⟩] 27))) rfl rfl rfl ?_
        intro w8 hw8 R8
        have F8 : Hid (XQ (w.heap.size) [.string dm, .int .i64 di1, .int .i64 dp1, .int .i64 dd, .int .i64 ds, .int .i64 du, .int .i64 dn, .int .i64 NQ2, .string (dI ++ da), .string dO, .bool dF] w w8 ∧ OwnS sgG 7 27 w8 w.heap.size (.slice (some ⟨w6.heap.size, 0, none⟩) 1 1) [⟨80, dp1, dn, NQ2, 16, 1000, ⟨#[]⟩⟩]) := by
          rw [hw8]
          exact ⟨LA.out.cells (by omega) (by omega), (own_cells (by omega) _ _ _ (own1 w6 (w.heap.size + 3) 80 dp1 dn NQ2 16 1000 ⟨#[]⟩ hs6)).lower (by omega)⟩
        clear hw8
        refine hK.out _ _ ?_ (fun hH1007 => ?_)
        · (try dsimp only)
          first | (with_reducible exact L6.out) | (with_reducible exact LA.out) | (with_reducible exact F8.out.1) | (with_reducible exact F8.out.2)
        clear hK K hH1006
        refine wpAnyH_take (i := 7) (v := ?v1008) rfl (by kernel_rfl) (by kernel_rfl) (by kernel_rfl) (fun _ _ _ h => h) (Or.inl ⟨by rfl, ?hy1008⟩) (by assumption) ?rest1008
        case hy1008 => (intro w hSw; (try dsimp only at hSw); go_simp; (try with_reducible rfl))
        refine wpAnyH_done (by kernel_rfl) ?_ _
        have O9 : Hid (OwnS sgG 7 27 w8 w.heap.size (.slice (some ⟨w6.heap.size, 0, none⟩) 1 1) [⟨80, dp1, dn, NQ2, 16, 1000, ⟨#[]⟩⟩] ∧ Below w.heap.size w w8) := ⟨F8.out.2, F8.out.1.out⟩
        have R9 := R8
        clear hH1007
        go_wp2
        have xx0 : w8.cell? ⟨w.heap.size + 1 + 1, 0, none⟩ = some (.string dm) := R9.cell 0 rfl
        have xx1 : w8.cell? ⟨w.heap.size + 1 + 1, 1, none⟩ = some (.int .i64 di1) := R9.cell 1 rfl
        have xx2 : w8.cell? ⟨w.heap.size + 1 + 1, 2, none⟩ = some (.int .i64 dp1) := R9.cell 2 rfl
        have xx3 : w8.cell? ⟨w.heap.size + 1 + 1, 3, none⟩ = some (.int .i64 dd) := R9.cell 3 rfl
        have xx4 : w8.cell? ⟨w.heap.size + 1 + 1, 4, none⟩ = some (.int .i64 ds) := R9.cell 4 rfl
        have xx5 : w8.cell? ⟨w.heap.size + 1 + 1, 5, none⟩ = some (.int .i64 du) := R9.cell 5 rfl
        have xx6 : w8.cell? ⟨w.heap.size + 1 + 1, 6, none⟩ = some (.int .i64 dn) := R9.cell 6 rfl
        have xx7 : w8.cell? ⟨w.heap.size + 1 + 1, 7, none⟩ = some (.int .i64 NQ2) := R9.cell 7 rfl
        have xx8 : w8.cell? ⟨w.heap.size + 1 + 1, 8, none⟩ = some (.string (dI ++ da)) := R9.cell 8 rfl
        have xx9 : w8.cell? ⟨w.heap.size + 1 + 1, 9, none⟩ = some (.string dO) := R9.cell 9 rfl
        have xx10 : w8.cell? ⟨w.heap.size + 1 + 1, 10, none⟩ = some (.bool dF) := R9.cell 10 rfl
        (try simp only [Exit.inBlock, Exit.then])
        refine bodyPost_ret (v := .tuple #[.agg #[.string dm, .int .i64 di1, .int .i64 dp1, .int .i64 dd, .int .i64 ds, .int .i64 du, .int .i64 dn, .int .i64 NQ2, .string (dI ++ da), .string dO, .bool dF], .slice (some ⟨w6.heap.size, 0, none⟩) 1 1]) (by simp [results, Try.results37, go_sem, xx0, xx1, xx2, xx3, xx4, xx5, xx6, xx7, xx8, xx9, xx10]; try rfl) rfl ?_
        exact ⟨_, rfl, O9.out.1, O9.out.2⟩
      exact AllReadyH.nil
    refine AllReadyH.cons rfl (fun K hK => ?_) ?_
    · skip
      refine wpr_put rfl _ _ rfl (w.heap.size + 1 + 1) _ rfl rfl R6.out rfl rfl rfl ?_
      intro w8 hw8 R8
      have hz8 : w.heap.size ≤ w8.heap.size := by
        have := World.block_lt_of_cell? w8 _ (R8.cell 0 rfl)
        dsimp only at this
        omega
      have F8 : Hid (XQ (w.heap.size) [.string dm, .int .i64 di1, .int .i64 dp1, .int .i64 dd, .int .i64 ds, .int .i64 du, .int .i64 dn, .int .i64 NQ2, .string (dI ++ da), .string dO, .bool dF] w w8 ∧ XQ (w.heap.size) [.string dm, .int .i64 di1, .int .i64 dp1, .int .i64 dd, .int .i64 ds, .int .i64 du, .int .i64 dn, .int .i64 NQ2, .string (dI ++ da), .string dO, .bool dF] w (w8.alloc (.cells #[.int .i64 80, .int .i64 dp1, .int .i64 dn, .int .i64 NQ2, .int .i64 16, .int .i64 1000, .string ⟨#[]⟩] 27))) := by
        have h : XQ (w.heap.size) [.string dm, .int .i64 di1, .int .i64 dp1, .int .i64 dd, .int .i64 ds, .int .i64 du, .int .i64 dn, .int .i64 NQ2, .string (dI ++ da), .string dO, .bool dF] w w8 := by rw [hw8]; exact L6.out.cells (by omega) (by omega)
        exact ⟨h, h.below ((Below.refl _ _).alloc (Nat.le_refl _) _)⟩
      clear hw8
      refine hK.out _ _ ?_ (fun hH1009 => ?_)
      · (try dsimp only)
        first | (with_reducible exact L6.out) | (with_reducible exact LA.out) | (with_reducible exact F8.out.1) | (with_reducible exact F8.out.2)
      clear hK K hH1005
      refine wpAnyH_ready (rs := [5]) (by kernel_rfl) (by simp) ?_
      refine AllReadyH.cons rfl (fun K hK => ?_) ?_
      · go_simp
        refine hK.out _ _ ?_ (fun hH1010 => ?_)
        · (try dsimp only)
          first | (with_reducible exact L6.out) | (with_reducible exact LA.out) | (with_reducible exact F8.out.1) | (with_reducible exact F8.out.2)
        clear hK K hH1009
        refine wpAnyH_take (i := 7) (v := ?v1011) rfl (by kernel_rfl) (by kernel_rfl) (by kernel_rfl) (fun _ _ _ h => h) (Or.inl ⟨by rfl, ?hy1011⟩) (by assumption) ?rest1011
        case hy1011 => (intro w hSw; (try dsimp only at hSw); go_simp; (try with_reducible rfl))
        refine wpAnyH_done (by kernel_rfl) ?_ _
        have O9 : Hid (OwnS sgG 7 27 (w8.alloc (.cells #[.int .i64 80, .int .i64 dp1, .int .i64 dn, .int .i64 NQ2, .int .i64 16, .int .i64 1000, .string ⟨#[]⟩] 27)) w.heap.size (.slice (some ⟨w8.heap.size, 0, none⟩) 1 1) [⟨80, dp1, dn, NQ2, 16, 1000, ⟨#[]⟩⟩] ∧ Below w.heap.size w (w8.alloc (.cells #[.int .i64 80, .int .i64 dp1, .int .i64 dn, .int .i64 NQ2, .int .i64 16, .int .i64 1000, .string ⟨#[]⟩] 27))) := ⟨own1 w8 _ 80 dp1 dn NQ2 16 1000 ⟨#[]⟩ hz8, F8.out.2.out⟩
        have R9 := R8.below ((Below.refl _ _).alloc (Nat.le_refl _) (.cells #[.int .i64 80, .int .i64 dp1, .int .i64 dn, .int .i64 NQ2, .int .i64 16, .int .i64 1000, .string ⟨#[]⟩] 27))
        clear hH1010
        generalize (w8.alloc (.cells #[.int .i64 80, .int .i64 dp1, .int .i64 dn, .int .i64 NQ2, .int .i64 16, .int .i64 1000, .string ⟨#[]⟩] 27)) = w9 at O9 R9 ⊢
        go_wp2
        have xx0 : w9.cell? ⟨w.heap.size + 1 + 1, 0, none⟩ = some (.string dm) := R9.cell 0 rfl
        have xx1 : w9.cell? ⟨w.heap.size + 1 + 1, 1, none⟩ = some (.int .i64 di1) := R9.cell 1 rfl
        have xx2 : w9.cell? ⟨w.heap.size + 1 + 1, 2, none⟩ = some (.int .i64 dp1) := R9.cell 2 rfl
        have xx3 : w9.cell? ⟨w.heap.size + 1 + 1, 3, none⟩ = some (.int .i64 dd) := R9.cell 3 rfl
        have xx4 : w9.cell? ⟨w.heap.size + 1 + 1, 4, none⟩ = some (.int .i64 ds) := R9.cell 4 rfl
        have xx5 : w9.cell? ⟨w.heap.size + 1 + 1, 5, none⟩ = some (.int .i64 du) := R9.cell 5 rfl
        have xx6 : w9.cell? ⟨w.heap.size + 1 + 1, 6, none⟩ = some (.int .i64 dn) := R9.cell 6 rfl
        have xx7 : w9.cell? ⟨w.heap.size + 1 + 1, 7, none⟩ = some (.int .i64 NQ2) := R9.cell 7 rfl
        have xx8 : w9.cell? ⟨w.heap.size + 1 + 1, 8, none⟩ = some (.string (dI ++ da)) := R9.cell 8 rfl
        have xx9 : w9.cell? ⟨w.heap.size + 1 + 1, 9, none⟩ = some (.string dO) := R9.cell 9 rfl
        have xx10 : w9.cell? ⟨w.heap.size + 1 + 1, 10, none⟩ = some (.bool dF) := R9.cell 10 rfl
        (try simp only [Exit.inBlock, Exit.then])
        refine bodyPost_ret (v := .tuple #[.agg #[.string dm, .int .i64 di1, .int .i64 dp1, .int .i64 dd, .int .i64 ds, .int .i64 du, .int .i64 dn, .int .i64 NQ2, .string (dI ++ da), .string dO, .bool dF], .slice (some ⟨w8.heap.size, 0, none⟩) 1 1]) (by simp [results, Try.results37, go_sem, xx0, xx1, xx2, xx3, xx4, xx5, xx6, xx7, xx8, xx9, xx10]; try rfl) rfl ?_
        exact ⟨_, rfl, O9.out.1, O9.out.2⟩
      exact AllReadyH.nil
    exact AllReadyH.nil
  exact AllReadyH.nil
end Go.Proofs.Ytfgghffgfefgpaa

namespace Go.Proofs.Ytfgghffgfefgpaa
open Go.RowKit Go.PlainAid Go.Proofs.Ytfgghffgfefgpaa.Bt Go.Sort
set_option linter.unusedVariables false
set_option maxRecDepth 20000
set_option maxHeartbeats 16000000 in
theorem tkD_any (mc : ByteArray) (ip po di st un nx wa : Int) (inn out : ByteArray) (fin : Bool) (sp dp sq ac fl wi : Int) (da : ByteArray) (w : World) (t4 : (st == 4) = false) (f4 : (bits BinOp.and IntKind.i64 fl 4 != 0) = false) (f2 : (bits BinOp.and IntKind.i64 fl 2 != 0) = true) (hq : 0 ≤ sq ∧ sq ≤ 4294967295) (t1 : (st == 1) = true) (q : (sqN (sq + 1) == wa) = true) :
    Calls Try.prog 37 #[.agg #[.string mc, .int .i64 ip, .int .i64 po, .int .i64 di, .int .i64 st, .int .i64 un, .int .i64 nx, .int .i64 wa, .string inn, .string out, .bool fin], .agg #[.int .i64 sp, .int .i64 dp, .int .i64 sq, .int .i64 ac, .int .i64 fl, .int .i64 wi, .string da]] w fun e w' => ∃ v, e = .returned (.tuple #[.agg #[.string mc, .int .i64 ip, .int .i64 po, .int .i64 di, .int .i64 st, .int .i64 un, .int .i64 nx, .int .i64 wa, .string inn, .string out, .bool fin], v]) ∧ OwnS sgG 7 27 w' w.heap.size v [⟨80, po, un, wa, 18, 1000, ⟨#[]⟩⟩] ∧ Below w.heap.size w w' := by
  have TQ : Hid (∀ w, Calls Try.prog 61 #[.int .i64 (sq + 1)] w fun e w' => e = .returned (.int .i64 (sqN (sq + 1))) ∧ w' = w) := fun w => l10Seq_any _ w (by omega) (by omega)
  have ew : IntKind.i64.wrap (sq + 1) = sq + 1 := by rw [IntKind.wrap_i64]; omega
  have C9 : Bx (((w.alloc (.cells #[.string mc, .int .i64 ip, .int .i64 po, .int .i64 di, .int .i64 st, .int .i64 un, .int .i64 nx, .int .i64 wa, .string inn, .string out, .bool fin] 24)).alloc (.cells #[.int .i64 sp, .int .i64 dp, .int .i64 sq, .int .i64 ac, .int .i64 fl, .int .i64 wi, .string da] 27)).alloc (.cells #[.string ⟨#[]⟩, .int .i64 0, .int .i64 0, .int .i64 0, .int .i64 0, .int .i64 0, .int .i64 0, .int .i64 0, .string ⟨#[]⟩, .string ⟨#[]⟩, .bool false] 24)) w.heap.size [.string mc, .int .i64 ip, .int .i64 po, .int .i64 di, .int .i64 st, .int .i64 un, .int .i64 nx, .int .i64 wa, .string inn, .string out, .bool fin] := ((Bx.new w _ _).below ((Below.refl _ _).alloc (Nat.le_refl _) _)).below ((Below.refl _ _).alloc (Nat.le_refl _) _)
  have G9 : Bx (((w.alloc (.cells #[.string mc, .int .i64 ip, .int .i64 po, .int .i64 di, .int .i64 st, .int .i64 un, .int .i64 nx, .int .i64 wa, .string inn, .string out, .bool fin] 24)).alloc (.cells #[.int .i64 sp, .int .i64 dp, .int .i64 sq, .int .i64 ac, .int .i64 fl, .int .i64 wi, .string da] 27)).alloc (.cells #[.string ⟨#[]⟩, .int .i64 0, .int .i64 0, .int .i64 0, .int .i64 0, .int .i64 0, .int .i64 0, .int .i64 0, .string ⟨#[]⟩, .string ⟨#[]⟩, .bool false] 24)) (w.heap.size + 1) [.int .i64 sp, .int .i64 dp, .int .i64 sq, .int .i64 ac, .int .i64 fl, .int .i64 wi, .string da] := by
    have h := (Bx.new (w.alloc (.cells #[.string mc, .int .i64 ip, .int .i64 po, .int .i64 di, .int .i64 st, .int .i64 un, .int .i64 nx, .int .i64 wa, .string inn, .string out, .bool fin] 24)) #[.int .i64 sp, .int .i64 dp, .int .i64 sq, .int .i64 ac, .int .i64 fl, .int .i64 wi, .string da] 27).below ((Below.refl _ _).alloc (Nat.le_refl _) (.cells #[.string ⟨#[]⟩, .int .i64 0, .int .i64 0, .int .i64 0, .int .i64 0, .int .i64 0, .int .i64 0, .int .i64 0, .string ⟨#[]⟩, .string ⟨#[]⟩, .bool false] 24))
    rw [World.size_alloc] at h
    exact h
  have R9 : Bx (((w.alloc (.cells #[.string mc, .int .i64 ip, .int .i64 po, .int .i64 di, .int .i64 st, .int .i64 un, .int .i64 nx, .int .i64 wa, .string inn, .string out, .bool fin] 24)).alloc (.cells #[.int .i64 sp, .int .i64 dp, .int .i64 sq, .int .i64 ac, .int .i64 fl, .int .i64 wi, .string da] 27)).alloc (.cells #[.string ⟨#[]⟩, .int .i64 0, .int .i64 0, .int .i64 0, .int .i64 0, .int .i64 0, .int .i64 0, .int .i64 0, .string ⟨#[]⟩, .string ⟨#[]⟩, .bool false] 24)) (w.heap.size + 1 + 1) [.string ⟨#[]⟩, .int .i64 0, .int .i64 0, .int .i64 0, .int .i64 0, .int .i64 0, .int .i64 0, .int .i64 0, .string ⟨#[]⟩, .string ⟨#[]⟩, .bool false] := by
    have h := Bx.new ((w.alloc (.cells #[.string mc, .int .i64 ip, .int .i64 po, .int .i64 di, .int .i64 st, .int .i64 un, .int .i64 nx, .int .i64 wa, .string inn, .string out, .bool fin] 24)).alloc (.cells #[.int .i64 sp, .int .i64 dp, .int .i64 sq, .int .i64 ac, .int .i64 fl, .int .i64 wi, .string da] 27)) #[.string ⟨#[]⟩, .int .i64 0, .int .i64 0, .int .i64 0, .int .i64 0, .int .i64 0, .int .i64 0, .int .i64 0, .string ⟨#[]⟩, .string ⟨#[]⟩, .bool false] 24
    rw [World.size_alloc, World.size_alloc] at h
    exact h
  have B9 : Hid (Below w.heap.size w (((w.alloc (.cells #[.string mc, .int .i64 ip, .int .i64 po, .int .i64 di, .int .i64 st, .int .i64 un, .int .i64 nx, .int .i64 wa, .string inn, .string out, .bool fin] 24)).alloc (.cells #[.int .i64 sp, .int .i64 dp, .int .i64 sq, .int .i64 ac, .int .i64 fl, .int .i64 wi, .string da] 27)).alloc (.cells #[.string ⟨#[]⟩, .int .i64 0, .int .i64 0, .int .i64 0, .int .i64 0, .int .i64 0, .int .i64 0, .int .i64 0, .string ⟨#[]⟩, .string ⟨#[]⟩, .bool false] 24))) := ((((Below.refl _ _).alloc (Nat.le_refl _) _).alloc (by simp) _).alloc (by simp; omega) _)
  have C0 : Bx ((((w.alloc (.cells #[.string mc, .int .i64 ip, .int .i64 po, .int .i64 di, .int .i64 st, .int .i64 un, .int .i64 nx, .int .i64 wa, .string inn, .string out, .bool fin] 24)).alloc (.cells #[.int .i64 sp, .int .i64 dp, .int .i64 sq, .int .i64 ac, .int .i64 fl, .int .i64 wi, .string da] 27)).alloc (.cells #[.string ⟨#[]⟩, .int .i64 0, .int .i64 0, .int .i64 0, .int .i64 0, .int .i64 0, .int .i64 0, .int .i64 0, .string ⟨#[]⟩, .string ⟨#[]⟩, .bool false] 24)).alloc (.cells #[] 27)) w.heap.size [.string mc, .int .i64 ip, .int .i64 po, .int .i64 di, .int .i64 st, .int .i64 un, .int .i64 nx, .int .i64 wa, .string inn, .string out, .bool fin] := C9.below ((Below.refl _ _).alloc (Nat.le_refl _) _)
  have G0 : Bx ((((w.alloc (.cells #[.string mc, .int .i64 ip, .int .i64 po, .int .i64 di, .int .i64 st, .int .i64 un, .int .i64 nx, .int .i64 wa, .string inn, .string out, .bool fin] 24)).alloc (.cells #[.int .i64 sp, .int .i64 dp, .int .i64 sq, .int .i64 ac, .int .i64 fl, .int .i64 wi, .string da] 27)).alloc (.cells #[.string ⟨#[]⟩, .int .i64 0, .int .i64 0, .int .i64 0, .int .i64 0, .int .i64 0, .int .i64 0, .int .i64 0, .string ⟨#[]⟩, .string ⟨#[]⟩, .bool false] 24)).alloc (.cells #[] 27)) (w.heap.size + 1) [.int .i64 sp, .int .i64 dp, .int .i64 sq, .int .i64 ac, .int .i64 fl, .int .i64 wi, .string da] := G9.below ((Below.refl _ _).alloc (Nat.le_refl _) _)
  have R0 : Bx ((((w.alloc (.cells #[.string mc, .int .i64 ip, .int .i64 po, .int .i64 di, .int .i64 st, .int .i64 un, .int .i64 nx, .int .i64 wa, .string inn, .string out, .bool fin] 24)).alloc (.cells #[.int .i64 sp, .int .i64 dp, .int .i64 sq, .int .i64 ac, .int .i64 fl, .int .i64 wi, .string da] 27)).alloc (.cells #[.string ⟨#[]⟩, .int .i64 0, .int .i64 0, .int .i64 0, .int .i64 0, .int .i64 0, .int .i64 0, .int .i64 0, .string ⟨#[]⟩, .string ⟨#[]⟩, .bool false] 24)).alloc (.cells #[] 27)) (w.heap.size + 1 + 1) [.string ⟨#[]⟩, .int .i64 0, .int .i64 0, .int .i64 0, .int .i64 0, .int .i64 0, .int .i64 0, .int .i64 0, .string ⟨#[]⟩, .string ⟨#[]⟩, .bool false] := R9.below ((Below.refl _ _).alloc (Nat.le_refl _) _)
  have B0 : Hid (Below w.heap.size w ((((w.alloc (.cells #[.string mc, .int .i64 ip, .int .i64 po, .int .i64 di, .int .i64 st, .int .i64 un, .int .i64 nx, .int .i64 wa, .string inn, .string out, .bool fin] 24)).alloc (.cells #[.int .i64 sp, .int .i64 dp, .int .i64 sq, .int .i64 ac, .int .i64 fl, .int .i64 wi, .string da] 27)).alloc (.cells #[.string ⟨#[]⟩, .int .i64 0, .int .i64 0, .int .i64 0, .int .i64 0, .int .i64 0, .int .i64 0, .int .i64 0, .string ⟨#[]⟩, .string ⟨#[]⟩, .bool false] 24)).alloc (.cells #[] 27))) := (((((Below.refl _ _).alloc (Nat.le_refl _) _).alloc (by simp) _).alloc (by simp; omega) _).alloc (by simp; omega) _)
  have O0 : OwnS sgG 7 27 ((((w.alloc (.cells #[.string mc, .int .i64 ip, .int .i64 po, .int .i64 di, .int .i64 st, .int .i64 un, .int .i64 nx, .int .i64 wa, .string inn, .string out, .bool fin] 24)).alloc (.cells #[.int .i64 sp, .int .i64 dp, .int .i64 sq, .int .i64 ac, .int .i64 fl, .int .i64 wi, .string da] 27)).alloc (.cells #[.string ⟨#[]⟩, .int .i64 0, .int .i64 0, .int .i64 0, .int .i64 0, .int .i64 0, .int .i64 0, .int .i64 0, .string ⟨#[]⟩, .string ⟨#[]⟩, .bool false] 24)).alloc (.cells #[] 27)) (w.heap.size + 3) (.slice (some ⟨w.heap.size + 1 + 1 + 1, 0, none⟩) 0 0) [] := lit_at (by omega) (by simp)
  clear C9 G9 R9 B9
  have TA : Hid (∀ w, Calls Try.prog 77 #[.agg #[.string mc, .int .i64 ip, .int .i64 po, .int .i64 di, .int .i64 st, .int .i64 un, .int .i64 nx, .int .i64 wa, .string inn, .string out, .bool fin], .int .i64 un, .int .i64 18, .string ⟨#[]⟩] w fun e w' => e = .returned (.agg #[.int .i64 80, .int .i64 po, .int .i64 un, .int .i64 wa, .int .i64 18, .int .i64 1000, .string ⟨#[]⟩]) ∧ Grw w w') := fun w => l10Reply_any mc ip po di st un nx wa inn out fin un 18 ⟨#[]⟩ w
  go_enter Try.func37, Try.ntmps37
  go_wp2_with fail
  have s4 : ((((w.alloc (.cells #[.string mc, .int .i64 ip, .int .i64 po, .int .i64 di, .int .i64 st, .int .i64 un, .int .i64 nx, .int .i64 wa, .string inn, .string out, .bool fin] 24)).alloc (.cells #[.int .i64 sp, .int .i64 dp, .int .i64 sq, .int .i64 ac, .int .i64 fl, .int .i64 wi, .string da] 27)).alloc (.cells #[.string ⟨#[]⟩, .int .i64 0, .int .i64 0, .int .i64 0, .int .i64 0, .int .i64 0, .int .i64 0, .int .i64 0, .string ⟨#[]⟩, .string ⟨#[]⟩, .bool false] 24)).alloc (.cells #[] 27)).cell? ⟨w.heap.size, 4, none⟩ = some (.int .i64 st) := by simp [go_sem]
  have s2 : ((((w.alloc (.cells #[.string mc, .int .i64 ip, .int .i64 po, .int .i64 di, .int .i64 st, .int .i64 un, .int .i64 nx, .int .i64 wa, .string inn, .string out, .bool fin] 24)).alloc (.cells #[.int .i64 sp, .int .i64 dp, .int .i64 sq, .int .i64 ac, .int .i64 fl, .int .i64 wi, .string da] 27)).alloc (.cells #[.string ⟨#[]⟩, .int .i64 0, .int .i64 0, .int .i64 0, .int .i64 0, .int .i64 0, .int .i64 0, .int .i64 0, .string ⟨#[]⟩, .string ⟨#[]⟩, .bool false] 24)).alloc (.cells #[] 27)).cell? ⟨w.heap.size + 1, 2, none⟩ = some (.int .i64 sq) := by simp [go_sem]
  have s7 : ((((w.alloc (.cells #[.string mc, .int .i64 ip, .int .i64 po, .int .i64 di, .int .i64 st, .int .i64 un, .int .i64 nx, .int .i64 wa, .string inn, .string out, .bool fin] 24)).alloc (.cells #[.int .i64 sp, .int .i64 dp, .int .i64 sq, .int .i64 ac, .int .i64 fl, .int .i64 wi, .string da] 27)).alloc (.cells #[.string ⟨#[]⟩, .int .i64 0, .int .i64 0, .int .i64 0, .int .i64 0, .int .i64 0, .int .i64 0, .int .i64 0, .string ⟨#[]⟩, .string ⟨#[]⟩, .bool false] 24)).alloc (.cells #[] 27)).cell? ⟨w.heap.size, 7, none⟩ = some (.int .i64 wa) := by simp [go_sem]
  have C5 : Bx ((((w.alloc (.cells #[.string mc, .int .i64 ip, .int .i64 po, .int .i64 di, .int .i64 st, .int .i64 un, .int .i64 nx, .int .i64 wa, .string inn, .string out, .bool fin] 24)).alloc (.cells #[.int .i64 sp, .int .i64 dp, .int .i64 sq, .int .i64 ac, .int .i64 fl, .int .i64 wi, .string da] 27)).alloc (.cells #[.string ⟨#[]⟩, .int .i64 0, .int .i64 0, .int .i64 0, .int .i64 0, .int .i64 0, .int .i64 0, .int .i64 0, .string ⟨#[]⟩, .string ⟨#[]⟩, .bool false] 24)).alloc (.cells #[] 27)).drew w.heap.size [.string mc, .int .i64 ip, .int .i64 po, .int .i64 di, .int .i64 st, .int .i64 un, .int .i64 nx, .int .i64 wa, .string inn, .string out, .bool fin] := C0.below ((Below.refl _ _).drew)
  have R5 : Bx ((((w.alloc (.cells #[.string mc, .int .i64 ip, .int .i64 po, .int .i64 di, .int .i64 st, .int .i64 un, .int .i64 nx, .int .i64 wa, .string inn, .string out, .bool fin] 24)).alloc (.cells #[.int .i64 sp, .int .i64 dp, .int .i64 sq, .int .i64 ac, .int .i64 fl, .int .i64 wi, .string da] 27)).alloc (.cells #[.string ⟨#[]⟩, .int .i64 0, .int .i64 0, .int .i64 0, .int .i64 0, .int .i64 0, .int .i64 0, .int .i64 0, .string ⟨#[]⟩, .string ⟨#[]⟩, .bool false] 24)).alloc (.cells #[] 27)).drew (w.heap.size + 1 + 1) [.string ⟨#[]⟩, .int .i64 0, .int .i64 0, .int .i64 0, .int .i64 0, .int .i64 0, .int .i64 0, .int .i64 0, .string ⟨#[]⟩, .string ⟨#[]⟩, .bool false] := R0.below ((Below.refl _ _).drew)
  have B5 : Hid (Below w.heap.size w ((((w.alloc (.cells #[.string mc, .int .i64 ip, .int .i64 po, .int .i64 di, .int .i64 st, .int .i64 un, .int .i64 nx, .int .i64 wa, .string inn, .string out, .bool fin] 24)).alloc (.cells #[.int .i64 sp, .int .i64 dp, .int .i64 sq, .int .i64 ac, .int .i64 fl, .int .i64 wi, .string da] 27)).alloc (.cells #[.string ⟨#[]⟩, .int .i64 0, .int .i64 0, .int .i64 0, .int .i64 0, .int .i64 0, .int .i64 0, .int .i64 0, .string ⟨#[]⟩, .string ⟨#[]⟩, .bool false] 24)).alloc (.cells #[] 27)).drew) := B0.out.drew
  clear C0 G0 R0 B0 O0
  generalize ((((w.alloc (.cells #[.string mc, .int .i64 ip, .int .i64 po, .int .i64 di, .int .i64 st, .int .i64 un, .int .i64 nx, .int .i64 wa, .string inn, .string out, .bool fin] 24)).alloc (.cells #[.int .i64 sp, .int .i64 dp, .int .i64 sq, .int .i64 ac, .int .i64 fl, .int .i64 wi, .string da] 27)).alloc (.cells #[.string ⟨#[]⟩, .int .i64 0, .int .i64 0, .int .i64 0, .int .i64 0, .int .i64 0, .int .i64 0, .int .i64 0, .string ⟨#[]⟩, .string ⟨#[]⟩, .bool false] 24)).alloc (.cells #[] 27)) = w4 at s4 s2 s7 C5 R5 B5 ⊢
  have SS : Hid (w4.drew.cell? ⟨w.heap.size, 4, none⟩ = some (.int .i64 st) ∧ w4.drew.cell? ⟨w.heap.size + 1, 2, none⟩ = some (.int .i64 sq) ∧ w4.drew.cell? ⟨w.heap.size, 7, none⟩ = some (.int .i64 wa)) := ⟨by simp [s4], by simp [s2], by simp [s7]⟩
  go_region_held3 (fun wx => wx.cell? ⟨w.heap.size, 4, none⟩ = some (.int .i64 st) ∧ wx.cell? ⟨w.heap.size + 1, 2, none⟩ = some (.int .i64 sq) ∧ wx.cell? ⟨w.heap.size, 7, none⟩ = some (.int .i64 wa))
    (first | (with_reducible exact SS.out) | (with_reducible assumption) | fail)
    ((go_at_call 61; (with_reducible refine (TQ.out _).mono ?_); rintro e wq ⟨rfl, hw⟩; subst hw))
  go_wp2_with fail
  clear SS s4 s2 s7
  generalize w4.drew = w5 at C5 R5 B5 ⊢
  have hs5 : w.heap.size + 3 ≤ w5.heap.size := by
    have := World.block_lt_of_cell? w5 _ (R5.cell 0 rfl)
    dsimp only at this
    omega
  have SS : Hid (XQ (w.heap.size) [.string mc, .int .i64 ip, .int .i64 po, .int .i64 di, .int .i64 st, .int .i64 un, .int .i64 nx, .int .i64 wa, .string inn, .string out, .bool fin] w w5.drew) := ⟨C5.below ((Below.refl _ _).drew), B5.out.drew⟩
  have RS : Hid (Bx w5.drew (w.heap.size + 1 + 1) [.string ⟨#[]⟩, .int .i64 0, .int .i64 0, .int .i64 0, .int .i64 0, .int .i64 0, .int .i64 0, .int .i64 0, .string ⟨#[]⟩, .string ⟨#[]⟩, .bool false]) := R5.below ((Below.refl _ _).drew)
  clear C5 R5 B5
  refine wp_region_held_drew (S := (fun wx => XQ (w.heap.size) [.string mc, .int .i64 ip, .int .i64 po, .int .i64 di, .int .i64 st, .int .i64 un, .int .i64 nx, .int .i64 wa, .string inn, .string out, .bool fin] w wx)) (by kernel_rfl) ?_ (fun hH0 => ?_)
  · with_reducible exact SS.out
  refine wpAnyH_take (i := 0) (v := .agg #[.string mc, .int .i64 ip, .int .i64 po, .int .i64 di, .int .i64 st, .int .i64 un, .int .i64 nx, .int .i64 wa, .string inn, .string out, .bool fin]) rfl (by kernel_rfl) (by kernel_rfl) (by kernel_rfl) (fun _ _ _ h => h) (yieldsIf_load_mid (by rfl) 24 _ rfl (w.heap.size) 0 rfl [.string mc, .int .i64 ip, .int .i64 po, .int .i64 di, .int .i64 st, .int .i64 un, .int .i64 nx, .int .i64 wa, .string inn, .string out, .bool fin] _ (fun _ h => h.c.cl) Try.underlying24 rfl rfl) (by assumption) ?rest1001
  refine wpAnyH_take (i := 1) (v := .agg #[.string mc, .int .i64 ip, .int .i64 po, .int .i64 di, .int .i64 st, .int .i64 un, .int .i64 nx, .int .i64 wa, .string inn, .string out, .bool fin]) rfl (by kernel_rfl) (by kernel_rfl) (by kernel_rfl) (fun _ _ _ h => h) (yieldsIf_load_mid (by rfl) 24 _ rfl (w.heap.size) 0 rfl [.string mc, .int .i64 ip, .int .i64 po, .int .i64 di, .int .i64 st, .int .i64 un, .int .i64 nx, .int .i64 wa, .string inn, .string out, .bool fin] _ (fun _ h => h.c.cl) Try.underlying24 rfl rfl) (by assumption) ?rest1002
  refine wpAnyH_take (i := 2) (v := ?v1003) rfl (by kernel_rfl) (by kernel_rfl) (by kernel_rfl) (fun _ _ _ h => h) (Or.inl ⟨by rfl, ?hy1003⟩) (by assumption) ?rest1003
  case hy1003 => (intro w hSw; (try dsimp only at hSw); go_simp; (try with_reducible rfl))
  refine wpAnyH_take (i := 3) (v := .int .i64 un) rfl (by kernel_rfl) (by kernel_rfl) (by kernel_rfl) (fun _ _ _ h => h) (Or.inl ⟨by rfl, ?hy1004⟩) (by assumption) ?rest1004
  case hy1004 =>
    intro wz hSw
    have hf := hSw.c.cell 5 rfl
    go_simp
  refine wpAnyH_ready (rs := [4]) (by kernel_rfl) (by simp) ?_
  refine AllReadyH.cons rfl (fun K hK => ?_) ?_
  · go_simp
    go_at_call 77
    with_reducible refine (TA.out _).mono ?_
    rintro e w6 ⟨rfl, g6⟩
    have hs6 : w.heap.size + 3 ≤ w6.heap.size := Nat.le_trans (by simpa using hs5) g6.below.size
    have L6 : Hid (XQ (w.heap.size) [.string mc, .int .i64 ip, .int .i64 po, .int .i64 di, .int .i64 st, .int .i64 un, .int .i64 nx, .int .i64 wa, .string inn, .string out, .bool fin] w w6) := SS.out.below g6.below
    have R6 : Hid (Bx w6 (w.heap.size + 1 + 1) [.string ⟨#[]⟩, .int .i64 0, .int .i64 0, .int .i64 0, .int .i64 0, .int .i64 0, .int .i64 0, .int .i64 0, .string ⟨#[]⟩, .string ⟨#[]⟩, .bool false]) := RS.out.below g6.below
    have LA : Hid (XQ (w.heap.size) [.string mc, .int .i64 ip, .int .i64 po, .int .i64 di, .int .i64 st, .int .i64 un, .int .i64 nx, .int .i64 wa, .string inn, .string out, .bool fin] w (w6.alloc (.cells #[.int .i64 80, .int .i64 po, .int .i64 un, .int .i64 wa, .int .i64 18, .int .i64 1000, .string ⟨#[]⟩] 27))) := L6.out.below ((Below.refl _ _).alloc (Nat.le_refl _) _)
    clear g6 SS RS
    refine hK.out _ _ ?_ (fun hH1005 => ?_)
    · (try dsimp only)
      first | (with_reducible exact L6.out) | (with_reducible exact LA.out) | (with_reducible exact F8.out.1) | (with_reducible exact F8.out.2)
    clear hK K hH0
    refine wpAnyH_ready (rs := [5, 6]) (by kernel_rfl) (by simp) ?_
    refine AllReadyH.cons rfl (fun K hK => ?_) ?_
    · go_simp
      refine hK.out _ _ ?_ (fun hH1006 => ?_)
      · (try dsimp only)
        first | (with_reducible exact L6.out) | (with_reducible exact LA.out) | (with_reducible exact F8.out.1) | (with_reducible exact F8.out.2)
      clear hK K hH1005
      refine wpAnyH_ready (rs := [6]) (by kernel_rfl) (by simp) ?_
      refine AllReadyH.cons rfl (fun K hK => ?_) ?_
      · skip
        refine wpr_put rfl _ _ rfl (w.heap.size + 1 + 1) _ rfl rfl (R6.out.below ((Below.refl _ _).alloc (Nat.le_refl _) (.cells #[.int .i64 80, .int .i64 po, .int .i64 un, .int .i64 wa, .int .i64 18, .int .i64 1000, .string ⟨#[]⟩] 27))) rfl rfl rfl ?_
        intro w8 hw8 R8
        have F8 : Hid (XQ (w.heap.size) [.string mc, .int .i64 ip, .int .i64 po, .int .i64 di, .int .i64 st, .int .i64 un, .int .i64 nx, .int .i64 wa, .string inn, .string out, .bool fin] w w8 ∧ OwnS sgG 7 27 w8 w.heap.size (.slice (some ⟨w6.heap.size, 0, none⟩) 1 1) [⟨80, po, un, wa, 18, 1000, ⟨#[]⟩⟩]) := by
          rw [hw8]
          exact ⟨LA.out.cells (by omega) (by omega), (own_cells (by omega) _ _ _ (own1 w6 (w.heap.size + 3) 80 po un wa 18 1000 ⟨#[]⟩ hs6)).lower (by omega)⟩
        clear hw8
        refine hK.out _ _ ?_ (fun hH1007 => ?_)
        · (try dsimp only)
          first | (with_reducible exact L6.out) | (with_reducible exact LA.out) | (with_reducible exact F8.out.1) | (with_reducible exact F8.out.2)
        clear hK K hH1006
        refine wpAnyH_take (i := 7) (v := ?v1008) rfl (by kernel_rfl) (by kernel_rfl) (by kernel_rfl) (fun _ _ _ h => h) (Or.inl ⟨by rfl, ?hy1008⟩) (by assumption) ?rest1008
        case hy1008 => (intro w hSw; (try dsimp only at hSw); go_simp; (try with_reducible rfl))
        refine wpAnyH_done (by kernel_rfl) ?_ _
        have O9 : Hid (OwnS sgG 7 27 w8 w.heap.size (.slice (some ⟨w6.heap.size, 0, none⟩) 1 1) [⟨80, po, un, wa, 18, 1000, ⟨#[]⟩⟩] ∧ Below w.heap.size w w8) := ⟨F8.out.2, F8.out.1.out⟩
        have R9 := R8
        clear hH1007
        go_wp2
        have xx0 : w8.cell? ⟨w.heap.size + 1 + 1, 0, none⟩ = some (.string mc) := R9.cell 0 rfl
        have xx1 : w8.cell? ⟨w.heap.size + 1 + 1, 1, none⟩ = some (.int .i64 ip) := R9.cell 1 rfl
        have xx2 : w8.cell? ⟨w.heap.size + 1 + 1, 2, none⟩ = some (.int .i64 po) := R9.cell 2 rfl
        have xx3 : w8.cell? ⟨w.heap.size + 1 + 1, 3, none⟩ = some (.int .i64 di) := R9.cell 3 rfl
        have xx4 : w8.cell? ⟨w.heap.size + 1 + 1, 4, none⟩ = some (.int .i64 st) := R9.cell 4 rfl
        have xx5 : w8.cell? ⟨w.heap.size + 1 + 1, 5, none⟩ = some (.int .i64 un) := R9.cell 5 rfl
        have xx6 : w8.cell? ⟨w.heap.size + 1 + 1, 6, none⟩ = some (.int .i64 nx) := R9.cell 6 rfl
        have xx7 : w8.cell? ⟨w.heap.size + 1 + 1, 7, none⟩ = some (.int .i64 wa) := R9.cell 7 rfl
        have xx8 : w8.cell? ⟨w.heap.size + 1 + 1, 8, none⟩ = some (.string inn) := R9.cell 8 rfl
        have xx9 : w8.cell? ⟨w.heap.size + 1 + 1, 9, none⟩ = some (.string out) := R9.cell 9 rfl
        have xx10 : w8.cell? ⟨w.heap.size + 1 + 1, 10, none⟩ = some (.bool fin) := R9.cell 10 rfl
        (try simp only [Exit.inBlock, Exit.then])
        refine bodyPost_ret (v := .tuple #[.agg #[.string mc, .int .i64 ip, .int .i64 po, .int .i64 di, .int .i64 st, .int .i64 un, .int .i64 nx, .int .i64 wa, .string inn, .string out, .bool fin], .slice (some ⟨w6.heap.size, 0, none⟩) 1 1]) (by simp [results, Try.results37, go_sem, xx0, xx1, xx2, xx3, xx4, xx5, xx6, xx7, xx8, xx9, xx10]; try rfl) rfl ?_
        exact ⟨_, rfl, O9.out.1, O9.out.2⟩
      exact AllReadyH.nil
    refine AllReadyH.cons rfl (fun K hK => ?_) ?_
    · skip
      refine wpr_put rfl _ _ rfl (w.heap.size + 1 + 1) _ rfl rfl R6.out rfl rfl rfl ?_
      intro w8 hw8 R8
      have hz8 : w.heap.size ≤ w8.heap.size := by
        have := World.block_lt_of_cell? w8 _ (R8.cell 0 rfl)
        dsimp only at this
        omega
      have F8 : Hid (XQ (w.heap.size) [.string mc, .int .i64 ip, .int .i64 po, .int .i64 di, .int .i64 st, .int .i64 un, .int .i64 nx, .int .i64 wa, .string inn, .string out, .bool fin] w w8 ∧ XQ (w.heap.size) [.string mc, .int .i64 ip, .int .i64 po, .int .i64 di, .int .i64 st, .int .i64 un, .int .i64 nx, .int .i64 wa, .string inn, .string out, .bool fin] w (w8.alloc (.cells #[.int .i64 80, .int .i64 po, .int .i64 un, .int .i64 wa, .int .i64 18, .int .i64 1000, .string ⟨#[]⟩] 27))) := by
        have h : XQ (w.heap.size) [.string mc, .int .i64 ip, .int .i64 po, .int .i64 di, .int .i64 st, .int .i64 un, .int .i64 nx, .int .i64 wa, .string inn, .string out, .bool fin] w w8 := by rw [hw8]; exact L6.out.cells (by omega) (by omega)
        exact ⟨h, h.below ((Below.refl _ _).alloc (Nat.le_refl _) _)⟩
      clear hw8
      refine hK.out _ _ ?_ (fun hH1009 => ?_)
      · (try dsimp only)
        first | (with_reducible exact L6.out) | (with_reducible exact LA.out) | (with_reducible exact F8.out.1) | (with_reducible exact F8.out.2)
      clear hK K hH1005
      refine wpAnyH_ready (rs := [5]) (by kernel_rfl) (by simp) ?_
      refine AllReadyH.cons rfl (fun K hK => ?_) ?_
      · go_simp
        refine hK.out _ _ ?_ (fun hH1010 => ?_)
        · (try dsimp only)
          first | (with_reducible exact L6.out) | (with_reducible exact LA.out) | (with_reducible exact F8.out.1) | (with_reducible exact F8.out.2)
        clear hK K hH1009
        refine wpAnyH_take (i := 7) (v := ?v1011) rfl (by kernel_rfl) (by kernel_rfl) (by kernel_rfl) (fun _ _ _ h => h) (Or.inl ⟨by rfl, ?hy1011⟩) (by assumption) ?rest1011
        case hy1011 => (intro w hSw; (try dsimp only at hSw); go_simp; (try with_reducible rfl))
        refine wpAnyH_done (by kernel_rfl) ?_ _
        have O9 : Hid (OwnS sgG 7 27 (w8.alloc (.cells #[.int .i64 80, .int .i64 po, .int .i64 un, .int .i64 wa, .int .i64 18, .int .i64 1000, .string ⟨#[]⟩] 27)) w.heap.size (.slice (some ⟨w8.heap.size, 0, none⟩) 1 1) [⟨80, po, un, wa, 18, 1000, ⟨#[]⟩⟩] ∧ Below w.heap.size w (w8.alloc (.cells #[.int .i64 80, .int .i64 po, .int .i64 un, .int .i64 wa, .int .i64 18, .int .i64 1000, .string ⟨#[]⟩] 27))) := ⟨own1 w8 _ 80 po un wa 18 1000 ⟨#[]⟩ hz8, F8.out.2.out⟩
        have R9 := R8.below ((Below.refl _ _).alloc (Nat.le_refl _) (.cells #[.int .i64 80, .int .i64 po, .int .i64 un, .int .i64 wa, .int .i64 18, .int .i64 1000, .string ⟨#[]⟩] 27))
        clear hH1010
        generalize (w8.alloc (.cells #[.int .i64 80, .int .i64 po, .int .i64 un, .int .i64 wa, .int .i64 18, .int .i64 1000, .string ⟨#[]⟩] 27)) = w9 at O9 R9 ⊢
        go_wp2
        have xx0 : w9.cell? ⟨w.heap.size + 1 + 1, 0, none⟩ = some (.string mc) := R9.cell 0 rfl
        have xx1 : w9.cell? ⟨w.heap.size + 1 + 1, 1, none⟩ = some (.int .i64 ip) := R9.cell 1 rfl
        have xx2 : w9.cell? ⟨w.heap.size + 1 + 1, 2, none⟩ = some (.int .i64 po) := R9.cell 2 rfl
        have xx3 : w9.cell? ⟨w.heap.size + 1 + 1, 3, none⟩ = some (.int .i64 di) := R9.cell 3 rfl
        have xx4 : w9.cell? ⟨w.heap.size + 1 + 1, 4, none⟩ = some (.int .i64 st) := R9.cell 4 rfl
        have xx5 : w9.cell? ⟨w.heap.size + 1 + 1, 5, none⟩ = some (.int .i64 un) := R9.cell 5 rfl
        have xx6 : w9.cell? ⟨w.heap.size + 1 + 1, 6, none⟩ = some (.int .i64 nx) := R9.cell 6 rfl
        have xx7 : w9.cell? ⟨w.heap.size + 1 + 1, 7, none⟩ = some (.int .i64 wa) := R9.cell 7 rfl
        have xx8 : w9.cell? ⟨w.heap.size + 1 + 1, 8, none⟩ = some (.string inn) := R9.cell 8 rfl
        have xx9 : w9.cell? ⟨w.heap.size + 1 + 1, 9, none⟩ = some (.string out) := R9.cell 9 rfl
        have xx10 : w9.cell? ⟨w.heap.size + 1 + 1, 10, none⟩ = some (.bool fin) := R9.cell 10 rfl
        (try simp only [Exit.inBlock, Exit.then])
        refine bodyPost_ret (v := .tuple #[.agg #[.string mc, .int .i64 ip, .int .i64 po, .int .i64 di, .int .i64 st, .int .i64 un, .int .i64 nx, .int .i64 wa, .string inn, .string out, .bool fin], .slice (some ⟨w8.heap.size, 0, none⟩) 1 1]) (by simp [results, Try.results37, go_sem, xx0, xx1, xx2, xx3, xx4, xx5, xx6, xx7, xx8, xx9, xx10]; try rfl) rfl ?_
        exact ⟨_, rfl, O9.out.1, O9.out.2⟩
      exact AllReadyH.nil
    exact AllReadyH.nil
  exact AllReadyH.nil
set_option maxHeartbeats 16000000 in
theorem tkE_any (mc : ByteArray) (ip po di st un nx wa : Int) (inn out : ByteArray) (fin : Bool) (sp dp sq ac fl wi : Int) (da : ByteArray) (w : World) (t4 : (st == 4) = false) (f4 : (bits BinOp.and IntKind.i64 fl 4 != 0) = false) (f2 : (bits BinOp.and IntKind.i64 fl 2 != 0) = true) (hq : 0 ≤ sq ∧ sq ≤ 4294967295) (t1 : (st == 1) = true) (q : (sqN (sq + 1) == wa) = false) :
    Calls Try.prog 37 #[.agg #[.string mc, .int .i64 ip, .int .i64 po, .int .i64 di, .int .i64 st, .int .i64 un, .int .i64 nx, .int .i64 wa, .string inn, .string out, .bool fin], .agg #[.int .i64 sp, .int .i64 dp, .int .i64 sq, .int .i64 ac, .int .i64 fl, .int .i64 wi, .string da]] w fun e w' => ∃ v, e = .returned (.tuple #[.agg #[.string mc, .int .i64 ip, .int .i64 po, .int .i64 di, .int .i64 st, .int .i64 un, .int .i64 nx, .int .i64 wa, .string inn, .string out, .bool fin], v]) ∧ OwnS sgG 7 27 w' w.heap.size v [⟨80, po, nx, wa, 16, 1000, ⟨#[]⟩⟩] ∧ Below w.heap.size w w' := by
  have TQ : Hid (∀ w, Calls Try.prog 61 #[.int .i64 (sq + 1)] w fun e w' => e = .returned (.int .i64 (sqN (sq + 1))) ∧ w' = w) := fun w => l10Seq_any _ w (by omega) (by omega)
  have ew : IntKind.i64.wrap (sq + 1) = sq + 1 := by rw [IntKind.wrap_i64]; omega
  have C9 : Bx (((w.alloc (.cells #[.string mc, .int .i64 ip, .int .i64 po, .int .i64 di, .int .i64 st, .int .i64 un, .int .i64 nx, .int .i64 wa, .string inn, .string out, .bool fin] 24)).alloc (.cells #[.int .i64 sp, .int .i64 dp, .int .i64 sq, .int .i64 ac, .int .i64 fl, .int .i64 wi, .string da] 27)).alloc (.cells #[.string ⟨#[]⟩, .int .i64 0, .int .i64 0, .int .i64 0, .int .i64 0, .int .i64 0, .int .i64 0, .int .i64 0, .string ⟨#[]⟩, .string ⟨#[]⟩, .bool false] 24)) w.heap.size [.string mc, .int .i64 ip, .int .i64 po, .int .i64 di, .int .i64 st, .int .i64 un, .int .i64 nx, .int .i64 wa, .string inn, .string out, .bool fin] := ((Bx.new w _ _).below ((Below.refl _ _).alloc (Nat.le_refl _) _)).below ((Below.refl _ _).alloc (Nat.le_refl _) _)
  have G9 : Bx (((w.alloc (.cells #[.string mc, .int .i64 ip, .int .i64 po, .int .i64 di, .int .i64 st, .int .i64 un, .int .i64 nx, .int .i64 wa, .string inn, .string out, .bool fin] 24)).alloc (.cells #[.int .i64 sp, .int .i64 dp, .int .i64 sq, .int .i64 ac, .int .i64 fl, .int .i64 wi, .string da] 27)).alloc (.cells #[.string ⟨#[]⟩, .int .i64 0, .int .i64 0, .int .i64 0, .int .i64 0, .int .i64 0, .int .i64 0, .int .i64 0, .string ⟨#[]⟩, .string ⟨#[]⟩, .bool false] 24)) (w.heap.size + 1) [.int .i64 sp, .int .i64 dp, .int .i64 sq, .int .i64 ac, .int .i64 fl, .int .i64 wi, .string da] := by
    have h := (Bx.new (w.alloc (.cells #[.string mc, .int .i64 ip, .int .i64 po, .int .i64 di, .int .i64 st, .int .i64 un, .int .i64 nx, .int .i64 wa, .string inn, .string out, .bool fin] 24)) #[.int .i64 sp, .int .i64 dp, .int .i64 sq, .int .i64 ac, .int .i64 fl, .int .i64 wi, .string da] 27).below ((Below.refl _ _).alloc (Nat.le_refl _) (.cells #[.string ⟨#[]⟩, .int .i64 0, .int .i64 0, .int .i64 0, .int .i64 0, .int .i64 0, .int .i64 0, .int .i64 0, .string ⟨#[]⟩, .string ⟨#[]⟩, .bool false] 24))
    rw [World.size_alloc] at h
    exact h
  have R9 : Bx (((w.alloc (.cells #[.string mc, .int .i64 ip, .int .i64 po, .int .i64 di, .int .i64 st, .int .i64 un, .int .i64 nx, .int .i64 wa, .string inn, .string out, .bool fin] 24)).alloc (.cells #[.int .i64 sp, .int .i64 dp, .int .i64 sq, .int .i64 ac, .int .i64 fl, .int .i64 wi, .string da] 27)).alloc (.cells #[.string ⟨#[]⟩, .int .i64 0, .int .i64 0, .int .i64 0, .int .i64 0, .int .i64 0, .int .i64 0, .int .i64 0, .string ⟨#[]⟩, .string ⟨#[]⟩, .bool false] 24)) (w.heap.size + 1 + 1) [.string ⟨#[]⟩, .int .i64 0, .int .i64 0, .int .i64 0, .int .i64 0, .int .i64 0, .int .i64 0, .int .i64 0, .string ⟨#[]⟩, .string ⟨#[]⟩, .bool false] := by
    have h := Bx.new ((w.alloc (.cells #[.string mc, .int .i64 ip, .int .i64 po, .int .i64 di, .int .i64 st, .int .i64 un, .int .i64 nx, .int .i64 wa, .string inn, .string out, .bool fin] 24)).alloc (.cells #[.int .i64 sp, .int .i64 dp, .int .i64 sq, .int .i64 ac, .int .i64 fl, .int .i64 wi, .string da] 27)) #[.string ⟨#[]⟩, .int .i64 0, .int .i64 0, .int .i64 0, .int .i64 0, .int .i64 0, .int .i64 0, .int .i64 0, .string ⟨#[]⟩, .string ⟨#[]⟩, .bool false] 24
    rw [World.size_alloc, World.size_alloc] at h
    exact h
  have B9 : Hid (Below w.heap.size w (((w.alloc (.cells #[.string mc, .int .i64 ip, .int .i64 po, .int .i64 di, .int .i64 st, .int .i64 un, .int .i64 nx, .int .i64 wa, .string inn, .string out, .bool fin] 24)).alloc (.cells #[.int .i64 sp, .int .i64 dp, .int .i64 sq, .int .i64 ac, .int .i64 fl, .int .i64 wi, .string da] 27)).alloc (.cells #[.string ⟨#[]⟩, .int .i64 0, .int .i64 0, .int .i64 0, .int .i64 0, .int .i64 0, .int .i64 0, .int .i64 0, .string ⟨#[]⟩, .string ⟨#[]⟩, .bool false] 24))) := ((((Below.refl _ _).alloc (Nat.le_refl _) _).alloc (by simp) _).alloc (by simp; omega) _)
  have C0 : Bx ((((w.alloc (.cells #[.string mc, .int .i64 ip, .int .i64 po, .int .i64 di, .int .i64 st, .int .i64 un, .int .i64 nx, .int .i64 wa, .string inn, .string out, .bool fin] 24)).alloc (.cells #[.int .i64 sp, .int .i64 dp, .int .i64 sq, .int .i64 ac, .int .i64 fl, .int .i64 wi, .string da] 27)).alloc (.cells #[.string ⟨#[]⟩, .int .i64 0, .int .i64 0, .int .i64 0, .int .i64 0, .int .i64 0, .int .i64 0, .int .i64 0, .string ⟨#[]⟩, .string ⟨#[]⟩, .bool false] 24)).alloc (.cells #[] 27)) w.heap.size [.string mc, .int .i64 ip, .int .i64 po, .int .i64 di, .int .i64 st, .int .i64 un, .int .i64 nx, .int .i64 wa, .string inn, .string out, .bool fin] := C9.below ((Below.refl _ _).alloc (Nat.le_refl _) _)
  have G0 : Bx ((((w.alloc (.cells #[.string mc, .int .i64 ip, .int .i64 po, .int .i64 di, .int .i64 st, .int .i64 un, .int .i64 nx, .int .i64 wa, .string inn, .string out, .bool fin] 24)).alloc (.cells #[.int .i64 sp, .int .i64 dp, .int .i64 sq, .int .i64 ac, .int .i64 fl, .int .i64 wi, .string da] 27)).alloc (.cells #[.string ⟨#[]⟩, .int .i64 0, .int .i64 0, .int .i64 0, .int .i64 0, .int .i64 0, .int .i64 0, .int .i64 0, .string ⟨#[]⟩, .string ⟨#[]⟩, .bool false] 24)).alloc (.cells #[] 27)) (w.heap.size + 1) [.int .i64 sp, .int .i64 dp, .int .i64 sq, .int .i64 ac, .int .i64 fl, .int .i64 wi, .string da] := G9.below ((Below.refl _ _).alloc (Nat.le_refl _) _)
  have R0 : Bx ((((w.alloc (.cells #[.string mc, .int .i64 ip, .int .i64 po, .int .i64 di, .int .i64 st, .int .i64 un, .int .i64 nx, .int .i64 wa, .string inn, .string out, .bool fin] 24)).alloc (.cells #[.int .i64 sp, .int .i64 dp, .int .i64 sq, .int .i64 ac, .int .i64 fl, .int .i64 wi, .string da] 27)).alloc (.cells #[.string ⟨#[]⟩, .int .i64 0, .int .i64 0, .int .i64 0, .int .i64 0, .int .i64 0, .int .i64 0, .int .i64 0, .string ⟨#[]⟩, .string ⟨#[]⟩, .bool false] 24)).alloc (.cells #[] 27)) (w.heap.size + 1 + 1) [.string ⟨#[]⟩, .int .i64 0, .int .i64 0, .int .i64 0, .int .i64 0, .int .i64 0, .int .i64 0, .int .i64 0, .string ⟨#[]⟩, .string ⟨#[]⟩, .bool false] := R9.below ((Below.refl _ _).alloc (Nat.le_refl _) _)
  have B0 : Hid (Below w.heap.size w ((((w.alloc (.cells #[.string mc, .int .i64 ip, .int .i64 po, .int .i64 di, .int .i64 st, .int .i64 un, .int .i64 nx, .int .i64 wa, .string inn, .string out, .bool fin] 24)).alloc (.cells #[.int .i64 sp, .int .i64 dp, .int .i64 sq, .int .i64 ac, .int .i64 fl, .int .i64 wi, .string da] 27)).alloc (.cells #[.string ⟨#[]⟩, .int .i64 0, .int .i64 0, .int .i64 0, .int .i64 0, .int .i64 0, .int .i64 0, .int .i64 0, .string ⟨#[]⟩, .string ⟨#[]⟩, .bool false] 24)).alloc (.cells #[] 27))) := (((((Below.refl _ _).alloc (Nat.le_refl _) _).alloc (by simp) _).alloc (by simp; omega) _).alloc (by simp; omega) _)
  have O0 : OwnS sgG 7 27 ((((w.alloc (.cells #[.string mc, .int .i64 ip, .int .i64 po, .int .i64 di, .int .i64 st, .int .i64 un, .int .i64 nx, .int .i64 wa, .string inn, .string out, .bool fin] 24)).alloc (.cells #[.int .i64 sp, .int .i64 dp, .int .i64 sq, .int .i64 ac, .int .i64 fl, .int .i64 wi, .string da] 27)).alloc (.cells #[.string ⟨#[]⟩, .int .i64 0, .int .i64 0, .int .i64 0, .int .i64 0, .int .i64 0, .int .i64 0, .int .i64 0, .string ⟨#[]⟩, .string ⟨#[]⟩, .bool false] 24)).alloc (.cells #[] 27)) (w.heap.size + 3) (.slice (some ⟨w.heap.size + 1 + 1 + 1, 0, none⟩) 0 0) [] := lit_at (by omega) (by simp)
  clear C9 G9 R9 B9
  have TA : Hid (∀ w, Calls Try.prog 77 #[.agg #[.string mc, .int .i64 ip, .int .i64 po, .int .i64 di, .int .i64 st, .int .i64 un, .int .i64 nx, .int .i64 wa, .string inn, .string out, .bool fin], .int .i64 nx, .int .i64 16, .string ⟨#[]⟩] w fun e w' => e = .returned (.agg #[.int .i64 80, .int .i64 po, .int .i64 nx, .int .i64 wa, .int .i64 16, .int .i64 1000, .string ⟨#[]⟩]) ∧ Grw w w') := fun w => l10Reply_any mc ip po di st un nx wa inn out fin nx 16 ⟨#[]⟩ w
  go_enter Try.func37, Try.ntmps37
  go_wp2_with fail
  have s4 : ((((w.alloc (.cells #[.string mc, .int .i64 ip, .int .i64 po, .int .i64 di, .int .i64 st, .int .i64 un, .int .i64 nx, .int .i64 wa, .string inn, .string out, .bool fin] 24)).alloc (.cells #[.int .i64 sp, .int .i64 dp, .int .i64 sq, .int .i64 ac, .int .i64 fl, .int .i64 wi, .string da] 27)).alloc (.cells #[.string ⟨#[]⟩, .int .i64 0, .int .i64 0, .int .i64 0, .int .i64 0, .int .i64 0, .int .i64 0, .int .i64 0, .string ⟨#[]⟩, .string ⟨#[]⟩, .bool false] 24)).alloc (.cells #[] 27)).cell? ⟨w.heap.size, 4, none⟩ = some (.int .i64 st) := by simp [go_sem]
  have s2 : ((((w.alloc (.cells #[.string mc, .int .i64 ip, .int .i64 po, .int .i64 di, .int .i64 st, .int .i64 un, .int .i64 nx, .int .i64 wa, .string inn, .string out, .bool fin] 24)).alloc (.cells #[.int .i64 sp, .int .i64 dp, .int .i64 sq, .int .i64 ac, .int .i64 fl, .int .i64 wi, .string da] 27)).alloc (.cells #[.string ⟨#[]⟩, .int .i64 0, .int .i64 0, .int .i64 0, .int .i64 0, .int .i64 0, .int .i64 0, .int .i64 0, .string ⟨#[]⟩, .string ⟨#[]⟩, .bool false] 24)).alloc (.cells #[] 27)).cell? ⟨w.heap.size + 1, 2, none⟩ = some (.int .i64 sq) := by simp [go_sem]
  have s7 : ((((w.alloc (.cells #[.string mc, .int .i64 ip, .int .i64 po, .int .i64 di, .int .i64 st, .int .i64 un, .int .i64 nx, .int .i64 wa, .string inn, .string out, .bool fin] 24)).alloc (.cells #[.int .i64 sp, .int .i64 dp, .int .i64 sq, .int .i64 ac, .int .i64 fl, .int .i64 wi, .string da] 27)).alloc (.cells #[.string ⟨#[]⟩, .int .i64 0, .int .i64 0, .int .i64 0, .int .i64 0, .int .i64 0, .int .i64 0, .int .i64 0, .string ⟨#[]⟩, .string ⟨#[]⟩, .bool false] 24)).alloc (.cells #[] 27)).cell? ⟨w.heap.size, 7, none⟩ = some (.int .i64 wa) := by simp [go_sem]
  have C5 : Bx ((((w.alloc (.cells #[.string mc, .int .i64 ip, .int .i64 po, .int .i64 di, .int .i64 st, .int .i64 un, .int .i64 nx, .int .i64 wa, .string inn, .string out, .bool fin] 24)).alloc (.cells #[.int .i64 sp, .int .i64 dp, .int .i64 sq, .int .i64 ac, .int .i64 fl, .int .i64 wi, .string da] 27)).alloc (.cells #[.string ⟨#[]⟩, .int .i64 0, .int .i64 0, .int .i64 0, .int .i64 0, .int .i64 0, .int .i64 0, .int .i64 0, .string ⟨#[]⟩, .string ⟨#[]⟩, .bool false] 24)).alloc (.cells #[] 27)).drew w.heap.size [.string mc, .int .i64 ip, .int .i64 po, .int .i64 di, .int .i64 st, .int .i64 un, .int .i64 nx, .int .i64 wa, .string inn, .string out, .bool fin] := C0.below ((Below.refl _ _).drew)
  have R5 : Bx ((((w.alloc (.cells #[.string mc, .int .i64 ip, .int .i64 po, .int .i64 di, .int .i64 st, .int .i64 un, .int .i64 nx, .int .i64 wa, .string inn, .string out, .bool fin] 24)).alloc (.cells #[.int .i64 sp, .int .i64 dp, .int .i64 sq, .int .i64 ac, .int .i64 fl, .int .i64 wi, .string da] 27)).alloc (.cells #[.string ⟨#[]⟩, .int .i64 0, .int .i64 0, .int .i64 0, .int .i64 0, .int .i64 0, .int .i64 0, .int .i64 0, .string ⟨#[]⟩, .string ⟨#[]⟩, .bool false] 24)).alloc (.cells #[] 27)).drew (w.heap.size + 1 + 1) [.string ⟨#[]⟩, .int .i64 0, .int .i64 0, .int .i64 0, .int .i64 0, .int .i64 0, .int .i64 0, .int .i64 0, .string ⟨#[]⟩, .string ⟨#[]⟩, .bool false] := R0.below ((Below.refl _ _).drew)
  have B5 : Hid (Below w.heap.size w ((((w.alloc (.cells #[.string mc, .int .i64 ip, .int .i64 po, .int .i64 di, .int .i64 st, .int .i64 un, .int .i64 nx, .int .i64 wa, .string inn, .string out, .bool fin] 24)).alloc (.cells #[.int .i64 sp, .int .i64 dp, .int .i64 sq, .int .i64 ac, .int .i64 fl, .int .i64 wi, .string da] 27)).alloc (.cells #[.string ⟨#[]⟩, .int .i64 0, .int .i64 0, .int .i64 0, .int .i64 0, .int .i64 0, .int .i64 0, .int .i64 0, .string ⟨#[]⟩, .string ⟨#[]⟩, .bool false] 24)).alloc (.cells #[] 27)).drew) := B0.out.drew
  clear C0 G0 R0 B0 O0
  generalize ((((w.alloc (.cells #[.string mc, .int .i64 ip, .int .i64 po, .int .i64 di, .int .i64 st, .int .i64 un, .int .i64 nx, .int .i64 wa, .string inn, .string out, .bool fin] 24)).alloc (.cells #[.int .i64 sp, .int .i64 dp, .int .i64 sq, .int .i64 ac, .int .i64 fl, .int .i64 wi, .string da] 27)).alloc (.cells #[.string ⟨#[]⟩, .int .i64 0, .int .i64 0, .int .i64 0, .int .i64 0, .int .i64 0, .int .i64 0, .int .i64 0, .string ⟨#[]⟩, .string ⟨#[]⟩, .bool false] 24)).alloc (.cells #[] 27)) = w4 at s4 s2 s7 C5 R5 B5 ⊢
  have SS : Hid (w4.drew.cell? ⟨w.heap.size, 4, none⟩ = some (.int .i64 st) ∧ w4.drew.cell? ⟨w.heap.size + 1, 2, none⟩ = some (.int .i64 sq) ∧ w4.drew.cell? ⟨w.heap.size, 7, none⟩ = some (.int .i64 wa)) := ⟨by simp [s4], by simp [s2], by simp [s7]⟩
  go_region_held3 (fun wx => wx.cell? ⟨w.heap.size, 4, none⟩ = some (.int .i64 st) ∧ wx.cell? ⟨w.heap.size + 1, 2, none⟩ = some (.int .i64 sq) ∧ wx.cell? ⟨w.heap.size, 7, none⟩ = some (.int .i64 wa))
    (first | (with_reducible exact SS.out) | (with_reducible assumption) | fail)
    ((go_at_call 61; (with_reducible refine (TQ.out _).mono ?_); rintro e wq ⟨rfl, hw⟩; subst hw))
  go_wp2_with fail
  clear SS s4 s2 s7
  generalize w4.drew = w5 at C5 R5 B5 ⊢
  have hs5 : w.heap.size + 3 ≤ w5.heap.size := by
    have := World.block_lt_of_cell? w5 _ (R5.cell 0 rfl)
    dsimp only at this
    omega
  have SS : Hid (XQ (w.heap.size) [.string mc, .int .i64 ip, .int .i64 po, .int .i64 di, .int .i64 st, .int .i64 un, .int .i64 nx, .int .i64 wa, .string inn, .string out, .bool fin] w w5.drew) := ⟨C5.below ((Below.refl _ _).drew), B5.out.drew⟩
  have RS : Hid (Bx w5.drew (w.heap.size + 1 + 1) [.string ⟨#[]⟩, .int .i64 0, .int .i64 0, .int .i64 0, .int .i64 0, .int .i64 0, .int .i64 0, .int .i64 0, .string ⟨#[]⟩, .string ⟨#[]⟩, .bool false]) := R5.below ((Below.refl _ _).drew)
  clear C5 R5 B5
  refine wp_region_held_drew (S := (fun wx => XQ (w.heap.size) [.string mc, .int .i64 ip, .int .i64 po, .int .i64 di, .int .i64 st, .int .i64 un, .int .i64 nx, .int .i64 wa, .string inn, .string out, .bool fin] w wx)) (by kernel_rfl) ?_ (fun hH0 => ?_)
  · with_reducible exact SS.out
  refine wpAnyH_take (i := 0) (v := .agg #[.string mc, .int .i64 ip, .int .i64 po, .int .i64 di, .int .i64 st, .int .i64 un, .int .i64 nx, .int .i64 wa, .string inn, .string out, .bool fin]) rfl (by kernel_rfl) (by kernel_rfl) (by kernel_rfl) (fun _ _ _ h => h) (yieldsIf_load_mid (by rfl) 24 _ rfl (w.heap.size) 0 rfl [.string mc, .int .i64 ip, .int .i64 po, .int .i64 di, .int .i64 st, .int .i64 un, .int .i64 nx, .int .i64 wa, .string inn, .string out, .bool fin] _ (fun _ h => h.c.cl) Try.underlying24 rfl rfl) (by assumption) ?rest1001
  refine wpAnyH_take (i := 1) (v := .agg #[.string mc, .int .i64 ip, .int .i64 po, .int .i64 di, .int .i64 st, .int .i64 un, .int .i64 nx, .int .i64 wa, .string inn, .string out, .bool fin]) rfl (by kernel_rfl) (by kernel_rfl) (by kernel_rfl) (fun _ _ _ h => h) (yieldsIf_load_mid (by rfl) 24 _ rfl (w.heap.size) 0 rfl [.string mc, .int .i64 ip, .int .i64 po, .int .i64 di, .int .i64 st, .int .i64 un, .int .i64 nx, .int .i64 wa, .string inn, .string out, .bool fin] _ (fun _ h => h.c.cl) Try.underlying24 rfl rfl) (by assumption) ?rest1002
  refine wpAnyH_take (i := 2) (v := ?v1003) rfl (by kernel_rfl) (by kernel_rfl) (by kernel_rfl) (fun _ _ _ h => h) (Or.inl ⟨by rfl, ?hy1003⟩) (by assumption) ?rest1003
  case hy1003 => (intro w hSw; (try dsimp only at hSw); go_simp; (try with_reducible rfl))
  refine wpAnyH_take (i := 3) (v := .int .i64 nx) rfl (by kernel_rfl) (by kernel_rfl) (by kernel_rfl) (fun _ _ _ h => h) (Or.inl ⟨by rfl, ?hy1004⟩) (by assumption) ?rest1004
  case hy1004 =>
    intro wz hSw
    have hf := hSw.c.cell 6 rfl
    go_simp
  refine wpAnyH_ready (rs := [4]) (by kernel_rfl) (by simp) ?_
  refine AllReadyH.cons rfl (fun K hK => ?_) ?_
  · go_simp
    go_at_call 77
    with_reducible refine (TA.out _).mono ?_
    rintro e w6 ⟨rfl, g6⟩
    have hs6 : w.heap.size + 3 ≤ w6.heap.size := Nat.le_trans (by simpa using hs5) g6.below.size
    have L6 : Hid (XQ (w.heap.size) [.string mc, .int .i64 ip, .int .i64 po, .int .i64 di, .int .i64 st, .int .i64 un, .int .i64 nx, .int .i64 wa, .string inn, .string out, .bool fin] w w6) := SS.out.below g6.below
    have R6 : Hid (Bx w6 (w.heap.size + 1 + 1) [.string ⟨#[]⟩, .int .i64 0, .int .i64 0, .int .i64 0, .int .i64 0, .int .i64 0, .int .i64 0, .int .i64 0, .string ⟨#[]⟩, .string ⟨#[]⟩, .bool false]) := RS.out.below g6.below
    have LA : Hid (XQ (w.heap.size) [.string mc, .int .i64 ip, .int .i64 po, .int .i64 di, .int .i64 st, .int .i64 un, .int .i64 nx, .int .i64 wa, .string inn, .string out, .bool fin] w (w6.alloc (.cells #[.int .i64 80, .int .i64 po, .int .i64 nx, .int .i64 wa, .int .i64 16, .int .i64 1000, .string ⟨#[]⟩] 27))) := L6.out.below ((Below.refl _ _).alloc (Nat.le_refl _) _)
    clear g6 SS RS
    refine hK.out _ _ ?_ (fun hH1005 => ?_)
    · (try dsimp only)
      first | (with_reducible exact L6.out) | (with_reducible exact LA.out) | (with_reducible exact F8.out.1) | (with_reducible exact F8.out.2)
    clear hK K hH0
    refine wpAnyH_ready (rs := [5, 6]) (by kernel_rfl) (by simp) ?_
    refine AllReadyH.cons rfl (fun K hK => ?_) ?_
    · go_simp
      refine hK.out _ _ ?_ (fun hH1006 => ?_)
      · (try dsimp only)
        first | (with_reducible exact L6.out) | (with_reducible exact LA.out) | (with_reducible exact F8.out.1) | (with_reducible exact F8.out.2)
      clear hK K hH1005
      refine wpAnyH_ready (rs := [6]) (by kernel_rfl) (by simp) ?_
      refine AllReadyH.cons rfl (fun K hK => ?_) ?_
      · skip
        refine wpr_put rfl _ _ rfl (w.heap.size + 1 + 1) _ rfl rfl (R6.out.below ((Below.refl _ _).alloc (Nat.le_refl _) (.cells #[.int .i64 80, .int .i64 po, .int .i64 nx, .int .i64 wa, .int .i64 16, .int .i64 1000, .string ⟨#[]⟩] 27))) rfl rfl rfl ?_
        intro w8 hw8 R8
        have F8 : Hid (XQ (w.heap.size) [.string mc, .int .i64 ip, .int .i64 po, .int .i64 di, .int .i64 st, .int .i64 un, .int .i64 nx, .int .i64 wa, .string inn, .string out, .bool fin] w w8 ∧ OwnS sgG 7 27 w8 w.heap.size (.slice (some ⟨w6.heap.size, 0, none⟩) 1 1) [⟨80, po, nx, wa, 16, 1000, ⟨#[]⟩⟩]) := by
          rw [hw8]
          exact ⟨LA.out.cells (by omega) (by omega), (own_cells (by omega) _ _ _ (own1 w6 (w.heap.size + 3) 80 po nx wa 16 1000 ⟨#[]⟩ hs6)).lower (by omega)⟩
        clear hw8
        refine hK.out _ _ ?_ (fun hH1007 => ?_)
        · (try dsimp only)
          first | (with_reducible exact L6.out) | (with_reducible exact LA.out) | (with_reducible exact F8.out.1) | (with_reducible exact F8.out.2)
        clear hK K hH1006
        refine wpAnyH_take (i := 7) (v := ?v1008) rfl (by kernel_rfl) (by kernel_rfl) (by kernel_rfl) (fun _ _ _ h => h) (Or.inl ⟨by rfl, ?hy1008⟩) (by assumption) ?rest1008
        case hy1008 => (intro w hSw; (try dsimp only at hSw); go_simp; (try with_reducible rfl))
        refine wpAnyH_done (by kernel_rfl) ?_ _
        have O9 : Hid (OwnS sgG 7 27 w8 w.heap.size (.slice (some ⟨w6.heap.size, 0, none⟩) 1 1) [⟨80, po, nx, wa, 16, 1000, ⟨#[]⟩⟩] ∧ Below w.heap.size w w8) := ⟨F8.out.2, F8.out.1.out⟩
        have R9 := R8
        clear hH1007
        go_wp2
        have xx0 : w8.cell? ⟨w.heap.size + 1 + 1, 0, none⟩ = some (.string mc) := R9.cell 0 rfl
        have xx1 : w8.cell? ⟨w.heap.size + 1 + 1, 1, none⟩ = some (.int .i64 ip) := R9.cell 1 rfl
        have xx2 : w8.cell? ⟨w.heap.size + 1 + 1, 2, none⟩ = some (.int .i64 po) := R9.cell 2 rfl
        have xx3 : w8.cell? ⟨w.heap.size + 1 + 1, 3, none⟩ = some (.int .i64 di) := R9.cell 3 rfl
        have xx4 : w8.cell? ⟨w.heap.size + 1 + 1, 4, none⟩ = some (.int .i64 st) := R9.cell 4 rfl
        have xx5 : w8.cell? ⟨w.heap.size + 1 + 1, 5, none⟩ = some (.int .i64 un) := R9.cell 5 rfl
        have xx6 : w8.cell? ⟨w.heap.size + 1 + 1, 6, none⟩ = some (.int .i64 nx) := R9.cell 6 rfl
        have xx7 : w8.cell? ⟨w.heap.size + 1 + 1, 7, none⟩ = some (.int .i64 wa) := R9.cell 7 rfl
        have xx8 : w8.cell? ⟨w.heap.size + 1 + 1, 8, none⟩ = some (.string inn) := R9.cell 8 rfl
        have xx9 : w8.cell? ⟨w.heap.size + 1 + 1, 9, none⟩ = some (.string out) := R9.cell 9 rfl
        have xx10 : w8.cell? ⟨w.heap.size + 1 + 1, 10, none⟩ = some (.bool fin) := R9.cell 10 rfl
        (try simp only [Exit.inBlock, Exit.then])
        refine bodyPost_ret (v := .tuple #[.agg #[.string mc, .int .i64 ip, .int .i64 po, .int .i64 di, .int .i64 st, .int .i64 un, .int .i64 nx, .int .i64 wa, .string inn, .string out, .bool fin], .slice (some ⟨w6.heap.size, 0, none⟩) 1 1]) (by simp [results, Try.results37, go_sem, xx0, xx1, xx2, xx3, xx4, xx5, xx6, xx7, xx8, xx9, xx10]; try rfl) rfl ?_
        exact ⟨_, rfl, O9.out.1, O9.out.2⟩
      exact AllReadyH.nil
    refine AllReadyH.cons rfl (fun K hK => ?_) ?_
    · skip
      refine wpr_put rfl _ _ rfl (w.heap.size + 1 + 1) _ rfl rfl R6.out rfl rfl rfl ?_
      intro w8 hw8 R8
      have hz8 : w.heap.size ≤ w8.heap.size := by
        have := World.block_lt_of_cell? w8 _ (R8.cell 0 rfl)
        dsimp only at this
        omega
      have F8 : Hid (XQ (w.heap.size) [.string mc, .int .i64 ip, .int .i64 po, .int .i64 di, .int .i64 st, .int .i64 un, .int .i64 nx, .int .i64 wa, .string inn, .string out, .bool fin] w w8 ∧ XQ (w.heap.size) [.string mc, .int .i64 ip, .int .i64 po, .int .i64 di, .int .i64 st, .int .i64 un, .int .i64 nx, .int .i64 wa, .string inn, .string out, .bool fin] w (w8.alloc (.cells #[.int .i64 80, .int .i64 po, .int .i64 nx, .int .i64 wa, .int .i64 16, .int .i64 1000, .string ⟨#[]⟩] 27))) := by
        have h : XQ (w.heap.size) [.string mc, .int .i64 ip, .int .i64 po, .int .i64 di, .int .i64 st, .int .i64 un, .int .i64 nx, .int .i64 wa, .string inn, .string out, .bool fin] w w8 := by rw [hw8]; exact L6.out.cells (by omega) (by omega)
        exact ⟨h, h.below ((Below.refl _ _).alloc (Nat.le_refl _) _)⟩
      clear hw8
      refine hK.out _ _ ?_ (fun hH1009 => ?_)
      · (try dsimp only)
        first | (with_reducible exact L6.out) | (with_reducible exact LA.out) | (with_reducible exact F8.out.1) | (with_reducible exact F8.out.2)
      clear hK K hH1005
      refine wpAnyH_ready (rs := [5]) (by kernel_rfl) (by simp) ?_
      refine AllReadyH.cons rfl (fun K hK => ?_) ?_
      · go_simp
        refine hK.out _ _ ?_ (fun hH1010 => ?_)
        · (try dsimp only)
          first | (with_reducible exact L6.out) | (with_reducible exact LA.out) | (with_reducible exact F8.out.1) | (with_reducible exact F8.out.2)
        clear hK K hH1009
        refine wpAnyH_take (i := 7) (v := ?v1011) rfl (by kernel_rfl) (by kernel_rfl) (by kernel_rfl) (fun _ _ _ h => h) (Or.inl ⟨by rfl, ?hy1011⟩) (by assumption) ?rest1011
        case hy1011 => (intro w hSw; (try dsimp only at hSw); go_simp; (try with_reducible rfl))
        refine wpAnyH_done (by kernel_rfl) ?_ _
        have O9 : Hid (OwnS sgG 7 27 (w8.alloc (.cells #[.int .i64 80, .int .i64 po, .int .i64 nx, .int .i64 wa, .int .i64 16, .int .i64 1000, .string ⟨#[]⟩] 27)) w.heap.size (.slice (some ⟨w8.heap.size, 0, none⟩) 1 1) [⟨80, po, nx, wa, 16, 1000, ⟨#[]⟩⟩] ∧ Below w.heap.size w (w8.alloc (.cells #[.int .i64 80, .int .i64 po, .int .i64 nx, .int .i64 wa, .int .i64 16, .int .i64 1000, .string ⟨#[]⟩] 27))) := ⟨own1 w8 _ 80 po nx wa 16 1000 ⟨#[]⟩ hz8, F8.out.2.out⟩
        have R9 := R8.below ((Below.refl _ _).alloc (Nat.le_refl _) (.cells #[.int .i64 80, .int .i64 po, .int .i64 nx, .int .i64 wa, .int .i64 16, .int .i64 1000, .string ⟨#[]⟩] 27))
        clear hH1010
        generalize (w8.alloc (.cells #[.int .i64 80, .int .i64 po, .int .i64 nx, .int .i64 wa, .int .i64 16, .int .i64 1000, .string ⟨#[]⟩] 27)) = w9 at O9 R9 ⊢
        go_wp2
        have xx0 : w9.cell? ⟨w.heap.size + 1 + 1, 0, none⟩ = some (.string mc) := R9.cell 0 rfl
        have xx1 : w9.cell? ⟨w.heap.size + 1 + 1, 1, none⟩ = some (.int .i64 ip) := R9.cell 1 rfl
        have xx2 : w9.cell? ⟨w.heap.size + 1 + 1, 2, none⟩ = some (.int .i64 po) := R9.cell 2 rfl
        have xx3 : w9.cell? ⟨w.heap.size + 1 + 1, 3, none⟩ = some (.int .i64 di) := R9.cell 3 rfl
        have xx4 : w9.cell? ⟨w.heap.size + 1 + 1, 4, none⟩ = some (.int .i64 st) := R9.cell 4 rfl
        have xx5 : w9.cell? ⟨w.heap.size + 1 + 1, 5, none⟩ = some (.int .i64 un) := R9.cell 5 rfl
        have xx6 : w9.cell? ⟨w.heap.size + 1 + 1, 6, none⟩ = some (.int .i64 nx) := R9.cell 6 rfl
        have xx7 : w9.cell? ⟨w.heap.size + 1 + 1, 7, none⟩ = some (.int .i64 wa) := R9.cell 7 rfl
        have xx8 : w9.cell? ⟨w.heap.size + 1 + 1, 8, none⟩ = some (.string inn) := R9.cell 8 rfl
        have xx9 : w9.cell? ⟨w.heap.size + 1 + 1, 9, none⟩ = some (.string out) := R9.cell 9 rfl
        have xx10 : w9.cell? ⟨w.heap.size + 1 + 1, 10, none⟩ = some (.bool fin) := R9.cell 10 rfl
        (try simp only [Exit.inBlock, Exit.then])
        refine bodyPost_ret (v := .tuple #[.agg #[.string mc, .int .i64 ip, .int .i64 po, .int .i64 di, .int .i64 st, .int .i64 un, .int .i64 nx, .int .i64 wa, .string inn, .string out, .bool fin], .slice (some ⟨w8.heap.size, 0, none⟩) 1 1]) (by simp [results, Try.results37, go_sem, xx0, xx1, xx2, xx3, xx4, xx5, xx6, xx7, xx8, xx9, xx10]; try rfl) rfl ?_
        exact ⟨_, rfl, O9.out.1, O9.out.2⟩
      exact AllReadyH.nil
    exact AllReadyH.nil
  exact AllReadyH.nil
end Go.Proofs.Ytfgghffgfefgpaa

namespace Go.Proofs.Ytfgghffgfefgpaa
open Go.RowKit Go.PlainAid Go.Proofs.Ytfgghffgfefgpaa.Bt Go.Sort
set_option linter.unusedVariables false
set_option maxRecDepth 20000
set_option maxHeartbeats 16000000 in
theorem tkE2_any (mc : ByteArray) (ip po di st un nx wa : Int) (inn out : ByteArray) (fin : Bool) (sp dp sq ac fl wi : Int) (da : ByteArray) (w : World) (t4 : (st == 4) = false) (f4 : (bits BinOp.and IntKind.i64 fl 4 != 0) = false) (f2 : (bits BinOp.and IntKind.i64 fl 2 != 0) = true) (hq : 0 ≤ sq ∧ sq ≤ 4294967295) (t1 : (st == 1) = false) :
    Calls Try.prog 37 #[.agg #[.string mc, .int .i64 ip, .int .i64 po, .int .i64 di, .int .i64 st, .int .i64 un, .int .i64 nx, .int .i64 wa, .string inn, .string out, .bool fin], .agg #[.int .i64 sp, .int .i64 dp, .int .i64 sq, .int .i64 ac, .int .i64 fl, .int .i64 wi, .string da]] w fun e w' => ∃ v, e = .returned (.tuple #[.agg #[.string mc, .int .i64 ip, .int .i64 po, .int .i64 di, .int .i64 st, .int .i64 un, .int .i64 nx, .int .i64 wa, .string inn, .string out, .bool fin], v]) ∧ OwnS sgG 7 27 w' w.heap.size v [⟨80, po, nx, wa, 16, 1000, ⟨#[]⟩⟩] ∧ Below w.heap.size w w' := by
  have TQ : Hid (∀ w, Calls Try.prog 61 #[.int .i64 (sq + 1)] w fun e w' => e = .returned (.int .i64 (sqN (sq + 1))) ∧ w' = w) := fun w => l10Seq_any _ w (by omega) (by omega)
  have ew : IntKind.i64.wrap (sq + 1) = sq + 1 := by rw [IntKind.wrap_i64]; omega
  have C9 : Bx (((w.alloc (.cells #[.string mc, .int .i64 ip, .int .i64 po, .int .i64 di, .int .i64 st, .int .i64 un, .int .i64 nx, .int .i64 wa, .string inn, .string out, .bool fin] 24)).alloc (.cells #[.int .i64 sp, .int .i64 dp, .int .i64 sq, .int .i64 ac, .int .i64 fl, .int .i64 wi, .string da] 27)).alloc (.cells #[.string ⟨#[]⟩, .int .i64 0, .int .i64 0, .int .i64 0, .int .i64 0, .int .i64 0, .int .i64 0, .int .i64 0, .string ⟨#[]⟩, .string ⟨#[]⟩, .bool false] 24)) w.heap.size [.string mc, .int .i64 ip, .int .i64 po, .int .i64 di, .int .i64 st, .int .i64 un, .int .i64 nx, .int .i64 wa, .string inn, .string out, .bool fin] := ((Bx.new w _ _).below ((Below.refl _ _).alloc (Nat.le_refl _) _)).below ((Below.refl _ _).alloc (Nat.le_refl _) _)
  have G9 : Bx (((w.alloc (.cells #[.string mc, .int .i64 ip, .int .i64 po, .int .i64 di, .int .i64 st, .int .i64 un, .int .i64 nx, .int .i64 wa, .string inn, .string out, .bool fin] 24)).alloc (.cells #[.int .i64 sp, .int .i64 dp, .int .i64 sq, .int .i64 ac, .int .i64 fl, .int .i64 wi, .string da] 27)).alloc (.cells #[.string ⟨#[]⟩, .int .i64 0, .int .i64 0, .int .i64 0, .int .i64 0, .int .i64 0, .int .i64 0, .int .i64 0, .string ⟨#[]⟩, .string ⟨#[]⟩, .bool false] 24)) (w.heap.size + 1) [.int .i64 sp, .int .i64 dp, .int .i64 sq, .int .i64 ac, .int .i64 fl, .int .i64 wi, .string da] := by
    have h := (Bx.new (w.alloc (.cells #[.string mc, .int .i64 ip, .int .i64 po, .int .i64 di, .int .i64 st, .int .i64 un, .int .i64 nx, .int .i64 wa, .string inn, .string out, .bool fin] 24)) #[.int .i64 sp, .int .i64 dp, .int .i64 sq, .int .i64 ac, .int .i64 fl, .int .i64 wi, .string da] 27).below ((Below.refl _ _).alloc (Nat.le_refl _) (.cells #[.string ⟨#[]⟩, .int .i64 0, .int .i64 0, .int .i64 0, .int .i64 0, .int .i64 0, .int .i64 0, .int .i64 0, .string ⟨#[]⟩, .string ⟨#[]⟩, .bool false] 24))
    rw [World.size_alloc] at h
    exact h
  have R9 : Bx (((w.alloc (.cells #[.string mc, .int .i64 ip, .int .i64 po, .int .i64 di, .int .i64 st, .int .i64 un, .int .i64 nx, .int .i64 wa, .string inn, .string out, .bool fin] 24)).alloc (.cells #[.int .i64 sp, .int .i64 dp, .int .i64 sq, .int .i64 ac, .int .i64 fl, .int .i64 wi, .string da] 27)).alloc (.cells #[.string ⟨#[]⟩, .int .i64 0, .int .i64 0, .int .i64 0, .int .i64 0, .int .i64 0, .int .i64 0, .int .i64 0, .string ⟨#[]⟩, .string ⟨#[]⟩, .bool false] 24)) (w.heap.size + 1 + 1) [.string ⟨#[]⟩, .int .i64 0, .int .i64 0, .int .i64 0, .int .i64 0, .int .i64 0, .int .i64 0, .int .i64 0, .string ⟨#[]⟩, .string ⟨#[]⟩, .bool false] := by
    have h := Bx.new ((w.alloc (.cells #[.string mc, .int .i64 ip, .int .i64 po, .int .i64 di, .int .i64 st, .int .i64 un, .int .i64 nx, .int .i64 wa, .string inn, .string out, .bool fin] 24)).alloc (.cells #[.int .i64 sp, .int .i64 dp, .int .i64 sq, .int .i64 ac, .int .i64 fl, .int .i64 wi, .string da] 27)) #[.string ⟨#[]⟩, .int .i64 0, .int .i64 0, .int .i64 0, .int .i64 0, .int .i64 0, .int .i64 0, .int .i64 0, .string ⟨#[]⟩, .string ⟨#[]⟩, .bool false] 24
    rw [World.size_alloc, World.size_alloc] at h
    exact h
  have B9 : Hid (Below w.heap.size w (((w.alloc (.cells #[.string mc, .int .i64 ip, .int .i64 po, .int .i64 di, .int .i64 st, .int .i64 un, .int .i64 nx, .int .i64 wa, .string inn, .string out, .bool fin] 24)).alloc (.cells #[.int .i64 sp, .int .i64 dp, .int .i64 sq, .int .i64 ac, .int .i64 fl, .int .i64 wi, .string da] 27)).alloc (.cells #[.string ⟨#[]⟩, .int .i64 0, .int .i64 0, .int .i64 0, .int .i64 0, .int .i64 0, .int .i64 0, .int .i64 0, .string ⟨#[]⟩, .string ⟨#[]⟩, .bool false] 24))) := ((((Below.refl _ _).alloc (Nat.le_refl _) _).alloc (by simp) _).alloc (by simp; omega) _)
  have C0 : Bx ((((w.alloc (.cells #[.string mc, .int .i64 ip, .int .i64 po, .int .i64 di, .int .i64 st, .int .i64 un, .int .i64 nx, .int .i64 wa, .string inn, .string out, .bool fin] 24)).alloc (.cells #[.int .i64 sp, .int .i64 dp, .int .i64 sq, .int .i64 ac, .int .i64 fl, .int .i64 wi, .string da] 27)).alloc (.cells #[.string ⟨#[]⟩, .int .i64 0, .int .i64 0, .int .i64 0, .int .i64 0, .int .i64 0, .int .i64 0, .int .i64 0, .string ⟨#[]⟩, .string ⟨#[]⟩, .bool false] 24)).alloc (.cells #[] 27)) w.heap.size [.string mc, .int .i64 ip, .int .i64 po, .int .i64 di, .int .i64 st, .int .i64 un, .int .i64 nx, .int .i64 wa, .string inn, .string out, .bool fin] := C9.below ((Below.refl _ _).alloc (Nat.le_refl _) _)
  have G0 : Bx ((((w.alloc (.cells #[.string mc, .int .i64 ip, .int .i64 po, .int .i64 di, .int .i64 st, .int .i64 un, .int .i64 nx, .int .i64 wa, .string inn, .string out, .bool fin] 24)).alloc (.cells #[.int .i64 sp, .int .i64 dp, .int .i64 sq, .int .i64 ac, .int .i64 fl, .int .i64 wi, .string da] 27)).alloc (.cells #[.string ⟨#[]⟩, .int .i64 0, .int .i64 0, .int .i64 0, .int .i64 0, .int .i64 0, .int .i64 0, .int .i64 0, .string ⟨#[]⟩, .string ⟨#[]⟩, .bool false] 24)).alloc (.cells #[] 27)) (w.heap.size + 1) [.int .i64 sp, .int .i64 dp, .int .i64 sq, .int .i64 ac, .int .i64 fl, .int .i64 wi, .string da] := G9.below ((Below.refl _ _).alloc (Nat.le_refl _) _)
  have R0 : Bx ((((w.alloc (.cells #[.string mc, .int .i64 ip, .int .i64 po, .int .i64 di, .int .i64 st, .int .i64 un, .int .i64 nx, .int .i64 wa, .string inn, .string out, .bool fin] 24)).alloc (.cells #[.int .i64 sp, .int .i64 dp, .int .i64 sq, .int .i64 ac, .int .i64 fl, .int .i64 wi, .string da] 27)).alloc (.cells #[.string ⟨#[]⟩, .int .i64 0, .int .i64 0, .int .i64 0, .int .i64 0, .int .i64 0, .int .i64 0, .int .i64 0, .string ⟨#[]⟩, .string ⟨#[]⟩, .bool false] 24)).alloc (.cells #[] 27)) (w.heap.size + 1 + 1) [.string ⟨#[]⟩, .int .i64 0, .int .i64 0, .int .i64 0, .int .i64 0, .int .i64 0, .int .i64 0, .int .i64 0, .string ⟨#[]⟩, .string ⟨#[]⟩, .bool false] := R9.below ((Below.refl _ _).alloc (Nat.le_refl _) _)
  have B0 : Hid (Below w.heap.size w ((((w.alloc (.cells #[.string mc, .int .i64 ip, .int .i64 po, .int .i64 di, .int .i64 st, .int .i64 un, .int .i64 nx, .int .i64 wa, .string inn, .string out, .bool fin] 24)).alloc (.cells #[.int .i64 sp, .int .i64 dp, .int .i64 sq, .int .i64 ac, .int .i64 fl, .int .i64 wi, .string da] 27)).alloc (.cells #[.string ⟨#[]⟩, .int .i64 0, .int .i64 0, .int .i64 0, .int .i64 0, .int .i64 0, .int .i64 0, .int .i64 0, .string ⟨#[]⟩, .string ⟨#[]⟩, .bool false] 24)).alloc (.cells #[] 27))) := (((((Below.refl _ _).alloc (Nat.le_refl _) _).alloc (by simp) _).alloc (by simp; omega) _).alloc (by simp; omega) _)
  have O0 : OwnS sgG 7 27 ((((w.alloc (.cells #[.string mc, .int .i64 ip, .int .i64 po, .int .i64 di, .int .i64 st, .int .i64 un, .int .i64 nx, .int .i64 wa, .string inn, .string out, .bool fin] 24)).alloc (.cells #[.int .i64 sp, .int .i64 dp, .int .i64 sq, .int .i64 ac, .int .i64 fl, .int .i64 wi, .string da] 27)).alloc (.cells #[.string ⟨#[]⟩, .int .i64 0, .int .i64 0, .int .i64 0, .int .i64 0, .int .i64 0, .int .i64 0, .int .i64 0, .string ⟨#[]⟩, .string ⟨#[]⟩, .bool false] 24)).alloc (.cells #[] 27)) (w.heap.size + 3) (.slice (some ⟨w.heap.size + 1 + 1 + 1, 0, none⟩) 0 0) [] := lit_at (by omega) (by simp)
  clear C9 G9 R9 B9
  have TA : Hid (∀ w, Calls Try.prog 77 #[.agg #[.string mc, .int .i64 ip, .int .i64 po, .int .i64 di, .int .i64 st, .int .i64 un, .int .i64 nx, .int .i64 wa, .string inn, .string out, .bool fin], .int .i64 nx, .int .i64 16, .string ⟨#[]⟩] w fun e w' => e = .returned (.agg #[.int .i64 80, .int .i64 po, .int .i64 nx, .int .i64 wa, .int .i64 16, .int .i64 1000, .string ⟨#[]⟩]) ∧ Grw w w') := fun w => l10Reply_any mc ip po di st un nx wa inn out fin nx 16 ⟨#[]⟩ w
  go_enter Try.func37, Try.ntmps37
  go_wp2_with fail
  have s4 : ((((w.alloc (.cells #[.string mc, .int .i64 ip, .int .i64 po, .int .i64 di, .int .i64 st, .int .i64 un, .int .i64 nx, .int .i64 wa, .string inn, .string out, .bool fin] 24)).alloc (.cells #[.int .i64 sp, .int .i64 dp, .int .i64 sq, .int .i64 ac, .int .i64 fl, .int .i64 wi, .string da] 27)).alloc (.cells #[.string ⟨#[]⟩, .int .i64 0, .int .i64 0, .int .i64 0, .int .i64 0, .int .i64 0, .int .i64 0, .int .i64 0, .string ⟨#[]⟩, .string ⟨#[]⟩, .bool false] 24)).alloc (.cells #[] 27)).cell? ⟨w.heap.size, 4, none⟩ = some (.int .i64 st) := by simp [go_sem]
  have s2 : ((((w.alloc (.cells #[.string mc, .int .i64 ip, .int .i64 po, .int .i64 di, .int .i64 st, .int .i64 un, .int .i64 nx, .int .i64 wa, .string inn, .string out, .bool fin] 24)).alloc (.cells #[.int .i64 sp, .int .i64 dp, .int .i64 sq, .int .i64 ac, .int .i64 fl, .int .i64 wi, .string da] 27)).alloc (.cells #[.string ⟨#[]⟩, .int .i64 0, .int .i64 0, .int .i64 0, .int .i64 0, .int .i64 0, .int .i64 0, .int .i64 0, .string ⟨#[]⟩, .string ⟨#[]⟩, .bool false] 24)).alloc (.cells #[] 27)).cell? ⟨w.heap.size + 1, 2, none⟩ = some (.int .i64 sq) := by simp [go_sem]
  have s7 : ((((w.alloc (.cells #[.string mc, .int .i64 ip, .int .i64 po, .int .i64 di, .int .i64 st, .int .i64 un, .int .i64 nx, .int .i64 wa, .string inn, .string out, .bool fin] 24)).alloc (.cells #[.int .i64 sp, .int .i64 dp, .int .i64 sq, .int .i64 ac, .int .i64 fl, .int .i64 wi, .string da] 27)).alloc (.cells #[.string ⟨#[]⟩, .int .i64 0, .int .i64 0, .int .i64 0, .int .i64 0, .int .i64 0, .int .i64 0, .int .i64 0, .string ⟨#[]⟩, .string ⟨#[]⟩, .bool false] 24)).alloc (.cells #[] 27)).cell? ⟨w.heap.size, 7, none⟩ = some (.int .i64 wa) := by simp [go_sem]
  have C5 : Bx ((((w.alloc (.cells #[.string mc, .int .i64 ip, .int .i64 po, .int .i64 di, .int .i64 st, .int .i64 un, .int .i64 nx, .int .i64 wa, .string inn, .string out, .bool fin] 24)).alloc (.cells #[.int .i64 sp, .int .i64 dp, .int .i64 sq, .int .i64 ac, .int .i64 fl, .int .i64 wi, .string da] 27)).alloc (.cells #[.string ⟨#[]⟩, .int .i64 0, .int .i64 0, .int .i64 0, .int .i64 0, .int .i64 0, .int .i64 0, .int .i64 0, .string ⟨#[]⟩, .string ⟨#[]⟩, .bool false] 24)).alloc (.cells #[] 27)).drew w.heap.size [.string mc, .int .i64 ip, .int .i64 po, .int .i64 di, .int .i64 st, .int .i64 un, .int .i64 nx, .int .i64 wa, .string inn, .string out, .bool fin] := C0.below ((Below.refl _ _).drew)
  have R5 : Bx ((((w.alloc (.cells #[.string mc, .int .i64 ip, .int .i64 po, .int .i64 di, .int .i64 st, .int .i64 un, .int .i64 nx, .int .i64 wa, .string inn, .string out, .bool fin] 24)).alloc (.cells #[.int .i64 sp, .int .i64 dp, .int .i64 sq, .int .i64 ac, .int .i64 fl, .int .i64 wi, .string da] 27)).alloc (.cells #[.string ⟨#[]⟩, .int .i64 0, .int .i64 0, .int .i64 0, .int .i64 0, .int .i64 0, .int .i64 0, .int .i64 0, .string ⟨#[]⟩, .string ⟨#[]⟩, .bool false] 24)).alloc (.cells #[] 27)).drew (w.heap.size + 1 + 1) [.string ⟨#[]⟩, .int .i64 0, .int .i64 0, .int .i64 0, .int .i64 0, .int .i64 0, .int .i64 0, .int .i64 0, .string ⟨#[]⟩, .string ⟨#[]⟩, .bool false] := R0.below ((Below.refl _ _).drew)
  have B5 : Hid (Below w.heap.size w ((((w.alloc (.cells #[.string mc, .int .i64 ip, .int .i64 po, .int .i64 di, .int .i64 st, .int .i64 un, .int .i64 nx, .int .i64 wa, .string inn, .string out, .bool fin] 24)).alloc (.cells #[.int .i64 sp, .int .i64 dp, .int .i64 sq, .int .i64 ac, .int .i64 fl, .int .i64 wi, .string da] 27)).alloc (.cells #[.string ⟨#[]⟩, .int .i64 0, .int .i64 0, .int .i64 0, .int .i64 0, .int .i64 0, .int .i64 0, .int .i64 0, .string ⟨#[]⟩, .string ⟨#[]⟩, .bool false] 24)).alloc (.cells #[] 27)).drew) := B0.out.drew
  clear C0 G0 R0 B0 O0
  generalize ((((w.alloc (.cells #[.string mc, .int .i64 ip, .int .i64 po, .int .i64 di, .int .i64 st, .int .i64 un, .int .i64 nx, .int .i64 wa, .string inn, .string out, .bool fin] 24)).alloc (.cells #[.int .i64 sp, .int .i64 dp, .int .i64 sq, .int .i64 ac, .int .i64 fl, .int .i64 wi, .string da] 27)).alloc (.cells #[.string ⟨#[]⟩, .int .i64 0, .int .i64 0, .int .i64 0, .int .i64 0, .int .i64 0, .int .i64 0, .int .i64 0, .string ⟨#[]⟩, .string ⟨#[]⟩, .bool false] 24)).alloc (.cells #[] 27)) = w4 at s4 s2 s7 C5 R5 B5 ⊢
  have SS : Hid (w4.drew.cell? ⟨w.heap.size, 4, none⟩ = some (.int .i64 st) ∧ w4.drew.cell? ⟨w.heap.size + 1, 2, none⟩ = some (.int .i64 sq) ∧ w4.drew.cell? ⟨w.heap.size, 7, none⟩ = some (.int .i64 wa)) := ⟨by simp [s4], by simp [s2], by simp [s7]⟩
  refine wp_region_held_drew (S := (fun wx => wx.cell? ⟨w.heap.size, 4, none⟩ = some (.int .i64 st) ∧ wx.cell? ⟨w.heap.size + 1, 2, none⟩ = some (.int .i64 sq) ∧ wx.cell? ⟨w.heap.size, 7, none⟩ = some (.int .i64 wa))) (by kernel_rfl) ?_ (fun hH0 => ?_)
  · with_reducible exact SS.out
  refine wpAnyH_take (i := 0) (v := ?v301) rfl (by kernel_rfl) (by kernel_rfl) (by kernel_rfl) (fun _ _ _ h => h) (Or.inl ⟨by rfl, ?hy301⟩) (by assumption) ?rest301
  case hy301 => (intro w hSw; (try dsimp only at hSw); go_simp; (try with_reducible rfl))
  refine wpAnyH_take (i := 1) (v := ?v302) rfl (by kernel_rfl) (by kernel_rfl) (by kernel_rfl) (fun _ _ _ h => h) (Or.inl ⟨by rfl, ?hy302⟩) (by assumption) ?rest302
  case hy302 => (intro w hSw; (try dsimp only at hSw); go_simp; (try with_reducible rfl))
  refine wpAnyH_take (i := 2) (v := .bool false) rfl (by kernel_rfl) (by kernel_rfl) (by kernel_rfl) (fun _ _ _ h => h) (Or.inl ⟨by rfl, ?hy303⟩) (by assumption) ?rest303
  case hy303 =>
    intro wz hSw
    go_simp
  refine wpAnyH_take (i := 3) (v := .bool false) rfl (by kernel_rfl) (by kernel_rfl) (by kernel_rfl) (fun _ _ _ h => h) (Or.inl ⟨by rfl, ?hy304⟩) (by assumption) ?rest304
  case hy304 =>
    intro wz hSw
    go_simp
  refine wpAnyH_take (i := 4) (v := undef) rfl (by kernel_rfl) (by kernel_rfl) (by kernel_rfl) (fun _ _ _ h => h) (Or.inr ⟨by kernel_rfl, rfl⟩) (by assumption) ?rest305
  refine wpAnyH_take (i := 5) (v := undef) rfl (by kernel_rfl) (by kernel_rfl) (by kernel_rfl) (fun _ _ _ h => h) (Or.inr ⟨by kernel_rfl, rfl⟩) (by assumption) ?rest306
  refine wpAnyH_take (i := 6) (v := undef) rfl (by kernel_rfl) (by kernel_rfl) (by kernel_rfl) (fun _ _ _ h => h) (Or.inr ⟨by kernel_rfl, rfl⟩) (by assumption) ?rest307
  refine wpAnyH_take (i := 7) (v := undef) rfl (by kernel_rfl) (by kernel_rfl) (by kernel_rfl) (fun _ _ _ h => h) (Or.inr ⟨by kernel_rfl, rfl⟩) (by assumption) ?rest308
  refine wpAnyH_take (i := 8) (v := undef) rfl (by kernel_rfl) (by kernel_rfl) (by kernel_rfl) (fun _ _ _ h => h) (Or.inr ⟨by kernel_rfl, rfl⟩) (by assumption) ?rest309
  refine wpAnyH_take (i := 9) (v := undef) rfl (by kernel_rfl) (by kernel_rfl) (by kernel_rfl) (fun _ _ _ h => h) (Or.inr ⟨by kernel_rfl, rfl⟩) (by assumption) ?rest310
  refine wpAnyH_take (i := 10) (v := undef) rfl (by kernel_rfl) (by kernel_rfl) (by kernel_rfl) (fun _ _ _ h => h) (Or.inr ⟨by kernel_rfl, rfl⟩) (by assumption) ?rest311
  go_simp
  refine wpAnyH_take (i := 11) (v := .bool false) rfl (by kernel_rfl) (by kernel_rfl) (by kernel_rfl) (fun _ _ _ h => h) (Or.inl ⟨by rfl, ?hy312⟩) (by assumption) ?rest312
  case hy312 =>
    intro wz hSw
    go_simp
  refine wpAnyH_done (by kernel_rfl) ?_ _
  clear hH0
  go_wp2_with fail
  clear SS s4 s2 s7
  generalize w4.drew = w5 at C5 R5 B5 ⊢
  have hs5 : w.heap.size + 3 ≤ w5.heap.size := by
    have := World.block_lt_of_cell? w5 _ (R5.cell 0 rfl)
    dsimp only at this
    omega
  have SS : Hid (XQ (w.heap.size) [.string mc, .int .i64 ip, .int .i64 po, .int .i64 di, .int .i64 st, .int .i64 un, .int .i64 nx, .int .i64 wa, .string inn, .string out, .bool fin] w w5.drew) := ⟨C5.below ((Below.refl _ _).drew), B5.out.drew⟩
  have RS : Hid (Bx w5.drew (w.heap.size + 1 + 1) [.string ⟨#[]⟩, .int .i64 0, .int .i64 0, .int .i64 0, .int .i64 0, .int .i64 0, .int .i64 0, .int .i64 0, .string ⟨#[]⟩, .string ⟨#[]⟩, .bool false]) := R5.below ((Below.refl _ _).drew)
  clear C5 R5 B5
  refine wp_region_held_drew (S := (fun wx => XQ (w.heap.size) [.string mc, .int .i64 ip, .int .i64 po, .int .i64 di, .int .i64 st, .int .i64 un, .int .i64 nx, .int .i64 wa, .string inn, .string out, .bool fin] w wx)) (by kernel_rfl) ?_ (fun hH0 => ?_)
  · with_reducible exact SS.out
  refine wpAnyH_take (i := 0) (v := .agg #[.string mc, .int .i64 ip, .int .i64 po, .int .i64 di, .int .i64 st, .int .i64 un, .int .i64 nx, .int .i64 wa, .string inn, .string out, .bool fin]) rfl (by kernel_rfl) (by kernel_rfl) (by kernel_rfl) (fun _ _ _ h => h) (yieldsIf_load_mid (by rfl) 24 _ rfl (w.heap.size) 0 rfl [.string mc, .int .i64 ip, .int .i64 po, .int .i64 di, .int .i64 st, .int .i64 un, .int .i64 nx, .int .i64 wa, .string inn, .string out, .bool fin] _ (fun _ h => h.c.cl) Try.underlying24 rfl rfl) (by assumption) ?rest1001
  refine wpAnyH_take (i := 1) (v := .agg #[.string mc, .int .i64 ip, .int .i64 po, .int .i64 di, .int .i64 st, .int .i64 un, .int .i64 nx, .int .i64 wa, .string inn, .string out, .bool fin]) rfl (by kernel_rfl) (by kernel_rfl) (by kernel_rfl) (fun _ _ _ h => h) (yieldsIf_load_mid (by rfl) 24 _ rfl (w.heap.size) 0 rfl [.string mc, .int .i64 ip, .int .i64 po, .int .i64 di, .int .i64 st, .int .i64 un, .int .i64 nx, .int .i64 wa, .string inn, .string out, .bool fin] _ (fun _ h => h.c.cl) Try.underlying24 rfl rfl) (by assumption) ?rest1002
  refine wpAnyH_take (i := 2) (v := ?v1003) rfl (by kernel_rfl) (by kernel_rfl) (by kernel_rfl) (fun _ _ _ h => h) (Or.inl ⟨by rfl, ?hy1003⟩) (by assumption) ?rest1003
  case hy1003 => (intro w hSw; (try dsimp only at hSw); go_simp; (try with_reducible rfl))
  refine wpAnyH_take (i := 3) (v := .int .i64 nx) rfl (by kernel_rfl) (by kernel_rfl) (by kernel_rfl) (fun _ _ _ h => h) (Or.inl ⟨by rfl, ?hy1004⟩) (by assumption) ?rest1004
  case hy1004 =>
    intro wz hSw
    have hf := hSw.c.cell 6 rfl
    go_simp
  refine wpAnyH_ready (rs := [4]) (by kernel_rfl) (by simp) ?_
  refine AllReadyH.cons rfl (fun K hK => ?_) ?_
  · go_simp
    go_at_call 77
    with_reducible refine (TA.out _).mono ?_
    rintro e w6 ⟨rfl, g6⟩
    have hs6 : w.heap.size + 3 ≤ w6.heap.size := Nat.le_trans (by simpa using hs5) g6.below.size
    have L6 : Hid (XQ (w.heap.size) [.string mc, .int .i64 ip, .int .i64 po, .int .i64 di, .int .i64 st, .int .i64 un, .int .i64 nx, .int .i64 wa, .string inn, .string out, .bool fin] w w6) := SS.out.below g6.below
    have R6 : Hid (Bx w6 (w.heap.size + 1 + 1) [.string ⟨#[]⟩, .int .i64 0, .int .i64 0, .int .i64 0, .int .i64 0, .int .i64 0, .int .i64 0, .int .i64 0, .string ⟨#[]⟩, .string ⟨#[]⟩, .bool false]) := RS.out.below g6.below
    have LA : Hid (XQ (w.heap.size) [.string mc, .int .i64 ip, .int .i64 po, .int .i64 di, .int .i64 st, .int .i64 un, .int .i64 nx, .int .i64 wa, .string inn, .string out, .bool fin] w (w6.alloc (.cells #[.int .i64 80, .int .i64 po, .int .i64 nx, .int .i64 wa, .int .i64 16, .int .i64 1000, .string ⟨#[]⟩] 27))) := L6.out.below ((Below.refl _ _).alloc (Nat.le_refl _) _)
    clear g6 SS RS
    refine hK.out _ _ ?_ (fun hH1005 => ?_)
    · (try dsimp only)
      first | (with_reducible exact L6.out) | (with_reducible exact LA.out) | (with_reducible exact F8.out.1) | (with_reducible exact F8.out.2)
    clear hK K hH0
    refine wpAnyH_ready (rs := [5, 6]) (by kernel_rfl) (by simp) ?_
    refine AllReadyH.cons rfl (fun K hK => ?_) ?_
    · go_simp
      refine hK.out _ _ ?_ (fun hH1006 => ?_)
      · (try dsimp only)
        first | (with_reducible exact L6.out) | (with_reducible exact LA.out) | (with_reducible exact F8.out.1) | (with_reducible exact F8.out.2)
      clear hK K hH1005
      refine wpAnyH_ready (rs := [6]) (by kernel_rfl) (by simp) ?_
      refine AllReadyH.cons rfl (fun K hK => ?_) ?_
      · skip
        refine wpr_put rfl _ _ rfl (w.heap.size + 1 + 1) _ rfl rfl (R6.out.below ((Below.refl _ _).alloc (Nat.le_refl _) (.cells #[.int .i64 80, .int .i64 po, .int .i64 nx, .int .i64 wa, .int .i64 16, .int .i64 1000, .string ⟨#[]⟩] 27))) rfl rfl rfl ?_
        intro w8 hw8 R8
        have F8 : Hid (XQ (w.heap.size) [.string mc, .int .i64 ip, .int .i64 po, .int .i64 di, .int .i64 st, .int .i64 un, .int .i64 nx, .int .i64 wa, .string inn, .string out, .bool fin] w w8 ∧ OwnS sgG 7 27 w8 w.heap.size (.slice (some ⟨w6.heap.size, 0, none⟩) 1 1) [⟨80, po, nx, wa, 16, 1000, ⟨#[]⟩⟩]) := by
          rw [hw8]
          exact ⟨LA.out.cells (by omega) (by omega), (own_cells (by omega) _ _ _ (own1 w6 (w.heap.size + 3) 80 po nx wa 16 1000 ⟨#[]⟩ hs6)).lower (by omega)⟩
        clear hw8
        refine hK.out _ _ ?_ (fun hH1007 => ?_)
        · (try dsimp only)
          first | (with_reducible exact L6.out) | (with_reducible exact LA.out) | (with_reducible exact F8.out.1) | (with_reducible exact F8.out.2)
        clear hK K hH1006
        refine wpAnyH_take (i := 7) (v := ?v1008) rfl (by kernel_rfl) (by kernel_rfl) (by kernel_rfl) (fun _ _ _ h => h) (Or.inl ⟨by rfl, ?hy1008⟩) (by assumption) ?rest1008
        case hy1008 => (intro w hSw; (try dsimp only at hSw); go_simp; (try with_reducible rfl))
        refine wpAnyH_done (by kernel_rfl) ?_ _
        have O9 : Hid (OwnS sgG 7 27 w8 w.heap.size (.slice (some ⟨w6.heap.size, 0, none⟩) 1 1) [⟨80, po, nx, wa, 16, 1000, ⟨#[]⟩⟩] ∧ Below w.heap.size w w8) := ⟨F8.out.2, F8.out.1.out⟩
        have R9 := R8
        clear hH1007
        go_wp2
        have xx0 : w8.cell? ⟨w.heap.size + 1 + 1, 0, none⟩ = some (.string mc) := R9.cell 0 rfl
        have xx1 : w8.cell? ⟨w.heap.size + 1 + 1, 1, none⟩ = some (.int .i64 ip) := R9.cell 1 rfl
        have xx2 : w8.cell? ⟨w.heap.size + 1 + 1, 2, none⟩ = some (.int .i64 po) := R9.cell 2 rfl
        have xx3 : w8.cell? ⟨w.heap.size + 1 + 1, 3, none⟩ = some (.int .i64 di) := R9.cell 3 rfl
        have xx4 : w8.cell? ⟨w.heap.size + 1 + 1, 4, none⟩ = some (.int .i64 st) := R9.cell 4 rfl
        have xx5 : w8.cell? ⟨w.heap.size + 1 + 1, 5, none⟩ = some (.int .i64 un) := R9.cell 5 rfl
        have xx6 : w8.cell? ⟨w.heap.size + 1 + 1, 6, none⟩ = some (.int .i64 nx) := R9.cell 6 rfl
        have xx7 : w8.cell? ⟨w.heap.size + 1 + 1, 7, none⟩ = some (.int .i64 wa) := R9.cell 7 rfl
        have xx8 : w8.cell? ⟨w.heap.size + 1 + 1, 8, none⟩ = some (.string inn) := R9.cell 8 rfl
        have xx9 : w8.cell? ⟨w.heap.size + 1 + 1, 9, none⟩ = some (.string out) := R9.cell 9 rfl
        have xx10 : w8.cell? ⟨w.heap.size + 1 + 1, 10, none⟩ = some (.bool fin) := R9.cell 10 rfl
        (try simp only [Exit.inBlock, Exit.then])
        refine bodyPost_ret (v := .tuple #[.agg #[.string mc, .int .i64 ip, .int .i64 po, .int .i64 di, .int .i64 st, .int .i64 un, .int .i64 nx, .int .i64 wa, .string inn, .string out, .bool fin], .slice (some ⟨w6.heap.size, 0, none⟩) 1 1]) (by simp [results, Try.results37, go_sem, xx0, xx1, xx2, xx3, xx4, xx5, xx6, xx7, xx8, xx9, xx10]; try rfl) rfl ?_
        exact ⟨_, rfl, O9.out.1, O9.out.2⟩
      exact AllReadyH.nil
    refine AllReadyH.cons rfl (fun K hK => ?_) ?_
    · skip
      refine wpr_put rfl _ _ rfl (w.heap.size + 1 + 1) _ rfl rfl R6.out rfl rfl rfl ?_
      intro w8 hw8 R8
      have hz8 : w.heap.size ≤ w8.heap.size := by
        have := World.block_lt_of_cell? w8 _ (R8.cell 0 rfl)
        dsimp only at this
        omega
      have F8 : Hid (XQ (w.heap.size) [.string mc, .int .i64 ip, .int .i64 po, .int .i64 di, .int .i64 st, .int .i64 un, .int .i64 nx, .int .i64 wa, .string inn, .string out, .bool fin] w w8 ∧ XQ (w.heap.size) [.string mc, .int .i64 ip, .int .i64 po, .int .i64 di, .int .i64 st, .int .i64 un, .int .i64 nx, .int .i64 wa, .string inn, .string out, .bool fin] w (w8.alloc (.cells #[.int .i64 80, .int .i64 po, .int .i64 nx, .int .i64 wa, .int .i64 16, .int .i64 1000, .string ⟨#[]⟩] 27))) := by
        have h : XQ (w.heap.size) [.string mc, .int .i64 ip, .int .i64 po, .int .i64 di, .int .i64 st, .int .i64 un, .int .i64 nx, .int .i64 wa, .string inn, .string out, .bool fin] w w8 := by rw [hw8]; exact L6.out.cells (by omega) (by omega)
        exact ⟨h, h.below ((Below.refl _ _).alloc (Nat.le_refl _) _)⟩
      clear hw8
      refine hK.out _ _ ?_ (fun hH1009 => ?_)
      · (try dsimp only)
        first | (with_reducible exact L6.out) | (with_reducible exact LA.out) | (with_reducible exact F8.out.1) | (with_reducible exact F8.out.2)
      clear hK K hH1005
      refine wpAnyH_ready (rs := [5]) (by kernel_rfl) (by simp) ?_
      refine AllReadyH.cons rfl (fun K hK => ?_) ?_
      · go_simp
        refine hK.out _ _ ?_ (fun hH1010 => ?_)
        · (try dsimp only)
          first | (with_reducible exact L6.out) | (with_reducible exact LA.out) | (with_reducible exact F8.out.1) | (with_reducible exact F8.out.2)
        clear hK K hH1009
        refine wpAnyH_take (i := 7) (v := ?v1011) rfl (by kernel_rfl) (by kernel_rfl) (by kernel_rfl) (fun _ _ _ h => h) (Or.inl ⟨by rfl, ?hy1011⟩) (by assumption) ?rest1011
        case hy1011 => (intro w hSw; (try dsimp only at hSw); go_simp; (try with_reducible rfl))
        refine wpAnyH_done (by kernel_rfl) ?_ _
        have O9 : Hid (OwnS sgG 7 27 (w8.alloc (.cells #[.int .i64 80, .int .i64 po, .int .i64 nx, .int .i64 wa, .int .i64 16, .int .i64 1000, .string ⟨#[]⟩] 27)) w.heap.size (.slice (some ⟨w8.heap.size, 0, none⟩) 1 1) [⟨80, po, nx, wa, 16, 1000, ⟨#[]⟩⟩] ∧ Below w.heap.size w (w8.alloc (.cells #[.int .i64 80, .int .i64 po, .int .i64 nx, .int .i64 wa, .int .i64 16, .int .i64 1000, .string ⟨#[]⟩] 27))) := ⟨own1 w8 _ 80 po nx wa 16 1000 ⟨#[]⟩ hz8, F8.out.2.out⟩
        have R9 := R8.below ((Below.refl _ _).alloc (Nat.le_refl _) (.cells #[.int .i64 80, .int .i64 po, .int .i64 nx, .int .i64 wa, .int .i64 16, .int .i64 1000, .string ⟨#[]⟩] 27))
        clear hH1010
        generalize (w8.alloc (.cells #[.int .i64 80, .int .i64 po, .int .i64 nx, .int .i64 wa, .int .i64 16, .int .i64 1000, .string ⟨#[]⟩] 27)) = w9 at O9 R9 ⊢
        go_wp2
        have xx0 : w9.cell? ⟨w.heap.size + 1 + 1, 0, none⟩ = some (.string mc) := R9.cell 0 rfl
        have xx1 : w9.cell? ⟨w.heap.size + 1 + 1, 1, none⟩ = some (.int .i64 ip) := R9.cell 1 rfl
        have xx2 : w9.cell? ⟨w.heap.size + 1 + 1, 2, none⟩ = some (.int .i64 po) := R9.cell 2 rfl
        have xx3 : w9.cell? ⟨w.heap.size + 1 + 1, 3, none⟩ = some (.int .i64 di) := R9.cell 3 rfl
        have xx4 : w9.cell? ⟨w.heap.size + 1 + 1, 4, none⟩ = some (.int .i64 st) := R9.cell 4 rfl
        have xx5 : w9.cell? ⟨w.heap.size + 1 + 1, 5, none⟩ = some (.int .i64 un) := R9.cell 5 rfl
        have xx6 : w9.cell? ⟨w.heap.size + 1 + 1, 6, none⟩ = some (.int .i64 nx) := R9.cell 6 rfl
        have xx7 : w9.cell? ⟨w.heap.size + 1 + 1, 7, none⟩ = some (.int .i64 wa) := R9.cell 7 rfl
        have xx8 : w9.cell? ⟨w.heap.size + 1 + 1, 8, none⟩ = some (.string inn) := R9.cell 8 rfl
        have xx9 : w9.cell? ⟨w.heap.size + 1 + 1, 9, none⟩ = some (.string out) := R9.cell 9 rfl
        have xx10 : w9.cell? ⟨w.heap.size + 1 + 1, 10, none⟩ = some (.bool fin) := R9.cell 10 rfl
        (try simp only [Exit.inBlock, Exit.then])
        refine bodyPost_ret (v := .tuple #[.agg #[.string mc, .int .i64 ip, .int .i64 po, .int .i64 di, .int .i64 st, .int .i64 un, .int .i64 nx, .int .i64 wa, .string inn, .string out, .bool fin], .slice (some ⟨w8.heap.size, 0, none⟩) 1 1]) (by simp [results, Try.results37, go_sem, xx0, xx1, xx2, xx3, xx4, xx5, xx6, xx7, xx8, xx9, xx10]; try rfl) rfl ?_
        exact ⟨_, rfl, O9.out.1, O9.out.2⟩
      exact AllReadyH.nil
    exact AllReadyH.nil
  exact AllReadyH.nil
set_option maxHeartbeats 16000000 in
theorem tkUb_any (mc : ByteArray) (ip po di st un nx wa : Int) (inn out : ByteArray) (fin : Bool) (sp dp sq ac fl wi : Int) (da : ByteArray) (dm : ByteArray) (di1 dp1 dd ds du dn dw : Int) (dI dO : ByteArray) (dF : Bool) (w : World) (t4 : (st == 4) = false) (f4 : (bits BinOp.and IntKind.i64 fl 4 != 0) = false) (f2 : (bits BinOp.and IntKind.i64 fl 2 != 0) = false) (f16 : (bits BinOp.and IntKind.i64 fl 16 == 0) = false) (TK0 : ∀ w, Calls Try.prog 78 #[.agg #[.string mc, .int .i64 ip, .int .i64 po, .int .i64 di, .int .i64 st, .int .i64 un, .int .i64 nx, .int .i64 wa, .string inn, .string out, .bool fin], .int .i64 ac] w fun e w' => e = .returned (.agg #[.string dm, .int .i64 di1, .int .i64 dp1, .int .i64 dd, .int .i64 ds, .int .i64 du, .int .i64 dn, .int .i64 dw, .string dI, .string dO, .bool dF]) ∧ Below w.heap.size w w') (u1 : (ds == 1) = false) (u4 : (ds == 4) = false) (ed : (da.toList == []) = true) (f1 : (bits BinOp.and IntKind.i64 fl 1 == 0) = false) (q : (sq == dw) = true) (hi : dI.size ≤ 300) (hda : da.size ≤ 360) (hw : 0 ≤ dw ∧ dw ≤ 4294967295) (r : (dI.size : Int) + (da.size : Int) ≤ 300) (f2 : (bits BinOp.and IntKind.i64 fl 1 != 0) = true) :
    Calls Try.prog 37 #[.agg #[.string mc, .int .i64 ip, .int .i64 po, .int .i64 di, .int .i64 st, .int .i64 un, .int .i64 nx, .int .i64 wa, .string inn, .string out, .bool fin], .agg #[.int .i64 sp, .int .i64 dp, .int .i64 sq, .int .i64 ac, .int .i64 fl, .int .i64 wi, .string da]] w fun e w' => ∃ v, e = .returned (.tuple #[.agg #[.string dm, .int .i64 di1, .int .i64 dp1, .int .i64 dd, .int .i64 ds, .int .i64 du, .int .i64 dn, .int .i64 (sqN (sqN (dw + (da.size : Int)) + 1)), .string (dI ++ da), .string dO, .bool dF], v]) ∧ OwnS sgG 7 27 w' w.heap.size v [⟨80, dp1, dn, sqN (sqN (dw + (da.size : Int)) + 1), 16, 1000, ⟨#[]⟩⟩] ∧ Below w.heap.size w w' := by
  have TK : Hid _ := TK0
  clear TK0
  have hadd : ∀ wx : World, (Op.stringOp .add dI da).run Try.prog wx = .ok (.string (dI ++ da)) wx := fun wx => run_string_add_sum (P := Try.prog) (w := wx) _ _ (by omega)
  have TQ : Hid (∀ w, Calls Try.prog 61 #[.int .i64 (dw + (da.size : Int))] w fun e w' => e = .returned (.int .i64 (sqN (dw + (da.size : Int)))) ∧ w' = w) := fun w => l10Seq_any _ w (by omega) (by omega)
  have hqb := sqN_bd (dw + (da.size : Int))
  have TR : Hid (∀ w, Calls Try.prog 61 #[.int .i64 (sqN (dw + (da.size : Int)) + 1)] w fun e w' => e = .returned (.int .i64 (sqN (sqN (dw + (da.size : Int)) + 1))) ∧ w' = w) := fun w => l10Seq_any _ w (by omega) (by omega)
  have ew1 : IntKind.i64.wrap (dw + (da.size : Int)) = dw + (da.size : Int) := by rw [IntKind.wrap_i64]; omega
  have ew2 : IntKind.i64.wrap (sqN (dw + (da.size : Int)) + 1) = sqN (dw + (da.size : Int)) + 1 := by rw [IntKind.wrap_i64]; omega
  generalize sqN (sqN (dw + (da.size : Int)) + 1) = NQ2 at TR ⊢
  generalize sqN (dw + (da.size : Int)) = NQ at TQ TR ew2 hqb ⊢
  have TA : Hid (∀ w, Calls Try.prog 77 #[.agg #[.string dm, .int .i64 di1, .int .i64 dp1, .int .i64 dd, .int .i64 ds, .int .i64 du, .int .i64 dn, .int .i64 NQ2, .string (dI ++ da), .string dO, .bool dF], .int .i64 dn, .int .i64 16, .string ⟨#[]⟩] w fun e w' => e = .returned (.agg #[.int .i64 80, .int .i64 dp1, .int .i64 dn, .int .i64 NQ2, .int .i64 16, .int .i64 1000, .string ⟨#[]⟩]) ∧ Grw w w') := fun w => l10Reply_any dm di1 dp1 dd ds du dn NQ2 (dI ++ da) dO dF dn 16 ⟨#[]⟩ w
  have C9 : Bx (((w.alloc (.cells #[.string mc, .int .i64 ip, .int .i64 po, .int .i64 di, .int .i64 st, .int .i64 un, .int .i64 nx, .int .i64 wa, .string inn, .string out, .bool fin] 24)).alloc (.cells #[.int .i64 sp, .int .i64 dp, .int .i64 sq, .int .i64 ac, .int .i64 fl, .int .i64 wi, .string da] 27)).alloc (.cells #[.string ⟨#[]⟩, .int .i64 0, .int .i64 0, .int .i64 0, .int .i64 0, .int .i64 0, .int .i64 0, .int .i64 0, .string ⟨#[]⟩, .string ⟨#[]⟩, .bool false] 24)) w.heap.size [.string mc, .int .i64 ip, .int .i64 po, .int .i64 di, .int .i64 st, .int .i64 un, .int .i64 nx, .int .i64 wa, .string inn, .string out, .bool fin] := ((Bx.new w _ _).below ((Below.refl _ _).alloc (Nat.le_refl _) _)).below ((Below.refl _ _).alloc (Nat.le_refl _) _)
  have G9 : Bx (((w.alloc (.cells #[.string mc, .int .i64 ip, .int .i64 po, .int .i64 di, .int .i64 st, .int .i64 un, .int .i64 nx, .int .i64 wa, .string inn, .string out, .bool fin] 24)).alloc (.cells #[.int .i64 sp, .int .i64 dp, .int .i64 sq, .int .i64 ac, .int .i64 fl, .int .i64 wi, .string da] 27)).alloc (.cells #[.string ⟨#[]⟩, .int .i64 0, .int .i64 0, .int .i64 0, .int .i64 0, .int .i64 0, .int .i64 0, .int .i64 0, .string ⟨#[]⟩, .string ⟨#[]⟩, .bool false] 24)) (w.heap.size + 1) [.int .i64 sp, .int .i64 dp, .int .i64 sq, .int .i64 ac, .int .i64 fl, .int .i64 wi, .string da] := by
    have h := (Bx.new (w.alloc (.cells #[.string mc, .int .i64 ip, .int .i64 po, .int .i64 di, .int .i64 st, .int .i64 un, .int .i64 nx, .int .i64 wa, .string inn, .string out, .bool fin] 24)) #[.int .i64 sp, .int .i64 dp, .int .i64 sq, .int .i64 ac, .int .i64 fl, .int .i64 wi, .string da] 27).below ((Below.refl _ _).alloc (Nat.le_refl _) (.cells #[.string ⟨#[]⟩, .int .i64 0, .int .i64 0, .int .i64 0, .int .i64 0, .int .i64 0, .int .i64 0, .int .i64 0, .string ⟨#[]⟩, .string ⟨#[]⟩, .bool false] 24))
    rw [World.size_alloc] at h
    exact h
  have R9 : Bx (((w.alloc (.cells #[.string mc, .int .i64 ip, .int .i64 po, .int .i64 di, .int .i64 st, .int .i64 un, .int .i64 nx, .int .i64 wa, .string inn, .string out, .bool fin] 24)).alloc (.cells #[.int .i64 sp, .int .i64 dp, .int .i64 sq, .int .i64 ac, .int .i64 fl, .int .i64 wi, .string da] 27)).alloc (.cells #[.string ⟨#[]⟩, .int .i64 0, .int .i64 0, .int .i64 0, .int .i64 0, .int .i64 0, .int .i64 0, .int .i64 0, .string ⟨#[]⟩, .string ⟨#[]⟩, .bool false] 24)) (w.heap.size + 1 + 1) [.string ⟨#[]⟩, .int .i64 0, .int .i64 0, .int .i64 0, .int .i64 0, .int .i64 0, .int .i64 0, .int .i64 0, .string ⟨#[]⟩, .string ⟨#[]⟩, .bool false] := by
    have h := Bx.new ((w.alloc (.cells #[.string mc, .int .i64 ip, .int .i64 po, .int .i64 di, .int .i64 st, .int .i64 un, .int .i64 nx, .int .i64 wa, .string inn, .string out, .bool fin] 24)).alloc (.cells #[.int .i64 sp, .int .i64 dp, .int .i64 sq, .int .i64 ac, .int .i64 fl, .int .i64 wi, .string da] 27)) #[.string ⟨#[]⟩, .int .i64 0, .int .i64 0, .int .i64 0, .int .i64 0, .int .i64 0, .int .i64 0, .int .i64 0, .string ⟨#[]⟩, .string ⟨#[]⟩, .bool false] 24
    rw [World.size_alloc, World.size_alloc] at h
    exact h
  have B9 : Hid (Below w.heap.size w (((w.alloc (.cells #[.string mc, .int .i64 ip, .int .i64 po, .int .i64 di, .int .i64 st, .int .i64 un, .int .i64 nx, .int .i64 wa, .string inn, .string out, .bool fin] 24)).alloc (.cells #[.int .i64 sp, .int .i64 dp, .int .i64 sq, .int .i64 ac, .int .i64 fl, .int .i64 wi, .string da] 27)).alloc (.cells #[.string ⟨#[]⟩, .int .i64 0, .int .i64 0, .int .i64 0, .int .i64 0, .int .i64 0, .int .i64 0, .int .i64 0, .string ⟨#[]⟩, .string ⟨#[]⟩, .bool false] 24))) := ((((Below.refl _ _).alloc (Nat.le_refl _) _).alloc (by simp) _).alloc (by simp; omega) _)
  have C0 : Bx ((((w.alloc (.cells #[.string mc, .int .i64 ip, .int .i64 po, .int .i64 di, .int .i64 st, .int .i64 un, .int .i64 nx, .int .i64 wa, .string inn, .string out, .bool fin] 24)).alloc (.cells #[.int .i64 sp, .int .i64 dp, .int .i64 sq, .int .i64 ac, .int .i64 fl, .int .i64 wi, .string da] 27)).alloc (.cells #[.string ⟨#[]⟩, .int .i64 0, .int .i64 0, .int .i64 0, .int .i64 0, .int .i64 0, .int .i64 0, .int .i64 0, .string ⟨#[]⟩, .string ⟨#[]⟩, .bool false] 24)).alloc (.cells #[] 27)) w.heap.size [.string mc, .int .i64 ip, .int .i64 po, .int .i64 di, .int .i64 st, .int .i64 un, .int .i64 nx, .int .i64 wa, .string inn, .string out, .bool fin] := C9.below ((Below.refl _ _).alloc (Nat.le_refl _) _)
  have G0 : Bx ((((w.alloc (.cells #[.string mc, .int .i64 ip, .int .i64 po, .int .i64 di, .int .i64 st, .int .i64 un, .int .i64 nx, .int .i64 wa, .string inn, .string out, .bool fin] 24)).alloc (.cells #[.int .i64 sp, .int .i64 dp, .int .i64 sq, .int .i64 ac, .int .i64 fl, .int .i64 wi, .string da] 27)).alloc (.cells #[.string ⟨#[]⟩, .int .i64 0, .int .i64 0, .int .i64 0, .int .i64 0, .int .i64 0, .int .i64 0, .int .i64 0, .string ⟨#[]⟩, .string ⟨#[]⟩, .bool false] 24)).alloc (.cells #[] 27)) (w.heap.size + 1) [.int .i64 sp, .int .i64 dp, .int .i64 sq, .int .i64 ac, .int .i64 fl, .int .i64 wi, .string da] := G9.below ((Below.refl _ _).alloc (Nat.le_refl _) _)
  have R0 : Bx ((((w.alloc (.cells #[.string mc, .int .i64 ip, .int .i64 po, .int .i64 di, .int .i64 st, .int .i64 un, .int .i64 nx, .int .i64 wa, .string inn, .string out, .bool fin] 24)).alloc (.cells #[.int .i64 sp, .int .i64 dp, .int .i64 sq, .int .i64 ac, .int .i64 fl, .int .i64 wi, .string da] 27)).alloc (.cells #[.string ⟨#[]⟩, .int .i64 0, .int .i64 0, .int .i64 0, .int .i64 0, .int .i64 0, .int .i64 0, .int .i64 0, .string ⟨#[]⟩, .string ⟨#[]⟩, .bool false] 24)).alloc (.cells #[] 27)) (w.heap.size + 1 + 1) [.string ⟨#[]⟩, .int .i64 0, .int .i64 0, .int .i64 0, .int .i64 0, .int .i64 0, .int .i64 0, .int .i64 0, .string ⟨#[]⟩, .string ⟨#[]⟩, .bool false] := R9.below ((Below.refl _ _).alloc (Nat.le_refl _) _)
  have B0 : Hid (Below w.heap.size w ((((w.alloc (.cells #[.string mc, .int .i64 ip, .int .i64 po, .int .i64 di, .int .i64 st, .int .i64 un, .int .i64 nx, .int .i64 wa, .string inn, .string out, .bool fin] 24)).alloc (.cells #[.int .i64 sp, .int .i64 dp, .int .i64 sq, .int .i64 ac, .int .i64 fl, .int .i64 wi, .string da] 27)).alloc (.cells #[.string ⟨#[]⟩, .int .i64 0, .int .i64 0, .int .i64 0, .int .i64 0, .int .i64 0, .int .i64 0, .int .i64 0, .string ⟨#[]⟩, .string ⟨#[]⟩, .bool false] 24)).alloc (.cells #[] 27))) := (((((Below.refl _ _).alloc (Nat.le_refl _) _).alloc (by simp) _).alloc (by simp; omega) _).alloc (by simp; omega) _)
  have O0 : OwnS sgG 7 27 ((((w.alloc (.cells #[.string mc, .int .i64 ip, .int .i64 po, .int .i64 di, .int .i64 st, .int .i64 un, .int .i64 nx, .int .i64 wa, .string inn, .string out, .bool fin] 24)).alloc (.cells #[.int .i64 sp, .int .i64 dp, .int .i64 sq, .int .i64 ac, .int .i64 fl, .int .i64 wi, .string da] 27)).alloc (.cells #[.string ⟨#[]⟩, .int .i64 0, .int .i64 0, .int .i64 0, .int .i64 0, .int .i64 0, .int .i64 0, .int .i64 0, .string ⟨#[]⟩, .string ⟨#[]⟩, .bool false] 24)).alloc (.cells #[] 27)) (w.heap.size + 3) (.slice (some ⟨w.heap.size + 1 + 1 + 1, 0, none⟩) 0 0) [] := lit_at (by omega) (by simp)
  clear C9 G9 R9 B9
  go_enter Try.func37, Try.ntmps37
  go_wp2_with fail
  refine (TK.out _).mono ?_
  rintro e w1 ⟨rfl, b1⟩
  have C1 : Bx w1 w.heap.size [.string mc, .int .i64 ip, .int .i64 po, .int .i64 di, .int .i64 st, .int .i64 un, .int .i64 nx, .int .i64 wa, .string inn, .string out, .bool fin] := C0.below b1
  have G1 : Bx w1 (w.heap.size + 1) [.int .i64 sp, .int .i64 dp, .int .i64 sq, .int .i64 ac, .int .i64 fl, .int .i64 wi, .string da] := G0.below b1
  have R1 : Bx w1 (w.heap.size + 1 + 1) [.string ⟨#[]⟩, .int .i64 0, .int .i64 0, .int .i64 0, .int .i64 0, .int .i64 0, .int .i64 0, .int .i64 0, .string ⟨#[]⟩, .string ⟨#[]⟩, .bool false] := R0.below b1
  have B1 : Hid (Below w.heap.size w w1) := B0.out.trans (b1.mono B0.out.size)
  have O1 : OwnS sgG 7 27 w1 (w.heap.size + 3) (.slice (some ⟨w.heap.size + 1 + 1 + 1, 0, none⟩) 0 0) [] := O0.now b1
  clear b1 C0 G0 R0 B0 O0 TK
  go_wp2_with (first | (refine wpl_put rfl _ _ rfl (w.heap.size) _ rfl rfl C1 rfl rfl rfl ?_; intro w3 hw3 C3; have G3 : Bx w3 (w.heap.size + 1) [.int .i64 sp, .int .i64 dp, .int .i64 sq, .int .i64 ac, .int .i64 fl, .int .i64 wi, .string da] := (by rw [hw3]; exact G1.apart _ (by omega)); have R3 : Bx w3 (w.heap.size + 1 + 1) [.string ⟨#[]⟩, .int .i64 0, .int .i64 0, .int .i64 0, .int .i64 0, .int .i64 0, .int .i64 0, .int .i64 0, .string ⟨#[]⟩, .string ⟨#[]⟩, .bool false] := (by rw [hw3]; exact R1.apart _ (by omega)); have B3 : Hid (Below w.heap.size w w3) := (by rw [hw3]; exact below_cells (Nat.le_refl _) _ _ _ B1.out); have O3 : Hid (OwnS sgG 7 27 w3 (w.heap.size + 3) (.slice (some ⟨w.heap.size + 1 + 1 + 1, 0, none⟩) 0 0) []) := (by rw [hw3]; exact own_cells (by omega) _ _ _ O1); have v4 : w3.cell? ⟨w.heap.size, 4, none⟩ = some (.int .i64 ds) := C3.cell 4 rfl; have v7 : w3.cell? ⟨w.heap.size, 7, none⟩ = some (.int .i64 dw) := C3.cell 7 rfl; have v8 : w3.cell? ⟨w.heap.size, 8, none⟩ = some (.string dI) := C3.cell 8 rfl; have z7 : w3.frozen? ⟨w.heap.size, 7, none⟩ = false := C3.thaw 7 (by simp); have z8 : w3.frozen? ⟨w.heap.size, 8, none⟩ = false := C3.thaw 8 (by simp); have k2 : w3.cell? ⟨w.heap.size + 1, 2, none⟩ = some (.int .i64 sq) := G3.cell 2 rfl; have k4 : w3.cell? ⟨w.heap.size + 1, 4, none⟩ = some (.int .i64 fl) := G3.cell 4 rfl; have k6 : w3.cell? ⟨w.heap.size + 1, 6, none⟩ = some (.string da) := G3.cell 6 rfl; clear hw3 C1 G1 R1 B1 O1) | fail)
  refine (TQ.out _).mono ?_
  rintro e wq ⟨rfl, hw⟩
  subst hw
  go_wp2_with fail
  refine (TR.out _).mono ?_
  rintro e wq2 ⟨rfl, hw⟩
  subst hw
  go_wp2_with fail
  have C5 : Bx (((w3.setCell ⟨w.heap.size, 8, none⟩ (.string (dI ++ da))).setCell ⟨w.heap.size, 7, none⟩ (.int .i64 NQ)).setCell ⟨w.heap.size, 7, none⟩ (.int .i64 NQ2)) w.heap.size [.string dm, .int .i64 di1, .int .i64 dp1, .int .i64 dd, .int .i64 ds, .int .i64 du, .int .i64 dn, .int .i64 NQ2, .string (dI ++ da), .string dO, .bool dF] := ((C3.field 8 _).field 7 _).field 7 _
  have R5 : Bx (((w3.setCell ⟨w.heap.size, 8, none⟩ (.string (dI ++ da))).setCell ⟨w.heap.size, 7, none⟩ (.int .i64 NQ)).setCell ⟨w.heap.size, 7, none⟩ (.int .i64 NQ2)) (w.heap.size + 1 + 1) [.string ⟨#[]⟩, .int .i64 0, .int .i64 0, .int .i64 0, .int .i64 0, .int .i64 0, .int .i64 0, .int .i64 0, .string ⟨#[]⟩, .string ⟨#[]⟩, .bool false] := ((R3.far _ _ (by dsimp only; omega)).far _ _ (by dsimp only; omega)).far _ _ (by dsimp only; omega)
  have B5 : Hid (Below w.heap.size w (((w3.setCell ⟨w.heap.size, 8, none⟩ (.string (dI ++ da))).setCell ⟨w.heap.size, 7, none⟩ (.int .i64 NQ)).setCell ⟨w.heap.size, 7, none⟩ (.int .i64 NQ2))) := ((B3.out.setCell (Nat.le_refl _) _).setCell (Nat.le_refl _) _).setCell (Nat.le_refl _) _
  clear C3 R3 B3
  clear v4 v7 v8 z7 z8 k2 k4 k6 G3 O3
  generalize (((w3.setCell ⟨w.heap.size, 8, none⟩ (.string (dI ++ da))).setCell ⟨w.heap.size, 7, none⟩ (.int .i64 NQ)).setCell ⟨w.heap.size, 7, none⟩ (.int .i64 NQ2)) = w5 at C5 R5 B5 ⊢
  have hs5 : w.heap.size + 3 ≤ w5.heap.size := by
    have := World.block_lt_of_cell? w5 _ (R5.cell 0 rfl)
    dsimp only at this
    omega
  have SS : Hid (XQ (w.heap.size) [.string dm, .int .i64 di1, .int .i64 dp1, .int .i64 dd, .int .i64 ds, .int .i64 du, .int .i64 dn, .int .i64 NQ2, .string (dI ++ da), .string dO, .bool dF] w w5.drew) := ⟨C5.below ((Below.refl _ _).drew), B5.out.drew⟩
  have RS : Hid (Bx w5.drew (w.heap.size + 1 + 1) [.string ⟨#[]⟩, .int .i64 0, .int .i64 0, .int .i64 0, .int .i64 0, .int .i64 0, .int .i64 0, .int .i64 0, .string ⟨#[]⟩, .string ⟨#[]⟩, .bool false]) := R5.below ((Below.refl _ _).drew)
  clear C5 R5 B5
  refine wp_region_held_drew (S := (fun wx => XQ (w.heap.size) [.string dm, .int .i64 di1, .int .i64 dp1, .int .i64 dd, .int .i64 ds, .int .i64 du, .int .i64 dn, .int .i64 NQ2, .string (dI ++ da), .string dO, .bool dF] w wx)) (by kernel_rfl) ?_ (fun hH0 => ?_)
  · with_reducible exact SS.out
  refine wpAnyH_take (i := 0) (v := .agg #[.string dm, .int .i64 di1, .int .i64 dp1, .int .i64 dd, .int .i64 ds, .int .i64 du, .int .i64 dn, .int .i64 NQ2, .string (dI ++ da), .string dO, .bool dF]) rfl (by kernel_rfl) (by kernel_rfl) (by kernel_rfl) (fun _ _ _ h => h) (yieldsIf_load_mid (by rfl) 24 _ rfl (w.heap.size) 0 rfl [.string dm, .int .i64 di1, .int .i64 dp1, .int .i64 dd, .int .i64 ds, .int .i64 du, .int .i64 dn, .int .i64 NQ2, .string (dI ++ da), .string dO, .bool dF] _ (fun _ h => h.c.cl) Try.underlying24 rfl rfl) (by assumption) ?rest1001
  refine wpAnyH_take (i := 1) (v := .agg #[.string dm, .int .i64 di1, .int .i64 dp1, .int .i64 dd, .int .i64 ds, .int .i64 du, .int .i64 dn, .int .i64 NQ2, .string (dI ++ da), .string dO, .bool dF]) rfl (by kernel_rfl) (by kernel_rfl) (by kernel_rfl) (fun _ _ _ h => h) (yieldsIf_load_mid (by rfl) 24 _ rfl (w.heap.size) 0 rfl [.string dm, .int .i64 di1, .int .i64 dp1, .int .i64 dd, .int .i64 ds, .int .i64 du, .int .i64 dn, .int .i64 NQ2, .string (dI ++ da), .string dO, .bool dF] _ (fun _ h => h.c.cl) Try.underlying24 rfl rfl) (by assumption) ?rest1002
  refine wpAnyH_take (i := 2) (v := ?v1003) rfl (by kernel_rfl) (by kernel_rfl) (by kernel_rfl) (fun _ _ _ h => h) (Or.inl ⟨by rfl, ?hy1003⟩) (by assumption) ?rest1003
  case hy1003 => (intro w hSw; (try dsimp only at hSw); go_simp; (try with_reducible rfl))
  refine wpAnyH_take (i := 3) (v := .int .i64 dn) rfl (by kernel_rfl) (by kernel_rfl) (by kernel_rfl) (fun _ _ _ h => h) (Or.inl ⟨by rfl, ?hy1004⟩) (by assumption) ?rest1004
  case hy1004 =>
    intro wz hSw
    have hf := hSw.c.cell 6 rfl
    go_simp
  refine wpAnyH_ready (rs := [4]) (by kernel_rfl) (by simp) ?_
  refine AllReadyH.cons rfl (fun K hK => ?_) ?_
  · go_simp
    go_at_call 77
    with_reducible refine (TA.out _).mono ?_
    rintro e w6 ⟨rfl, g6⟩
    have hs6 : w.heap.size + 3 ≤ w6.heap.size := Nat.le_trans (by simpa using hs5) g6.below.size
    have L6 : Hid (XQ (w.heap.size) [.string dm, .int .i64 di1, .int .i64 dp1, .int .i64 dd, .int .i64 ds, .int .i64 du, .int .i64 dn, .int .i64 NQ2, .string (dI ++ da), .string dO, .bool dF] w w6) := SS.out.below g6.below
    have R6 : Hid (Bx w6 (w.heap.size + 1 + 1) [.string ⟨#[]⟩, .int .i64 0, .int .i64 0, .int .i64 0, .int .i64 0, .int .i64 0, .int .i64 0, .int .i64 0, .string ⟨#[]⟩, .string ⟨#[]⟩, .bool false]) := RS.out.below g6.below
    have LA : Hid (XQ (w.heap.size) [.string dm, .int .i64 di1, .int .i64 dp1, .int .i64 dd, .int .i64 ds, .int .i64 du, .int .i64 dn, .int .i64 NQ2, .string (dI ++ da), .string dO, .bool dF] w (w6.alloc (.cells #[.int .i64 80, .int .i64 dp1, .int .i64 dn, .int .i64 NQ2, .int .i64 16, .int .i64 1000, .string ⟨#[]⟩] 27))) := L6.out.below ((Below.refl _ _).alloc (Nat.le_refl _) _)
    clear g6 SS RS
    refine hK.out _ _ ?_ (fun hH1005 => ?_)
    · (try dsimp only)
      first | (with_reducible exact L6.out) | (with_reducible exact LA.out) | (with_reducible exact F8.out.1) | (with_reducible exact F8.out.2)
    clear hK K hH0
    refine wpAnyH_ready (rs := [5, 6]) (by kernel_rfl) (by simp) ?_
    refine AllReadyH.cons rfl (fun K hK => ?_) ?_
    · go_simp
      refine hK.out _ _ ?_ (fun hH1006 => ?_)
      · (try dsimp only)
        first | (with_reducible exact L6.out) | (with_reducible exact LA.out) | (with_reducible exact F8.out.1) | (with_reducible exact F8.out.2)
      clear hK K hH1005
      refine wpAnyH_ready (rs := [6]) (by kernel_rfl) (by simp) ?_
      refine AllReadyH.cons rfl (fun K hK => ?_) ?_
      · skip
        refine wpr_put rfl _ _ rfl (w.heap.size + 1 + 1) _ rfl rfl (R6.out.below ((Below.refl _ _).alloc (Nat.le_refl _) (.cells #[.int .i64 80, .int .i64 dp1, .int .i64 dn, .int .i64 NQ2, .int .i64 16, .int .i64 1000, .string ⟨#[]⟩] 27))) rfl rfl rfl ?_
        intro w8 hw8 R8
        have F8 : Hid (XQ (w.heap.size) [.string dm, .int .i64 di1, .int .i64 dp1, .int .i64 dd, .int .i64 ds, .int .i64 du, .int .i64 dn, .int .i64 NQ2, .string (dI ++ da), .string dO, .bool dF] w w8 ∧ OwnS sgG 7 27 w8 w.heap.size (.slice (some ⟨w6.heap.size, 0, none⟩) 1 1) [⟨80, dp1, dn, NQ2, 16, 1000, ⟨#[]⟩⟩]) := by
          rw [hw8]
          exact ⟨LA.out.cells (by omega) (by omega), (own_cells (by omega) _ _ _ (own1 w6 (w.heap.size + 3) 80 dp1 dn NQ2 16 1000 ⟨#[]⟩ hs6)).lower (by omega)⟩
        clear hw8
        refine hK.out _ _ ?_ (fun hH1007 => ?_)
        · (try dsimp only)
          first | (with_reducible exact L6.out) | (with_reducible exact LA.out) | (with_reducible exact F8.out.1) | (with_reducible exact F8.out.2)
        clear hK K hH1006
        refine wpAnyH_take (i := 7) (v := ?v1008) rfl (by kernel_rfl) (by kernel_rfl) (by kernel_rfl) (fun _ _ _ h => h) (Or.inl ⟨by rfl, ?hy1008⟩) (by assumption) ?rest1008
        case hy1008 => (intro w hSw; (try dsimp only at hSw); go_simp; (try with_reducible rfl))
        refine wpAnyH_done (by kernel_rfl) ?_ _
        have O9 : Hid (OwnS sgG 7 27 w8 w.heap.size (.slice (some ⟨w6.heap.size, 0, none⟩) 1 1) [⟨80, dp1, dn, NQ2, 16, 1000, ⟨#[]⟩⟩] ∧ Below w.heap.size w w8) := ⟨F8.out.2, F8.out.1.out⟩
        have R9 := R8
        clear hH1007
        go_wp2
        have xx0 : w8.cell? ⟨w.heap.size + 1 + 1, 0, none⟩ = some (.string dm) := R9.cell 0 rfl
        have xx1 : w8.cell? ⟨w.heap.size + 1 + 1, 1, none⟩ = some (.int .i64 di1) := R9.cell 1 rfl
        have xx2 : w8.cell? ⟨w.heap.size + 1 + 1, 2, none⟩ = some (.int .i64 dp1) := R9.cell 2 rfl
        have xx3 : w8.cell? ⟨w.heap.size + 1 + 1, 3, none⟩ = some (.int .i64 dd) := R9.cell 3 rfl
        have xx4 : w8.cell? ⟨w.heap.size + 1 + 1, 4, none⟩ = some (.int .i64 ds) := R9.cell 4 rfl
        have xx5 : w8.cell? ⟨w.heap.size + 1 + 1, 5, none⟩ = some (.int .i64 du) := R9.cell 5 rfl
        have xx6 : w8.cell? ⟨w.heap.size + 1 + 1, 6, none⟩ = some (.int .i64 dn) := R9.cell 6 rfl
        have xx7 : w8.cell? ⟨w.heap.size + 1 + 1, 7, none⟩ = some (.int .i64 NQ2) := R9.cell 7 rfl
        have xx8 : w8.cell? ⟨w.heap.size + 1 + 1, 8, none⟩ = some (.string (dI ++ da)) := R9.cell 8 rfl
        have xx9 : w8.cell? ⟨w.heap.size + 1 + 1, 9, none⟩ = some (.string dO) := R9.cell 9 rfl
        have xx10 : w8.cell? ⟨w.heap.size + 1 + 1, 10, none⟩ = some (.bool dF) := R9.cell 10 rfl
        (try simp only [Exit.inBlock, Exit.then])
        refine bodyPost_ret (v := .tuple #[.agg #[.string dm, .int .i64 di1, .int .i64 dp1, .int .i64 dd, .int .i64 ds, .int .i64 du, .int .i64 dn, .int .i64 NQ2, .string (dI ++ da), .string dO, .bool dF], .slice (some ⟨w6.heap.size, 0, none⟩) 1 1]) (by simp [results, Try.results37, go_sem, xx0, xx1, xx2, xx3, xx4, xx5, xx6, xx7, xx8, xx9, xx10]; try rfl) rfl ?_
        exact ⟨_, rfl, O9.out.1, O9.out.2⟩
      exact AllReadyH.nil
    refine AllReadyH.cons rfl (fun K hK => ?_) ?_
    · skip
      refine wpr_put rfl _ _ rfl (w.heap.size + 1 + 1) _ rfl rfl R6.out rfl rfl rfl ?_
      intro w8 hw8 R8
      have hz8 : w.heap.size ≤ w8.heap.size := by
        have := World.block_lt_of_cell? w8 _ (R8.cell 0 rfl)
        dsimp only at this
        omega
      have F8 : Hid (XQ (w.heap.size) [.string dm, .int .i64 di1, .int .i64 dp1, .int .i64 dd, .int .i64 ds, .int .i64 du, .int .i64 dn, .int .i64 NQ2, .string (dI ++ da), .string dO, .bool dF] w w8 ∧ XQ (w.heap.size) [.string dm, .int .i64 di1, .int .i64 dp1, .int .i64 dd, .int .i64 ds, .int .i64 du, .int .i64 dn, .int .i64 NQ2, .string (dI ++ da), .string dO, .bool dF] w (w8.alloc (.cells #[.int .i64 80, .int .i64 dp1, .int .i64 dn, .int .i64 NQ2, .int .i64 16, .int .i64 1000, .string ⟨#[]⟩] 27))) := by
        have h : XQ (w.heap.size) [.string dm, .int .i64 di1, .int .i64 dp1, .int .i64 dd, .int .i64 ds, .int .i64 du, .int .i64 dn, .int .i64 NQ2, .string (dI ++ da), .string dO, .bool dF] w w8 := by rw [hw8]; exact L6.out.cells (by omega) (by omega)
        exact ⟨h, h.below ((Below.refl _ _).alloc (Nat.le_refl _) _)⟩
      clear hw8
      refine hK.out _ _ ?_ (fun hH1009 => ?_)
      · (try dsimp only)
        first | (with_reducible exact L6.out) | (with_reducible exact LA.out) | (with_reducible exact F8.out.1) | (with_reducible exact F8.out.2)
      clear hK K hH1005
      refine wpAnyH_ready (rs := [5]) (by kernel_rfl) (by simp) ?_
      refine AllReadyH.cons rfl (fun K hK => ?_) ?_
      · go_simp
        refine hK.out _ _ ?_ (fun hH1010 => ?_)
        · (try dsimp only)
          first | (with_reducible exact L6.out) | (with_reducible exact LA.out) | (with_reducible exact F8.out.1) | (with_reducible exact F8.out.2)
        clear hK K hH1009
        refine wpAnyH_take (i := 7) (v := ?v1011) rfl (by kernel_rfl) (by kernel_rfl) (by kernel_rfl) (fun _ _ _ h => h) (Or.inl ⟨by rfl, ?hy1011⟩) (by assumption) ?rest1011
        case hy1011 => (intro w hSw; (try dsimp only at hSw); go_simp; (try with_reducible rfl))
        refine wpAnyH_done (by kernel_rfl) ?_ _
        have O9 : Hid (OwnS sgG 7 27 (w8.alloc (.cells #[.int .i64 80, .int .i64 dp1, .int .i64 dn, .int .i64 NQ2, .int .i64 16, .int .i64 1000, .string ⟨#[]⟩] 27)) w.heap.size (.slice (some ⟨w8.heap.size, 0, none⟩) 1 1) [⟨80, dp1, dn, NQ2, 16, 1000, ⟨#[]⟩⟩] ∧ Below w.heap.size w (w8.alloc (.cells #[.int .i64 80, .int .i64 dp1, .int .i64 dn, .int .i64 NQ2, .int .i64 16, .int .i64 1000, .string ⟨#[]⟩] 27))) := ⟨own1 w8 _ 80 dp1 dn NQ2 16 1000 ⟨#[]⟩ hz8, F8.out.2.out⟩
        have R9 := R8.below ((Below.refl _ _).alloc (Nat.le_refl _) (.cells #[.int .i64 80, .int .i64 dp1, .int .i64 dn, .int .i64 NQ2, .int .i64 16, .int .i64 1000, .string ⟨#[]⟩] 27))
        clear hH1010
        generalize (w8.alloc (.cells #[.int .i64 80, .int .i64 dp1, .int .i64 dn, .int .i64 NQ2, .int .i64 16, .int .i64 1000, .string ⟨#[]⟩] 27)) = w9 at O9 R9 ⊢
        go_wp2
        have xx0 : w9.cell? ⟨w.heap.size + 1 + 1, 0, none⟩ = some (.string dm) := R9.cell 0 rfl
        have xx1 : w9.cell? ⟨w.heap.size + 1 + 1, 1, none⟩ = some (.int .i64 di1) := R9.cell 1 rfl
        have xx2 : w9.cell? ⟨w.heap.size + 1 + 1, 2, none⟩ = some (.int .i64 dp1) := R9.cell 2 rfl
        have xx3 : w9.cell? ⟨w.heap.size + 1 + 1, 3, none⟩ = some (.int .i64 dd) := R9.cell 3 rfl
        have xx4 : w9.cell? ⟨w.heap.size + 1 + 1, 4, none⟩ = some (.int .i64 ds) := R9.cell 4 rfl
        have xx5 : w9.cell? ⟨w.heap.size + 1 + 1, 5, none⟩ = some (.int .i64 du) := R9.cell 5 rfl
        have xx6 : w9.cell? ⟨w.heap.size + 1 + 1, 6, none⟩ = some (.int .i64 dn) := R9.cell 6 rfl
        have xx7 : w9.cell? ⟨w.heap.size + 1 + 1, 7, none⟩ = some (.int .i64 NQ2) := R9.cell 7 rfl
        have xx8 : w9.cell? ⟨w.heap.size + 1 + 1, 8, none⟩ = some (.string (dI ++ da)) := R9.cell 8 rfl
        have xx9 : w9.cell? ⟨w.heap.size + 1 + 1, 9, none⟩ = some (.string dO) := R9.cell 9 rfl
        have xx10 : w9.cell? ⟨w.heap.size + 1 + 1, 10, none⟩ = some (.bool dF) := R9.cell 10 rfl
        (try simp only [Exit.inBlock, Exit.then])
        refine bodyPost_ret (v := .tuple #[.agg #[.string dm, .int .i64 di1, .int .i64 dp1, .int .i64 dd, .int .i64 ds, .int .i64 du, .int .i64 dn, .int .i64 NQ2, .string (dI ++ da), .string dO, .bool dF], .slice (some ⟨w8.heap.size, 0, none⟩) 1 1]) (by simp [results, Try.results37, go_sem, xx0, xx1, xx2, xx3, xx4, xx5, xx6, xx7, xx8, xx9, xx10]; try rfl) rfl ?_
        exact ⟨_, rfl, O9.out.1, O9.out.2⟩
      exact AllReadyH.nil
    exact AllReadyH.nil
  exact AllReadyH.nil
end Go.Proofs.Ytfgghffgfefgpaa
