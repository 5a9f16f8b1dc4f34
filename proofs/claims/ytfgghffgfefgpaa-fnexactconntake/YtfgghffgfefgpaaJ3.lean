/- ConnTake: l10Take of the model: an end alone that is not taken in. ConnTake: the ways put together. ConnTake: what is taken in (the program). -/
import Derived.Test.YtfgghffgfefgpaaJ1
import Derived.Test.YtfgghffgfefgpaaJ2
namespace Go.Proofs.Ytfgghffgfefgpaa
open Go.RowKit Go.PlainAid Go.Proofs.Ytfgghffgfefgpaa.Bt Go.Sort
set_option linter.unusedVariables false
set_option maxRecDepth 20000
set_option maxHeartbeats 16000000 in
theorem tkNb_any (mc : ByteArray) (ip po di st un nx wa : Int) (inn out : ByteArray) (fin : Bool) (sp dp sq ac fl wi : Int) (da : ByteArray) (dm : ByteArray) (di1 dp1 dd ds du dn dw : Int) (dI dO : ByteArray) (dF : Bool) (w : World) (t4 : (st == 4) = false) (f4 : (bits BinOp.and IntKind.i64 fl 4 != 0) = false) (f2 : (bits BinOp.and IntKind.i64 fl 2 != 0) = false) (f16 : (bits BinOp.and IntKind.i64 fl 16 == 0) = false) (TK0 : ∀ w, Calls Try.prog 78 #[.agg #[.string mc, .int .i64 ip, .int .i64 po, .int .i64 di, .int .i64 st, .int .i64 un, .int .i64 nx, .int .i64 wa, .string inn, .string out, .bool fin], .int .i64 ac] w fun e w' => e = .returned (.agg #[.string dm, .int .i64 di1, .int .i64 dp1, .int .i64 dd, .int .i64 ds, .int .i64 du, .int .i64 dn, .int .i64 dw, .string dI, .string dO, .bool dF]) ∧ Below w.heap.size w w') (u1 : (ds == 1) = false) (u4 : (ds == 4) = false) (ed : (da.toList == []) = true) (f1 : (bits BinOp.and IntKind.i64 fl 1 == 0) = false) (q : (sq == dw) = false) :
    Calls Try.prog 37 #[.agg #[.string mc, .int .i64 ip, .int .i64 po, .int .i64 di, .int .i64 st, .int .i64 un, .int .i64 nx, .int .i64 wa, .string inn, .string out, .bool fin], .agg #[.int .i64 sp, .int .i64 dp, .int .i64 sq, .int .i64 ac, .int .i64 fl, .int .i64 wi, .string da]] w fun e w' => ∃ v, e = .returned (.tuple #[.agg #[.string dm, .int .i64 di1, .int .i64 dp1, .int .i64 dd, .int .i64 ds, .int .i64 du, .int .i64 dn, .int .i64 dw, .string dI, .string dO, .bool dF], v]) ∧ OwnS sgG 7 27 w' w.heap.size v [⟨80, dp1, dn, dw, 16, 1000, ⟨#[]⟩⟩] ∧ Below w.heap.size w w' := by
  have TK : Hid _ := TK0
  clear TK0
  have TA : Hid (∀ w, Calls Try.prog 77 #[.agg #[.string dm, .int .i64 di1, .int .i64 dp1, .int .i64 dd, .int .i64 ds, .int .i64 du, .int .i64 dn, .int .i64 dw, .string dI, .string dO, .bool dF], .int .i64 dn, .int .i64 16, .string ⟨#[]⟩] w fun e w' => e = .returned (.agg #[.int .i64 80, .int .i64 dp1, .int .i64 dn, .int .i64 dw, .int .i64 16, .int .i64 1000, .string ⟨#[]⟩]) ∧ Grw w w') := fun w => l10Reply_any dm di1 dp1 dd ds du dn dw dI dO dF dn 16 ⟨#[]⟩ w
  have C9 : Bx (((w.alloc (.cells #[.string mc, .int .i64 ip, .int .i64 po, .int .i64 di, .int .i64 st, .int .i64 un, .int .i64 nx, .int .i64 wa, .string inn, .string out, .bool fin] 24)).alloc (.cells #[.int .i64 sp, .int .i64 dp, .int .i64 sq, .int .i64 ac, .int .i64 fl, .int .i64 wi, .string da] 27)).alloc (.cells #[.string ⟨#[]⟩, .int .i64 0, .int .i64 0, .int .i64 0, .int .i64 0, .int .i64 0, .int .i64 0, .int .i64 0, .string ⟨#[]⟩, .string ⟨#[]⟩, .bool false] 24)) w.heap.size [.string mc, .int .i64 ip, .int .i64 po, .int .i64 di, .int .i64 st, .int .i64 un, .int .i64 nx, .int .i64 wa, .string inn, .string out, .bool fin] := ((Bx.new w _ _).below ((Below.refl _ _).alloc (Nat.le_refl _) _)).below ((Below.refl _ _).alloc (Nat.le_refl _) _)
  have G9 : Bx (((w.alloc (.cells #[.string mc, .int .i64 ip, .int .i64 po, .int .i64 di, .int .i64 st, .int .i64 un, .int .i64 nx, .int .i64 wa, .string inn, .string out, .bool fin] 24)).alloc (.cells #[.int .i64 sp, .int .i64 dp, .int .i64 sq, .int .i64 ac, .int .i64 fl, .int .i64 wi, .string da] 27)).alloc (.cells #[.string ⟨#[]⟩, .int .i64 0, .int .i64 0, .int .i64 0, .int .i64 0, .int .i64 0, .int .i64 0, .int .i64 0, .string ⟨#[]⟩, .string ⟨#[]⟩, .bool false] 24)) (w.heap.size + 1) [.int .i64 sp, .int .i64 dp, .int .i64 sq, .int .i64 ac, .int .i64 fl, .int .i64 wi, .string da] := by
    have h := (Bx.new (w.alloc (.cells #[.string mc, .int .i64 ip, .int .i64 po, .int .i64 di, .int .i64 st, .int .i64 un, .int .i64 nx, .int .i64 wa, .string inn, .string out, .bool fin] 24)) #[.int .i64 sp, .int .i64 dp, .int .i64 sq, .int .i64 ac, .int .i64 fl, .int .i64 wi, .string da] 27).below ((Below.refl _ _).alloc (Nat.le_refl _) (.cells #[.string ⟨#[]⟩, .int .i64 0, .int .i64 0, .int .i64 0, .int .i64 0, .int .i64 0, .int .i64 0, .int .i64 0, .string ⟨#[]⟩, .string ⟨#[]⟩, .bool false] 24))
    rw [World.size_alloc] at h
    exact h
  have R9 : Bx (((w.alloc (.cells #[.string mc, .int .i64 ip, .int .i64 po, .int .i64 di, .int .i64 st, .int .i64 un, .int .i64 nx, .int .i64 wa, .string inn, .string out, .bool fin] 24)).alloc (.cells #[.int .i64 sp, .int .i64 dp, .int .i64 sq, .int .i64 ac, .int .i64 fl, .int .i64 wi, .string da] 27)).alloc (.cells #[.string ⟨#[]⟩, .int .i64 0, .int .i64 0, .int .i64 0, .int .i64 0, .int .i64 0, .int .i64 0, .int .i64 0, .string ⟨#[]⟩, .string ⟨#[]⟩, .bool false] 24)) (w.heap.size + 1 + 1) [.string ⟨#[]⟩, .int .i64 0, .int .i64 0, .int .i64 0, .int .i64 0, .int .i64 0, .int .i64 0, .int .i64 0, .string ⟨#[]⟩, .string ⟨#[]⟩, .bool false] := by
    have h := Bx.new ((w.alloc (.cells #[.string mc, .int .i64 ip, .int .i64 po, .int .i64 di, .int .i64 st, .int .i64 un, .int .i64 nx, .int .i64 wa, .string inn, .string out, .bool fin] 24)).alloc (.cells #[.int .i64 sp, .int .i64 dp, .int .i64 sq, .int .i64 ac, .int .i64 fl, .int .i64 wi, .string da] 27)) #[.string ⟨#[]⟩, .int .i64 0, .int .i64 0, .int .i64 0, .int .i64 0, .int .i64 0, .int .i64 0, .int .i64 0, .string ⟨#[]⟩, .string ⟨#[]⟩, .bool false] 24
    rw [World.size_alloc, World.size_alloc] at h
    exact h
  have B9 : Hid (Below w.heap.size w (((w.alloc (.cells #[.string mc, .int .i64 ip, .int .i64 po, .int .i64 di, .int .i64 st, .int .i64 un, .int .i64 nx, .int .i64 wa, .string inn, .string out, .bool fin] 24)).alloc (.cells #[.int .i64 sp, .int .i64 dp, .int .i64 sq, .int .i64 ac, .int .i64 fl, .int .i64 wi, .string da] 27)).alloc (.cells #[.string ⟨#[]⟩, .int .i64 0, .int .i64 0, .int .i64 0, .int .i64 0, .int .i64 0, .int .i64 0, .int .i64 0, .string ⟨#[]⟩, .string ⟨#[]⟩, .bool false] 24))) := ((((Below.refl _ _).alloc (Nat.le_refl _) _).alloc (by simp) _).alloc (by simp; omega) _)
  have C0 : Bx ((((w.alloc (.cells #[.string mc, .int .i64 ip, .int .i64 po, .int .i64 di, .int .i64 st, .int .i64 un, .int .i64 nx, .int .i64 wa, .string inn, .string out, .bool fin] 24)).alloc (.cells #[.int .i64 sp, .int .i64 dp, .int .i64 sq, .int .i64 ac, .int .i64 fl, .int .i64 wi, .string da] 27)).alloc (.cells #[.string ⟨#[]⟩, .int .i64 0, .int .i64 0, .int .i64 0, .int .i64 0, .int .i64 0, .int .i64 0, .int .i64 0, .string ⟨#[]⟩, .string ⟨#[]⟩, .bool false] 24)).alloc (.cells #[] 27)) w.heap.size [.string mc, .int .i64 ip, .int .i64 po, .int .i64 di, .int .i64 st, .int .i64 un, .int .i64 nx, .int .i64 wa, .string inn, .string out, .bool fin] := C9.below ((Below.refl _ _).alloc (Nat.le_refl _) _)
  have G0 : Bx ((((w.alloc (.cells #[.string mc, .int .i64 ip, .int .i64 po, .int .i64 di, .int .i64 st, .int .i64 un, .int .i64 nx, .int .i64 wa, .string inn, .string out, .bool fin] 24)).alloc (.cells #[.int .i64 sp, .int .i64 dp, .int .i64 sq, .int .i64 ac, .int .i64 fl, .int .i64 wi, .string da] 27)).alloc (.cells #[.string ⟨#[]⟩, .int .i64 0, .int .i64 0, .int .i64 0, .int .i64 0, .int .i64 0, .int .i64 0, .int .i64 0, .string ⟨#[]⟩, .string ⟨#[]⟩, .bool false] 24)).alloc (.cells #[] 27)) (w.heap.size + 1) [.int .i64 sp, .int .i64 dp, .int .i64 sq, .int .i64 ac, .int .i64 fl, .int .i64 wi, .string da] := G9.below ((Below.refl _ _).alloc (Nat.le_refl _) _)
  have R0 : Bx ((((w.alloc (.cells #[.string mc, .int .i64 ip, .int .i64 po, .int .i64 di, .int .i64 st, .int .i64 un, .int .i64 nx, .int .i64 wa, .string inn, .string out, .bool fin] 24)).alloc (.cells #[.int .i64 sp, .int .i64 dp, .int .i64 sq, .int .i64 ac, .int .i64 fl, .int .i64 wi, .string da] 27)).alloc (.cells #[.string ⟨#[]⟩, .int .i64 0, .int .i64 0, .int .i64 0, .int .i64 0, .int .i64 0, .int .i64 0, .int .i64 0, .string ⟨#[]⟩, .string ⟨#[]⟩, .bool false] 24)).alloc (.cells #[] 27)) (w.heap.size + 1 + 1) [.string ⟨#[]⟩, .int .i64 0, .int .i64 0, .int .i64 0, .int .i64 0, .int .i64 0, .int .i64 0, .int .i64 0, .string ⟨#[]⟩, .string ⟨#[]⟩, .bool false] := R9.below ((Below.refl _ _).alloc (Nat.le_refl _) _)
  have B0 : Hid (Below w.heap.size w ((((w.alloc (.cells #[.string mc, .int .i64 ip, .int .i64 po, .int .i64 di, .int .i64 st, .int .i64 un, .int .i64 nx, .int .i64 wa, .string inn, .string out, .bool fin] 24)).alloc (.cells #[.int .i64 sp, .int .i64 dp, .int .i64 sq, .int .i64 ac, .int .i64 fl, .int .i64 wi, .string da] 27)).alloc (.cells #[.string ⟨#[]⟩, .int .i64 0, .int .i64 0, .int .i64 0, .int .i64 0, .int .i64 0, .int .i64 0, .int .i64 0, .string ⟨#[]⟩, .string ⟨#[]⟩, .bool false] 24)).alloc (.cells #[] 27))) := (((((Below.refl _ _).alloc (Nat.le_refl _) _).alloc (by simp) _).alloc (by simp; omega) _).alloc (by simp; omega) _)
  have O0 : OwnS sgG 7 27 ((((w.alloc (.cells #[.string mc, .int .i64 ip, .int .i64 po, .int .i64 di, .int .i64 st, .int .i64 un, .int .i64 nx, .int .i64 wa, .string inn, .string out, .bool fin] 24)).alloc (.cells #[.int .i64 sp, .int .i64 dp, .int .i64 sq, .int .i64 ac, .int .i64 fl, .int .i64 wi, .string da] 27)).alloc (.cells #[.string ⟨#[]⟩, .int .i64 0, .int .i64 0, .int .i64 0, .int .i64 0, .int .i64 0, .int .i64 0, .int .i64 0, .string ⟨#[]⟩, .string ⟨#[]⟩, .bool false] 24)).alloc (.cells #[] 27)) (w.heap.size + 3) (.slice (some ⟨w.heap.size + 1 + 1 + 1, 0, none⟩) 0 0) [] := lit_at (by omega) (by simp)
  clear C9 G9 R9 B9
  go_enter Try.func37, Try.ntmps37
  go_wp2_with fail
  refine (TK.out _).mono ?_
  rintro e w1 ⟨rfl, b1⟩
  have C1 : Bx w1 w.heap.size [.string mc, .int .i64 ip, .int .i64 po, .int .i64 di, .int .i64 st, .int .i64 un, .int .i64 nx, .int .i64 wa, .string inn, .string out, .bool fin] := C0.below b1
  have G1 : Bx w1 (w.heap.size + 1) [.int .i64 sp, .int .i64 dp, .int .i64 sq, .int .i64 ac, .int .i64 fl, .int .i64 wi, .string da] := G0.below b1
  have R1 : Bx w1 (w.heap.size + 1 + 1) [.string ⟨#[]⟩, .int .i64 0, .int .i64 0, .int .i64 0, .int .i64 0, .int .i64 0, .int .i64 0, .int .i64 0, .string ⟨#[]⟩, .string ⟨#[]⟩, .bool false] := R0.below b1
  have B1 : Hid (Below w.heap.size w w1) := B0.out.trans (b1.mono B0.out.size)
  have O1 : OwnS sgG 7 27 w1 (w.heap.size + 3) (.slice (some ⟨w.heap.size + 1 + 1 + 1, 0, none⟩) 0 0) [] := O0.now b1
  clear b1 C0 G0 R0 B0 O0 TK
  dsimp only
  refine (by assumption : ∀ (a : Act) (w : World), wpList _ _ _ _ a w → _) _ _ ?_
  (refine wpl_put rfl _ _ rfl (w.heap.size) _ rfl rfl C1 rfl rfl rfl ?_; intro w3 hw3 C3; have G3 : Bx w3 (w.heap.size + 1) [.int .i64 sp, .int .i64 dp, .int .i64 sq, .int .i64 ac, .int .i64 fl, .int .i64 wi, .string da] := (by rw [hw3]; exact G1.apart _ (by omega)); have R3 : Bx w3 (w.heap.size + 1 + 1) [.string ⟨#[]⟩, .int .i64 0, .int .i64 0, .int .i64 0, .int .i64 0, .int .i64 0, .int .i64 0, .int .i64 0, .string ⟨#[]⟩, .string ⟨#[]⟩, .bool false] := (by rw [hw3]; exact R1.apart _ (by omega)); have B3 : Hid (Below w.heap.size w w3) := (by rw [hw3]; exact below_cells (Nat.le_refl _) _ _ _ B1.out); have O3 : Hid (OwnS sgG 7 27 w3 (w.heap.size + 3) (.slice (some ⟨w.heap.size + 1 + 1 + 1, 0, none⟩) 0 0) []) := (by rw [hw3]; exact own_cells (by omega) _ _ _ O1); have v4 : w3.cell? ⟨w.heap.size, 4, none⟩ = some (.int .i64 ds) := C3.cell 4 rfl; have v7 : w3.cell? ⟨w.heap.size, 7, none⟩ = some (.int .i64 dw) := C3.cell 7 rfl; have v8 : w3.cell? ⟨w.heap.size, 8, none⟩ = some (.string dI) := C3.cell 8 rfl; have z7 : w3.frozen? ⟨w.heap.size, 7, none⟩ = false := C3.thaw 7 (by simp); have z8 : w3.frozen? ⟨w.heap.size, 8, none⟩ = false := C3.thaw 8 (by simp); have k2 : w3.cell? ⟨w.heap.size + 1, 2, none⟩ = some (.int .i64 sq) := G3.cell 2 rfl; have k4 : w3.cell? ⟨w.heap.size + 1, 4, none⟩ = some (.int .i64 fl) := G3.cell 4 rfl; have k6 : w3.cell? ⟨w.heap.size + 1, 6, none⟩ = some (.string da) := G3.cell 6 rfl; clear hw3 C1 G1 R1 B1 O1)
  go_wp2_with fail
  have C5 := C3
  have R5 := R3
  have B5 := B3
  clear C3 R3 B3
  clear v4 v7 v8 z7 z8 k2 k4 k6 G3 O3
  generalize w3 = w5 at C5 R5 B5 ⊢
  have hs5 : w.heap.size + 3 ≤ w5.heap.size := by
    have := World.block_lt_of_cell? w5 _ (R5.cell 0 rfl)
    dsimp only at this
    omega
  have SS : Hid (XQ (w.heap.size) [.string dm, .int .i64 di1, .int .i64 dp1, .int .i64 dd, .int .i64 ds, .int .i64 du, .int .i64 dn, .int .i64 dw, .string dI, .string dO, .bool dF] w w5.drew) := ⟨C5.below ((Below.refl _ _).drew), B5.out.drew⟩
  have RS : Hid (Bx w5.drew (w.heap.size + 1 + 1) [.string ⟨#[]⟩, .int .i64 0, .int .i64 0, .int .i64 0, .int .i64 0, .int .i64 0, .int .i64 0, .int .i64 0, .string ⟨#[]⟩, .string ⟨#[]⟩, .bool false]) := R5.below ((Below.refl _ _).drew)
  clear C5 R5 B5
  refine wp_region_held_drew (S := (fun wx => XQ (w.heap.size) [.string dm, .int .i64 di1, .int .i64 dp1, .int .i64 dd, .int .i64 ds, .int .i64 du, .int .i64 dn, .int .i64 dw, .string dI, .string dO, .bool dF] w wx)) (by kernel_rfl) ?_ (fun hH0 => ?_)
  · with_reducible exact SS.out
  refine wpAnyH_take (i := 0) (v := .agg #[.string dm, .int .i64 di1, .int .i64 dp1, .int .i64 dd, .int .i64 ds, .int .i64 du, .int .i64 dn, .int .i64 dw, .string dI, .string dO, .bool dF]) rfl (by kernel_rfl) (by kernel_rfl) (by kernel_rfl) (fun _ _ _ h => h) (yieldsIf_load_mid (by rfl) 24 _ rfl (w.heap.size) 0 rfl [.string dm, .int .i64 di1, .int .i64 dp1, .int .i64 dd, .int .i64 ds, .int .i64 du, .int .i64 dn, .int .i64 dw, .string dI, .string dO, .bool dF] _ (fun _ h => h.c.cl) Try.underlying24 rfl rfl) (by assumption) ?rest1001
  refine wpAnyH_take (i := 1) (v := .agg #[.string dm, .int .i64 di1, .int .i64 dp1, .int .i64 dd, .int .i64 ds, .int .i64 du, .int .i64 dn, .int .i64 dw, .string dI, .string dO, .bool dF]) rfl (by kernel_rfl) (by kernel_rfl) (by kernel_rfl) (fun _ _ _ h => h) (yieldsIf_load_mid (by rfl) 24 _ rfl (w.heap.size) 0 rfl [.string dm, .int .i64 di1, .int .i64 dp1, .int .i64 dd, .int .i64 ds, .int .i64 du, .int .i64 dn, .int .i64 dw, .string dI, .string dO, .bool dF] _ (fun _ h => h.c.cl) Try.underlying24 rfl rfl) (by assumption) ?rest1002
  refine wpAnyH_take (i := 2) (v := ?v1003) rfl (by kernel_rfl) (by kernel_rfl) (by kernel_rfl) (fun _ _ _ h => h) (Or.inl ⟨by rfl, ?hy1003⟩) (by assumption) ?rest1003
  case hy1003 => (intro w hSw; (try dsimp only at hSw); go_simp; (try with_reducible rfl))
  refine wpAnyH_take (i := 3) (v := .int .i64 dn) rfl (by kernel_rfl) (by kernel_rfl) (by kernel_rfl) (fun _ _ _ h => h) (Or.inl ⟨by rfl, ?hy1004⟩) (by assumption) ?rest1004
  case hy1004 =>
    intro wz hSw
    have hf := hSw.c.cell 6 rfl
    go_simp
  refine wpAnyH_ready (rs := [4]) (by kernel_rfl) (by simp) ?_
  refine AllReadyH.cons rfl (fun K hK => ?_) ?_
  · go_simp
    go_at_call 77
    with_reducible refine (TA.out _).mono ?_
    rintro e w6 ⟨rfl, g6⟩
    have hs6 : w.heap.size + 3 ≤ w6.heap.size := Nat.le_trans (by simpa using hs5) g6.below.size
    have L6 : Hid (XQ (w.heap.size) [.string dm, .int .i64 di1, .int .i64 dp1, .int .i64 dd, .int .i64 ds, .int .i64 du, .int .i64 dn, .int .i64 dw, .string dI, .string dO, .bool dF] w w6) := SS.out.below g6.below
    have R6 : Hid (Bx w6 (w.heap.size + 1 + 1) [.string ⟨#[]⟩, .int .i64 0, .int .i64 0, .int .i64 0, .int .i64 0, .int .i64 0, .int .i64 0, .int .i64 0, .string ⟨#[]⟩, .string ⟨#[]⟩, .bool false]) := RS.out.below g6.below
    have LA : Hid (XQ (w.heap.size) [.string dm, .int .i64 di1, .int .i64 dp1, .int .i64 dd, .int .i64 ds, .int .i64 du, .int .i64 dn, .int .i64 dw, .string dI, .string dO, .bool dF] w (w6.alloc (.cells #[.int .i64 80, .int .i64 dp1, .int .i64 dn, .int .i64 dw, .int .i64 16, .int .i64 1000, .string ⟨#[]⟩] 27))) := L6.out.below ((Below.refl _ _).alloc (Nat.le_refl _) _)
    clear g6 SS RS
    refine hK.out _ _ ?_ (fun hH1005 => ?_)
    · (try dsimp only)
      first | (with_reducible exact L6.out) | (with_reducible exact LA.out) | (with_reducible exact F8.out.1) | (with_reducible exact F8.out.2)
    clear hK K hH0
    refine wpAnyH_ready (rs := [5, 6]) (by kernel_rfl) (by simp) ?_
    refine AllReadyH.cons rfl (fun K hK => ?_) ?_
    · go_simp
      refine hK.out _ _ ?_ (fun hH1006 => ?_)
      · (try dsimp only)
        first | (with_reducible exact L6.out) | (with_reducible exact LA.out) | (with_reducible exact F8.out.1) | (with_reducible exact F8.out.2)
      clear hK K hH1005
      refine wpAnyH_ready (rs := [6]) (by kernel_rfl) (by simp) ?_
      refine AllReadyH.cons rfl (fun K hK => ?_) ?_
      · skip
        refine wpr_put rfl _ _ rfl (w.heap.size + 1 + 1) _ rfl rfl (R6.out.below ((Below.refl _ _).alloc (Nat.le_refl _) (.cells #[.int .i64 80, .int .i64 dp1, .int .i64 dn, .int .i64 dw, .int .i64 16, .int .i64 1000, .string ⟨#[]⟩] 27))) rfl rfl rfl ?_
        intro w8 hw8 R8
        have F8 : Hid (XQ (w.heap.size) [.string dm, .int .i64 di1, .int .i64 dp1, .int .i64 dd, .int .i64 ds, .int .i64 du, .int .i64 dn, .int .i64 dw, .string dI, .string dO, .bool dF] w w8 ∧ OwnS sgG 7 27 w8 w.heap.size (.slice (some ⟨w6.heap.size, 0, none⟩) 1 1) [⟨80, dp1, dn, dw, 16, 1000, ⟨#[]⟩⟩]) := by
          rw [hw8]
          exact ⟨LA.out.cells (by omega) (by omega), (own_cells (by omega) _ _ _ (own1 w6 (w.heap.size + 3) 80 dp1 dn dw 16 1000 ⟨#[]⟩ hs6)).lower (by omega)⟩
        clear hw8
        refine hK.out _ _ ?_ (fun hH1007 => ?_)
        · (try dsimp only)
          first | (with_reducible exact L6.out) | (with_reducible exact LA.out) | (with_reducible exact F8.out.1) | (with_reducible exact F8.out.2)
        clear hK K hH1006
        refine wpAnyH_take (i := 7) (v := ?v1008) rfl (by kernel_rfl) (by kernel_rfl) (by kernel_rfl) (fun _ _ _ h => h) (Or.inl ⟨by rfl, ?hy1008⟩) (by assumption) ?rest1008
        case hy1008 => (intro w hSw; (try dsimp only at hSw); go_simp; (try with_reducible rfl))
        refine wpAnyH_done (by kernel_rfl) ?_ _
        have O9 : Hid (OwnS sgG 7 27 w8 w.heap.size (.slice (some ⟨w6.heap.size, 0, none⟩) 1 1) [⟨80, dp1, dn, dw, 16, 1000, ⟨#[]⟩⟩] ∧ Below w.heap.size w w8) := ⟨F8.out.2, F8.out.1.out⟩
        have R9 := R8
        clear hH1007
        go_wp2
        have xx0 : w8.cell? ⟨w.heap.size + 1 + 1, 0, none⟩ = some (.string dm) := R9.cell 0 rfl
        have xx1 : w8.cell? ⟨w.heap.size + 1 + 1, 1, none⟩ = some (.int .i64 di1) := R9.cell 1 rfl
        have xx2 : w8.cell? ⟨w.heap.size + 1 + 1, 2, none⟩ = some (.int .i64 dp1) := R9.cell 2 rfl
        have xx3 : w8.cell? ⟨w.heap.size + 1 + 1, 3, none⟩ = some (.int .i64 dd) := R9.cell 3 rfl
        have xx4 : w8.cell? ⟨w.heap.size + 1 + 1, 4, none⟩ = some (.int .i64 ds) := R9.cell 4 rfl
        have xx5 : w8.cell? ⟨w.heap.size + 1 + 1, 5, none⟩ = some (.int .i64 du) := R9.cell 5 rfl
        have xx6 : w8.cell? ⟨w.heap.size + 1 + 1, 6, none⟩ = some (.int .i64 dn) := R9.cell 6 rfl
        have xx7 : w8.cell? ⟨w.heap.size + 1 + 1, 7, none⟩ = some (.int .i64 dw) := R9.cell 7 rfl
        have xx8 : w8.cell? ⟨w.heap.size + 1 + 1, 8, none⟩ = some (.string dI) := R9.cell 8 rfl
        have xx9 : w8.cell? ⟨w.heap.size + 1 + 1, 9, none⟩ = some (.string dO) := R9.cell 9 rfl
        have xx10 : w8.cell? ⟨w.heap.size + 1 + 1, 10, none⟩ = some (.bool dF) := R9.cell 10 rfl
        (try simp only [Exit.inBlock, Exit.then])
        refine bodyPost_ret (v := .tuple #[.agg #[.string dm, .int .i64 di1, .int .i64 dp1, .int .i64 dd, .int .i64 ds, .int .i64 du, .int .i64 dn, .int .i64 dw, .string dI, .string dO, .bool dF], .slice (some ⟨w6.heap.size, 0, none⟩) 1 1]) (by simp [results, Try.results37, go_sem, xx0, xx1, xx2, xx3, xx4, xx5, xx6, xx7, xx8, xx9, xx10]; try rfl) rfl ?_
        exact ⟨_, rfl, O9.out.1, O9.out.2⟩
      exact AllReadyH.nil
    refine AllReadyH.cons rfl (fun K hK => ?_) ?_
    · skip
      refine wpr_put rfl _ _ rfl (w.heap.size + 1 + 1) _ rfl rfl R6.out rfl rfl rfl ?_
      intro w8 hw8 R8
      have hz8 : w.heap.size ≤ w8.heap.size := by
        have := World.block_lt_of_cell? w8 _ (R8.cell 0 rfl)
        dsimp only at this
        omega
      have F8 : Hid (XQ (w.heap.size) [.string dm, .int .i64 di1, .int .i64 dp1, .int .i64 dd, .int .i64 ds, .int .i64 du, .int .i64 dn, .int .i64 dw, .string dI, .string dO, .bool dF] w w8 ∧ XQ (w.heap.size) [.string dm, .int .i64 di1, .int .i64 dp1, .int .i64 dd, .int .i64 ds, .int .i64 du, .int .i64 dn, .int .i64 dw, .string dI, .string dO, .bool dF] w (w8.alloc (.cells #[.int .i64 80, .int .i64 dp1, .int .i64 dn, .int .i64 dw, .int .i64 16, .int .i64 1000, .string ⟨#[]⟩] 27))) := by
        have h : XQ (w.heap.size) [.string dm, .int .i64 di1, .int .i64 dp1, .int .i64 dd, .int .i64 ds, .int .i64 du, .int .i64 dn, .int .i64 dw, .string dI, .string dO, .bool dF] w w8 := by rw [hw8]; exact L6.out.cells (by omega) (by omega)
        exact ⟨h, h.below ((Below.refl _ _).alloc (Nat.le_refl _) _)⟩
      clear hw8
      refine hK.out _ _ ?_ (fun hH1009 => ?_)
      · (try dsimp only)
        first | (with_reducible exact L6.out) | (with_reducible exact LA.out) | (with_reducible exact F8.out.1) | (with_reducible exact F8.out.2)
      clear hK K hH1005
      refine wpAnyH_ready (rs := [5]) (by kernel_rfl) (by simp) ?_
      refine AllReadyH.cons rfl (fun K hK => ?_) ?_
      · go_simp
        refine hK.out _ _ ?_ (fun hH1010 => ?_)
        · (try dsimp only)
          first | (with_reducible exact L6.out) | (with_reducible exact LA.out) | (with_reducible exact F8.out.1) | (with_reducible exact F8.out.2)
        clear hK K hH1009
        refine wpAnyH_take (i := 7) (v := ?v1011) rfl (by kernel_rfl) (by kernel_rfl) (by kernel_rfl) (fun _ _ _ h => h) (Or.inl ⟨by rfl, ?hy1011⟩) (by assumption) ?rest1011
        case hy1011 => (intro w hSw; (try dsimp only at hSw); go_simp; (try with_reducible rfl))
        refine wpAnyH_done (by kernel_rfl) ?_ _
        have O9 : Hid (OwnS sgG 7 27 (w8.alloc (.cells #[.int .i64 80, .int .i64 dp1, .int .i64 dn, .int .i64 dw, .int .i64 16, .int .i64 1000, .string ⟨#[]⟩] 27)) w.heap.size (.slice (some ⟨w8.heap.size, 0, none⟩) 1 1) [⟨80, dp1, dn, dw, 16, 1000, ⟨#[]⟩⟩] ∧ Below w.heap.size w (w8.alloc (.cells #[.int .i64 80, .int .i64 dp1, .int .i64 dn, .int .i64 dw, .int .i64 16, .int .i64 1000, .string ⟨#[]⟩] 27))) := ⟨own1 w8 _ 80 dp1 dn dw 16 1000 ⟨#[]⟩ hz8, F8.out.2.out⟩
        have R9 := R8.below ((Below.refl _ _).alloc (Nat.le_refl _) (.cells #[.int .i64 80, .int .i64 dp1, .int .i64 dn, .int .i64 dw, .int .i64 16, .int .i64 1000, .string ⟨#[]⟩] 27))
        clear hH1010
        generalize (w8.alloc (.cells #[.int .i64 80, .int .i64 dp1, .int .i64 dn, .int .i64 dw, .int .i64 16, .int .i64 1000, .string ⟨#[]⟩] 27)) = w9 at O9 R9 ⊢
        go_wp2
        have xx0 : w9.cell? ⟨w.heap.size + 1 + 1, 0, none⟩ = some (.string dm) := R9.cell 0 rfl
        have xx1 : w9.cell? ⟨w.heap.size + 1 + 1, 1, none⟩ = some (.int .i64 di1) := R9.cell 1 rfl
        have xx2 : w9.cell? ⟨w.heap.size + 1 + 1, 2, none⟩ = some (.int .i64 dp1) := R9.cell 2 rfl
        have xx3 : w9.cell? ⟨w.heap.size + 1 + 1, 3, none⟩ = some (.int .i64 dd) := R9.cell 3 rfl
        have xx4 : w9.cell? ⟨w.heap.size + 1 + 1, 4, none⟩ = some (.int .i64 ds) := R9.cell 4 rfl
        have xx5 : w9.cell? ⟨w.heap.size + 1 + 1, 5, none⟩ = some (.int .i64 du) := R9.cell 5 rfl
        have xx6 : w9.cell? ⟨w.heap.size + 1 + 1, 6, none⟩ = some (.int .i64 dn) := R9.cell 6 rfl
        have xx7 : w9.cell? ⟨w.heap.size + 1 + 1, 7, none⟩ = some (.int .i64 dw) := R9.cell 7 rfl
        have xx8 : w9.cell? ⟨w.heap.size + 1 + 1, 8, none⟩ = some (.string dI) := R9.cell 8 rfl
        have xx9 : w9.cell? ⟨w.heap.size + 1 + 1, 9, none⟩ = some (.string dO) := R9.cell 9 rfl
        have xx10 : w9.cell? ⟨w.heap.size + 1 + 1, 10, none⟩ = some (.bool dF) := R9.cell 10 rfl
        (try simp only [Exit.inBlock, Exit.then])
        refine bodyPost_ret (v := .tuple #[.agg #[.string dm, .int .i64 di1, .int .i64 dp1, .int .i64 dd, .int .i64 ds, .int .i64 du, .int .i64 dn, .int .i64 dw, .string dI, .string dO, .bool dF], .slice (some ⟨w8.heap.size, 0, none⟩) 1 1]) (by simp [results, Try.results37, go_sem, xx0, xx1, xx2, xx3, xx4, xx5, xx6, xx7, xx8, xx9, xx10]; try rfl) rfl ?_
        exact ⟨_, rfl, O9.out.1, O9.out.2⟩
      exact AllReadyH.nil
    exact AllReadyH.nil
  exact AllReadyH.nil
set_option maxHeartbeats 16000000 in
theorem tkMb_any (mc : ByteArray) (ip po di st un nx wa : Int) (inn out : ByteArray) (fin : Bool) (sp dp sq ac fl wi : Int) (da : ByteArray) (dm : ByteArray) (di1 dp1 dd ds du dn dw : Int) (dI dO : ByteArray) (dF : Bool) (w : World) (t4 : (st == 4) = false) (f4 : (bits BinOp.and IntKind.i64 fl 4 != 0) = false) (f2 : (bits BinOp.and IntKind.i64 fl 2 != 0) = false) (f16 : (bits BinOp.and IntKind.i64 fl 16 == 0) = false) (TK0 : ∀ w, Calls Try.prog 78 #[.agg #[.string mc, .int .i64 ip, .int .i64 po, .int .i64 di, .int .i64 st, .int .i64 un, .int .i64 nx, .int .i64 wa, .string inn, .string out, .bool fin], .int .i64 ac] w fun e w' => e = .returned (.agg #[.string dm, .int .i64 di1, .int .i64 dp1, .int .i64 dd, .int .i64 ds, .int .i64 du, .int .i64 dn, .int .i64 dw, .string dI, .string dO, .bool dF]) ∧ Below w.heap.size w w') (u1 : (ds == 1) = false) (u4 : (ds == 4) = false) (ed : (da.toList == []) = true) (f1 : (bits BinOp.and IntKind.i64 fl 1 == 0) = false) (q : (sq == dw) = true) (hi : dI.size ≤ 300) (hda : da.size ≤ 360) (r : ¬ (dI.size : Int) + (da.size : Int) ≤ 300) :
    Calls Try.prog 37 #[.agg #[.string mc, .int .i64 ip, .int .i64 po, .int .i64 di, .int .i64 st, .int .i64 un, .int .i64 nx, .int .i64 wa, .string inn, .string out, .bool fin], .agg #[.int .i64 sp, .int .i64 dp, .int .i64 sq, .int .i64 ac, .int .i64 fl, .int .i64 wi, .string da]] w fun e w' => ∃ v, e = .returned (.tuple #[.agg #[.string dm, .int .i64 di1, .int .i64 dp1, .int .i64 dd, .int .i64 ds, .int .i64 du, .int .i64 dn, .int .i64 dw, .string dI, .string dO, .bool dF], v]) ∧ OwnS sgG 7 27 w' w.heap.size v [⟨80, dp1, dn, dw, 16, 1000, ⟨#[]⟩⟩] ∧ Below w.heap.size w w' := by
  have TK : Hid _ := TK0
  clear TK0
  have TA : Hid (∀ w, Calls Try.prog 77 #[.agg #[.string dm, .int .i64 di1, .int .i64 dp1, .int .i64 dd, .int .i64 ds, .int .i64 du, .int .i64 dn, .int .i64 dw, .string dI, .string dO, .bool dF], .int .i64 dn, .int .i64 16, .string ⟨#[]⟩] w fun e w' => e = .returned (.agg #[.int .i64 80, .int .i64 dp1, .int .i64 dn, .int .i64 dw, .int .i64 16, .int .i64 1000, .string ⟨#[]⟩]) ∧ Grw w w') := fun w => l10Reply_any dm di1 dp1 dd ds du dn dw dI dO dF dn 16 ⟨#[]⟩ w
  have C9 : Bx (((w.alloc (.cells #[.string mc, .int .i64 ip, .int .i64 po, .int .i64 di, .int .i64 st, .int .i64 un, .int .i64 nx, .int .i64 wa, .string inn, .string out, .bool fin] 24)).alloc (.cells #[.int .i64 sp, .int .i64 dp, .int .i64 sq, .int .i64 ac, .int .i64 fl, .int .i64 wi, .string da] 27)).alloc (.cells #[.string ⟨#[]⟩, .int .i64 0, .int .i64 0, .int .i64 0, .int .i64 0, .int .i64 0, .int .i64 0, .int .i64 0, .string ⟨#[]⟩, .string ⟨#[]⟩, .bool false] 24)) w.heap.size [.string mc, .int .i64 ip, .int .i64 po, .int .i64 di, .int .i64 st, .int .i64 un, .int .i64 nx, .int .i64 wa, .string inn, .string out, .bool fin] := ((Bx.new w _ _).below ((Below.refl _ _).alloc (Nat.le_refl _) _)).below ((Below.refl _ _).alloc (Nat.le_refl _) _)
  have G9 : Bx (((w.alloc (.cells #[.string mc, .int .i64 ip, .int .i64 po, .int .i64 di, .int .i64 st, .int .i64 un, .int .i64 nx, .int .i64 wa, .string inn, .string out, .bool fin] 24)).alloc (.cells #[.int .i64 sp, .int .i64 dp, .int .i64 sq, .int .i64 ac, .int .i64 fl, .int .i64 wi, .string da] 27)).alloc (.cells #[.string ⟨#[]⟩, .int .i64 0, .int .i64 0, .int .i64 0, .int .i64 0, .int .i64 0, .int .i64 0, .int .i64 0, .string ⟨#[]⟩, .string ⟨#[]⟩, .bool false] 24)) (w.heap.size + 1) [.int .i64 sp, .int .i64 dp, .int .i64 sq, .int .i64 ac, .int .i64 fl, .int .i64 wi, .string da] := by
    have h := (Bx.new (w.alloc (.cells #[.string mc, .int .i64 ip, .int .i64 po, .int .i64 di, .int .i64 st, .int .i64 un, .int .i64 nx, .int .i64 wa, .string inn, .string out, .bool fin] 24)) #[.int .i64 sp, .int .i64 dp, .int .i64 sq, .int .i64 ac, .int .i64 fl, .int .i64 wi, .string da] 27).below ((Below.refl _ _).alloc (Nat.le_refl _) (.cells #[.string ⟨#[]⟩, .int .i64 0, .int .i64 0, .int .i64 0, .int .i64 0, .int .i64 0, .int .i64 0, .int .i64 0, .string ⟨#[]⟩, .string ⟨#[]⟩, .bool false] 24))
    rw [World.size_alloc] at h
    exact h
  have R9 : Bx (((w.alloc (.cells #[.string mc, .int .i64 ip, .int .i64 po, .int .i64 di, .int .i64 st, .int .i64 un, .int .i64 nx, .int .i64 wa, .string inn, .string out, .bool fin] 24)).alloc (.cells #[.int .i64 sp, .int .i64 dp, .int .i64 sq, .int .i64 ac, .int .i64 fl, .int .i64 wi, .string da] 27)).alloc (.cells #[.string ⟨#[]⟩, .int .i64 0, .int .i64 0, .int .i64 0, .int .i64 0, .int .i64 0, .int .i64 0, .int .i64 0, .string ⟨#[]⟩, .string ⟨#[]⟩, .bool false] 24)) (w.heap.size + 1 + 1) [.string ⟨#[]⟩, .int .i64 0, .int .i64 0, .int .i64 0, .int .i64 0, .int .i64 0, .int .i64 0, .int .i64 0, .string ⟨#[]⟩, .string ⟨#[]⟩, .bool false] := by
    have h := Bx.new ((w.alloc (.cells #[.string mc, .int .i64 ip, .int .i64 po, .int .i64 di, .int .i64 st, .int .i64 un, .int .i64 nx, .int .i64 wa, .string inn, .string out, .bool fin] 24)).alloc (.cells #[.int .i64 sp, .int .i64 dp, .int .i64 sq, .int .i64 ac, .int .i64 fl, .int .i64 wi, .string da] 27)) #[.string ⟨#[]⟩, .int .i64 0, .int .i64 0, .int .i64 0, .int .i64 0, .int .i64 0, .int .i64 0, .int .i64 0, .string ⟨#[]⟩, .string ⟨#[]⟩, .bool false] 24
    rw [World.size_alloc, World.size_alloc] at h
    exact h
  have B9 : Hid (Below w.heap.size w (((w.alloc (.cells #[.string mc, .int .i64 ip, .int .i64 po, .int .i64 di, .int .i64 st, .int .i64 un, .int .i64 nx, .int .i64 wa, .string inn, .string out, .bool fin] 24)).alloc (.cells #[.int .i64 sp, .int .i64 dp, .int .i64 sq, .int .i64 ac, .int .i64 fl, .int .i64 wi, .string da] 27)).alloc (.cells #[.string ⟨#[]⟩, .int .i64 0, .int .i64 0, .int .i64 0, .int .i64 0, .int .i64 0, .int .i64 0, .int .i64 0, .string ⟨#[]⟩, .string ⟨#[]⟩, .bool false] 24))) := ((((Below.refl _ _).alloc (Nat.le_refl _) _).alloc (by simp) _).alloc (by simp; omega) _)
  have C0 : Bx ((((w.alloc (.cells #[.string mc, .int .i64 ip, .int .i64 po, .int .i64 di, .int .i64 st, .int .i64 un, .int .i64 nx, .int .i64 wa, .string inn, .string out, .bool fin] 24)).alloc (.cells #[.int .i64 sp, .int .i64 dp, .int .i64 sq, .int .i64 ac, .int .i64 fl, .int .i64 wi, .string da] 27)).alloc (.cells #[.string ⟨#[]⟩, .int .i64 0, .int .i64 0, .int .i64 0, .int .i64 0, .int .i64 0, .int .i64 0, .int .i64 0, .string ⟨#[]⟩, .string ⟨#[]⟩, .bool false] 24)).alloc (.cells #[] 27)) w.heap.size [.string mc, .int .i64 ip, .int .i64 po, .int .i64 di, .int .i64 st, .int .i64 un, .int .i64 nx, .int .i64 wa, .string inn, .string out, .bool fin] := C9.below ((Below.refl _ _).alloc (Nat.le_refl _) _)
  have G0 : Bx ((((w.alloc (.cells #[.string mc, .int .i64 ip, .int .i64 po, .int .i64 di, .int .i64 st, .int .i64 un, .int .i64 nx, .int .i64 wa, .string inn, .string out, .bool fin] 24)).alloc (.cells #[.int .i64 sp, .int .i64 dp, .int .i64 sq, .int .i64 ac, .int .i64 fl, .int .i64 wi, .string da] 27)).alloc (.cells #[.string ⟨#[]⟩, .int .i64 0, .int .i64 0, .int .i64 0, .int .i64 0, .int .i64 0, .int .i64 0, .int .i64 0, .string ⟨#[]⟩, .string ⟨#[]⟩, .bool false] 24)).alloc (.cells #[] 27)) (w.heap.size + 1) [.int .i64 sp, .int .i64 dp, .int .i64 sq, .int .i64 ac, .int .i64 fl, .int .i64 wi, .string da] := G9.below ((Below.refl _ _).alloc (Nat.le_refl _) _)
  have R0 : Bx ((((w.alloc (.cells #[.string mc, .int .i64 ip, .int .i64 po, .int .i64 di, .int .i64 st, .int .i64 un, .int .i64 nx, .int .i64 wa, .string inn, .string out, .bool fin] 24)).alloc (.cells #[.int .i64 sp, .int .i64 dp, .int .i64 sq, .int .i64 ac, .int .i64 fl, .int .i64 wi, .string da] 27)).alloc (.cells #[.string ⟨#[]⟩, .int .i64 0, .int .i64 0, .int .i64 0, .int .i64 0, .int .i64 0, .int .i64 0, .int .i64 0, .string ⟨#[]⟩, .string ⟨#[]⟩, .bool false] 24)).alloc (.cells #[] 27)) (w.heap.size + 1 + 1) [.string ⟨#[]⟩, .int .i64 0, .int .i64 0, .int .i64 0, .int .i64 0, .int .i64 0, .int .i64 0, .int .i64 0, .string ⟨#[]⟩, .string ⟨#[]⟩, .bool false] := R9.below ((Below.refl _ _).alloc (Nat.le_refl _) _)
  have B0 : Hid (Below w.heap.size w ((((w.alloc (.cells #[.string mc, .int .i64 ip, .int .i64 po, .int .i64 di, .int .i64 st, .int .i64 un, .int .i64 nx, .int .i64 wa, .string inn, .string out, .bool fin] 24)).alloc (.cells #[.int .i64 sp, .int .i64 dp, .int .i64 sq, .int .i64 ac, .int .i64 fl, .int .i64 wi, .string da] 27)).alloc (.cells #[.string ⟨#[]⟩, .int .i64 0, .int .i64 0, .int .i64 0, .int .i64 0, .int .i64 0, .int .i64 0, .int .i64 0, .string ⟨#[]⟩, .string ⟨#[]⟩, .bool false] 24)).alloc (.cells #[] 27))) := (((((Below.refl _ _).alloc (Nat.le_refl _) _).alloc (by simp) _).alloc (by simp; omega) _).alloc (by simp; omega) _)
  have O0 : OwnS sgG 7 27 ((((w.alloc (.cells #[.string mc, .int .i64 ip, .int .i64 po, .int .i64 di, .int .i64 st, .int .i64 un, .int .i64 nx, .int .i64 wa, .string inn, .string out, .bool fin] 24)).alloc (.cells #[.int .i64 sp, .int .i64 dp, .int .i64 sq, .int .i64 ac, .int .i64 fl, .int .i64 wi, .string da] 27)).alloc (.cells #[.string ⟨#[]⟩, .int .i64 0, .int .i64 0, .int .i64 0, .int .i64 0, .int .i64 0, .int .i64 0, .int .i64 0, .string ⟨#[]⟩, .string ⟨#[]⟩, .bool false] 24)).alloc (.cells #[] 27)) (w.heap.size + 3) (.slice (some ⟨w.heap.size + 1 + 1 + 1, 0, none⟩) 0 0) [] := lit_at (by omega) (by simp)
  clear C9 G9 R9 B9
  go_enter Try.func37, Try.ntmps37
  go_wp2_with fail
  refine (TK.out _).mono ?_
  rintro e w1 ⟨rfl, b1⟩
  have C1 : Bx w1 w.heap.size [.string mc, .int .i64 ip, .int .i64 po, .int .i64 di, .int .i64 st, .int .i64 un, .int .i64 nx, .int .i64 wa, .string inn, .string out, .bool fin] := C0.below b1
  have G1 : Bx w1 (w.heap.size + 1) [.int .i64 sp, .int .i64 dp, .int .i64 sq, .int .i64 ac, .int .i64 fl, .int .i64 wi, .string da] := G0.below b1
  have R1 : Bx w1 (w.heap.size + 1 + 1) [.string ⟨#[]⟩, .int .i64 0, .int .i64 0, .int .i64 0, .int .i64 0, .int .i64 0, .int .i64 0, .int .i64 0, .string ⟨#[]⟩, .string ⟨#[]⟩, .bool false] := R0.below b1
  have B1 : Hid (Below w.heap.size w w1) := B0.out.trans (b1.mono B0.out.size)
  have O1 : OwnS sgG 7 27 w1 (w.heap.size + 3) (.slice (some ⟨w.heap.size + 1 + 1 + 1, 0, none⟩) 0 0) [] := O0.now b1
  clear b1 C0 G0 R0 B0 O0 TK
  dsimp only
  refine (by assumption : ∀ (a : Act) (w : World), wpList _ _ _ _ a w → _) _ _ ?_
  (refine wpl_put rfl _ _ rfl (w.heap.size) _ rfl rfl C1 rfl rfl rfl ?_; intro w3 hw3 C3; have G3 : Bx w3 (w.heap.size + 1) [.int .i64 sp, .int .i64 dp, .int .i64 sq, .int .i64 ac, .int .i64 fl, .int .i64 wi, .string da] := (by rw [hw3]; exact G1.apart _ (by omega)); have R3 : Bx w3 (w.heap.size + 1 + 1) [.string ⟨#[]⟩, .int .i64 0, .int .i64 0, .int .i64 0, .int .i64 0, .int .i64 0, .int .i64 0, .int .i64 0, .string ⟨#[]⟩, .string ⟨#[]⟩, .bool false] := (by rw [hw3]; exact R1.apart _ (by omega)); have B3 : Hid (Below w.heap.size w w3) := (by rw [hw3]; exact below_cells (Nat.le_refl _) _ _ _ B1.out); have O3 : Hid (OwnS sgG 7 27 w3 (w.heap.size + 3) (.slice (some ⟨w.heap.size + 1 + 1 + 1, 0, none⟩) 0 0) []) := (by rw [hw3]; exact own_cells (by omega) _ _ _ O1); have v4 : w3.cell? ⟨w.heap.size, 4, none⟩ = some (.int .i64 ds) := C3.cell 4 rfl; have v7 : w3.cell? ⟨w.heap.size, 7, none⟩ = some (.int .i64 dw) := C3.cell 7 rfl; have v8 : w3.cell? ⟨w.heap.size, 8, none⟩ = some (.string dI) := C3.cell 8 rfl; have z7 : w3.frozen? ⟨w.heap.size, 7, none⟩ = false := C3.thaw 7 (by simp); have z8 : w3.frozen? ⟨w.heap.size, 8, none⟩ = false := C3.thaw 8 (by simp); have k2 : w3.cell? ⟨w.heap.size + 1, 2, none⟩ = some (.int .i64 sq) := G3.cell 2 rfl; have k4 : w3.cell? ⟨w.heap.size + 1, 4, none⟩ = some (.int .i64 fl) := G3.cell 4 rfl; have k6 : w3.cell? ⟨w.heap.size + 1, 6, none⟩ = some (.string da) := G3.cell 6 rfl; clear hw3 C1 G1 R1 B1 O1)
  go_wp2_with fail
  have C5 := C3
  have R5 := R3
  have B5 := B3
  clear C3 R3 B3
  clear v4 v7 v8 z7 z8 k2 k4 k6 G3 O3
  generalize w3 = w5 at C5 R5 B5 ⊢
  have hs5 : w.heap.size + 3 ≤ w5.heap.size := by
    have := World.block_lt_of_cell? w5 _ (R5.cell 0 rfl)
    dsimp only at this
    omega
  have SS : Hid (XQ (w.heap.size) [.string dm, .int .i64 di1, .int .i64 dp1, .int .i64 dd, .int .i64 ds, .int .i64 du, .int .i64 dn, .int .i64 dw, .string dI, .string dO, .bool dF] w w5.drew) := ⟨C5.below ((Below.refl _ _).drew), B5.out.drew⟩
  have RS : Hid (Bx w5.drew (w.heap.size + 1 + 1) [.string ⟨#[]⟩, .int .i64 0, .int .i64 0, .int .i64 0, .int .i64 0, .int .i64 0, .int .i64 0, .int .i64 0, .string ⟨#[]⟩, .string ⟨#[]⟩, .bool false]) := R5.below ((Below.refl _ _).drew)
  clear C5 R5 B5
  refine wp_region_held_drew (S := (fun wx => XQ (w.heap.size) [.string dm, .int .i64 di1, .int .i64 dp1, .int .i64 dd, .int .i64 ds, .int .i64 du, .int .i64 dn, .int .i64 dw, .string dI, .string dO, .bool dF] w wx)) (by kernel_rfl) ?_ (fun hH0 => ?_)
  · with_reducible exact SS.out
  refine wpAnyH_take (i := 0) (v := .agg #[.string dm, .int .i64 di1, .int .i64 dp1, .int .i64 dd, .int .i64 ds, .int .i64 du, .int .i64 dn, .int .i64 dw, .string dI, .string dO, .bool dF]) rfl (by kernel_rfl) (by kernel_rfl) (by kernel_rfl) (fun _ _ _ h => h) (yieldsIf_load_mid (by rfl) 24 _ rfl (w.heap.size) 0 rfl [.string dm, .int .i64 di1, .int .i64 dp1, .int .i64 dd, .int .i64 ds, .int .i64 du, .int .i64 dn, .int .i64 dw, .string dI, .string dO, .bool dF] _ (fun _ h => h.c.cl) Try.underlying24 rfl rfl) (by assumption) ?rest1001
  refine wpAnyH_take (i := 1) (v := .agg #[.string dm, .int .i64 di1, .int .i64 dp1, .int .i64 dd, .int .i64 ds, .int .i64 du, .int .i64 dn, .int .i64 dw, .string dI, .string dO, .bool dF]) rfl (by kernel_rfl) (by kernel_rfl) (by kernel_rfl) (fun _ _ _ h => h) (yieldsIf_load_mid (by rfl) 24 _ rfl (w.heap.size) 0 rfl [.string dm, .int .i64 di1, .int .i64 dp1, .int .i64 dd, .int .i64 ds, .int .i64 du, .int .i64 dn, .int .i64 dw, .string dI, .string dO, .bool dF] _ (fun _ h => h.c.cl) Try.underlying24 rfl rfl) (by assumption) ?rest1002
  refine wpAnyH_take (i := 2) (v := ?v1003) rfl (by kernel_rfl) (by kernel_rfl) (by kernel_rfl) (fun _ _ _ h => h) (Or.inl ⟨by rfl, ?hy1003⟩) (by assumption) ?rest1003
  case hy1003 => (intro w hSw; (try dsimp only at hSw); go_simp; (try with_reducible rfl))
  refine wpAnyH_take (i := 3) (v := .int .i64 dn) rfl (by kernel_rfl) (by kernel_rfl) (by kernel_rfl) (fun _ _ _ h => h) (Or.inl ⟨by rfl, ?hy1004⟩) (by assumption) ?rest1004
  case hy1004 =>
    intro wz hSw
    have hf := hSw.c.cell 6 rfl
    go_simp
  refine wpAnyH_ready (rs := [4]) (by kernel_rfl) (by simp) ?_
  refine AllReadyH.cons rfl (fun K hK => ?_) ?_
  · go_simp
    go_at_call 77
    with_reducible refine (TA.out _).mono ?_
    rintro e w6 ⟨rfl, g6⟩
    have hs6 : w.heap.size + 3 ≤ w6.heap.size := Nat.le_trans (by simpa using hs5) g6.below.size
    have L6 : Hid (XQ (w.heap.size) [.string dm, .int .i64 di1, .int .i64 dp1, .int .i64 dd, .int .i64 ds, .int .i64 du, .int .i64 dn, .int .i64 dw, .string dI, .string dO, .bool dF] w w6) := SS.out.below g6.below
    have R6 : Hid (Bx w6 (w.heap.size + 1 + 1) [.string ⟨#[]⟩, .int .i64 0, .int .i64 0, .int .i64 0, .int .i64 0, .int .i64 0, .int .i64 0, .int .i64 0, .string ⟨#[]⟩, .string ⟨#[]⟩, .bool false]) := RS.out.below g6.below
    have LA : Hid (XQ (w.heap.size) [.string dm, .int .i64 di1, .int .i64 dp1, .int .i64 dd, .int .i64 ds, .int .i64 du, .int .i64 dn, .int .i64 dw, .string dI, .string dO, .bool dF] w (w6.alloc (.cells #[.int .i64 80, .int .i64 dp1, .int .i64 dn, .int .i64 dw, .int .i64 16, .int .i64 1000, .string ⟨#[]⟩] 27))) := L6.out.below ((Below.refl _ _).alloc (Nat.le_refl _) _)
    clear g6 SS RS
    refine hK.out _ _ ?_ (fun hH1005 => ?_)
    · (try dsimp only)
      first | (with_reducible exact L6.out) | (with_reducible exact LA.out) | (with_reducible exact F8.out.1) | (with_reducible exact F8.out.2)
    clear hK K hH0
    refine wpAnyH_ready (rs := [5, 6]) (by kernel_rfl) (by simp) ?_
    refine AllReadyH.cons rfl (fun K hK => ?_) ?_
    · go_simp
      refine hK.out _ _ ?_ (fun hH1006 => ?_)
      · (try dsimp only)
        first | (with_reducible exact L6.out) | (with_reducible exact LA.out) | (with_reducible exact F8.out.1) | (with_reducible exact F8.out.2)
      clear hK K hH1005
      refine wpAnyH_ready (rs := [6]) (by kernel_rfl) (by simp) ?_
      refine AllReadyH.cons rfl (fun K hK => ?_) ?_
      · skip
        refine wpr_put rfl _ _ rfl (w.heap.size + 1 + 1) _ rfl rfl (R6.out.below ((Below.refl _ _).alloc (Nat.le_refl _) (.cells #[.int .i64 80, .int .i64 dp1, .int .i64 dn, .int .i64 dw, .int .i64 16, .int .i64 1000, .string ⟨#[]⟩] 27))) rfl rfl rfl ?_
        intro w8 hw8 R8
        have F8 : Hid (XQ (w.heap.size) [.string dm, .int .i64 di1, .int .i64 dp1, .int .i64 dd, .int .i64 ds, .int .i64 du, .int .i64 dn, .int .i64 dw, .string dI, .string dO, .bool dF] w w8 ∧ OwnS sgG 7 27 w8 w.heap.size (.slice (some ⟨w6.heap.size, 0, none⟩) 1 1) [⟨80, dp1, dn, dw, 16, 1000, ⟨#[]⟩⟩]) := by
          rw [hw8]
          exact ⟨LA.out.cells (by omega) (by omega), (own_cells (by omega) _ _ _ (own1 w6 (w.heap.size + 3) 80 dp1 dn dw 16 1000 ⟨#[]⟩ hs6)).lower (by omega)⟩
        clear hw8
        refine hK.out _ _ ?_ (fun hH1007 => ?_)
        · (try dsimp only)
          first | (with_reducible exact L6.out) | (with_reducible exact LA.out) | (with_reducible exact F8.out.1) | (with_reducible exact F8.out.2)
        clear hK K hH1006
        refine wpAnyH_take (i := 7) (v := ?v1008) rfl (by kernel_rfl) (by kernel_rfl) (by kernel_rfl) (fun _ _ _ h => h) (Or.inl ⟨by rfl, ?hy1008⟩) (by assumption) ?rest1008
        case hy1008 => (intro w hSw; (try dsimp only at hSw); go_simp; (try with_reducible rfl))
        refine wpAnyH_done (by kernel_rfl) ?_ _
        have O9 : Hid (OwnS sgG 7 27 w8 w.heap.size (.slice (some ⟨w6.heap.size, 0, none⟩) 1 1) [⟨80, dp1, dn, dw, 16, 1000, ⟨#[]⟩⟩] ∧ Below w.heap.size w w8) := ⟨F8.out.2, F8.out.1.out⟩
        have R9 := R8
        clear hH1007
        go_wp2
        have xx0 : w8.cell? ⟨w.heap.size + 1 + 1, 0, none⟩ = some (.string dm) := R9.cell 0 rfl
        have xx1 : w8.cell? ⟨w.heap.size + 1 + 1, 1, none⟩ = some (.int .i64 di1) := R9.cell 1 rfl
        have xx2 : w8.cell? ⟨w.heap.size + 1 + 1, 2, none⟩ = some (.int .i64 dp1) := R9.cell 2 rfl
        have xx3 : w8.cell? ⟨w.heap.size + 1 + 1, 3, none⟩ = some (.int .i64 dd) := R9.cell 3 rfl
        have xx4 : w8.cell? ⟨w.heap.size + 1 + 1, 4, none⟩ = some (.int .i64 ds) := R9.cell 4 rfl
        have xx5 : w8.cell? ⟨w.heap.size + 1 + 1, 5, none⟩ = some (.int .i64 du) := R9.cell 5 rfl
        have xx6 : w8.cell? ⟨w.heap.size + 1 + 1, 6, none⟩ = some (.int .i64 dn) := R9.cell 6 rfl
        have xx7 : w8.cell? ⟨w.heap.size + 1 + 1, 7, none⟩ = some (.int .i64 dw) := R9.cell 7 rfl
        have xx8 : w8.cell? ⟨w.heap.size + 1 + 1, 8, none⟩ = some (.string dI) := R9.cell 8 rfl
        have xx9 : w8.cell? ⟨w.heap.size + 1 + 1, 9, none⟩ = some (.string dO) := R9.cell 9 rfl
        have xx10 : w8.cell? ⟨w.heap.size + 1 + 1, 10, none⟩ = some (.bool dF) := R9.cell 10 rfl
        (try simp only [Exit.inBlock, Exit.then])
        refine bodyPost_ret (v := .tuple #[.agg #[.string dm, .int .i64 di1, .int .i64 dp1, .int .i64 dd, .int .i64 ds, .int .i64 du, .int .i64 dn, .int .i64 dw, .string dI, .string dO, .bool dF], .slice (some ⟨w6.heap.size, 0, none⟩) 1 1]) (by simp [results, Try.results37, go_sem, xx0, xx1, xx2, xx3, xx4, xx5, xx6, xx7, xx8, xx9, xx10]; try rfl) rfl ?_
        exact ⟨_, rfl, O9.out.1, O9.out.2⟩
      exact AllReadyH.nil
    refine AllReadyH.cons rfl (fun K hK => ?_) ?_
    · skip
      refine wpr_put rfl _ _ rfl (w.heap.size + 1 + 1) _ rfl rfl R6.out rfl rfl rfl ?_
      intro w8 hw8 R8
      have hz8 : w.heap.size ≤ w8.heap.size := by
        have := World.block_lt_of_cell? w8 _ (R8.cell 0 rfl)
        dsimp only at this
        omega
      have F8 : Hid (XQ (w.heap.size) [.string dm, .int .i64 di1, .int .i64 dp1, .int .i64 dd, .int .i64 ds, .int .i64 du, .int .i64 dn, .int .i64 dw, .string dI, .string dO, .bool dF] w w8 ∧ XQ (w.heap.size) [.string dm, .int .i64 di1, .int .i64 dp1, .int .i64 dd, .int .i64 ds, .int .i64 du, .int .i64 dn, .int .i64 dw, .string dI, .string dO, .bool dF] w (w8.alloc (.cells #[.int .i64 80, .int .i64 dp1, .int .i64 dn, .int .i64 dw, .int .i64 16, .int .i64 1000, .string ⟨#[]⟩] 27))) := by
        have h : XQ (w.heap.size) [.string dm, .int .i64 di1, .int .i64 dp1, .int .i64 dd, .int .i64 ds, .int .i64 du, .int .i64 dn, .int .i64 dw, .string dI, .string dO, .bool dF] w w8 := by rw [hw8]; exact L6.out.cells (by omega) (by omega)
        exact ⟨h, h.below ((Below.refl _ _).alloc (Nat.le_refl _) _)⟩
      clear hw8
      refine hK.out _ _ ?_ (fun hH1009 => ?_)
      · (try dsimp only)
        first | (with_reducible exact L6.out) | (with_reducible exact LA.out) | (with_reducible exact F8.out.1) | (with_reducible exact F8.out.2)
      clear hK K hH1005
      refine wpAnyH_ready (rs := [5]) (by kernel_rfl) (by simp) ?_
      refine AllReadyH.cons rfl (fun K hK => ?_) ?_
      · go_simp
        refine hK.out _ _ ?_ (fun hH1010 => ?_)
        · (try dsimp only)
          first | (with_reducible exact L6.out) | (with_reducible exact LA.out) | (with_reducible exact F8.out.1) | (with_reducible exact F8.out.2)
        clear hK K hH1009
        refine wpAnyH_take (i := 7) (v := ?v1011) rfl (by kernel_rfl) (by kernel_rfl) (by kernel_rfl) (fun _ _ _ h => h) (Or.inl ⟨by rfl, ?hy1011⟩) (by assumption) ?rest1011
        case hy1011 => (intro w hSw; (try dsimp only at hSw); go_simp; (try with_reducible rfl))
        refine wpAnyH_done (by kernel_rfl) ?_ _
        have O9 : Hid (OwnS sgG 7 27 (w8.alloc (.cells #[.int .i64 80, .int .i64 dp1, .int .i64 dn, .int .i64 dw, .int .i64 16, .int .i64 1000, .string ⟨#[]⟩] 27)) w.heap.size (.slice (some ⟨w8.heap.size, 0, none⟩) 1 1) [⟨80, dp1, dn, dw, 16, 1000, ⟨#[]⟩⟩] ∧ Below w.heap.size w (w8.alloc (.cells #[.int .i64 80, .int .i64 dp1, .int .i64 dn, .int .i64 dw, .int .i64 16, .int .i64 1000, .string ⟨#[]⟩] 27))) := ⟨own1 w8 _ 80 dp1 dn dw 16 1000 ⟨#[]⟩ hz8, F8.out.2.out⟩
        have R9 := R8.below ((Below.refl _ _).alloc (Nat.le_refl _) (.cells #[.int .i64 80, .int .i64 dp1, .int .i64 dn, .int .i64 dw, .int .i64 16, .int .i64 1000, .string ⟨#[]⟩] 27))
        clear hH1010
        generalize (w8.alloc (.cells #[.int .i64 80, .int .i64 dp1, .int .i64 dn, .int .i64 dw, .int .i64 16, .int .i64 1000, .string ⟨#[]⟩] 27)) = w9 at O9 R9 ⊢
        go_wp2
        have xx0 : w9.cell? ⟨w.heap.size + 1 + 1, 0, none⟩ = some (.string dm) := R9.cell 0 rfl
        have xx1 : w9.cell? ⟨w.heap.size + 1 + 1, 1, none⟩ = some (.int .i64 di1) := R9.cell 1 rfl
        have xx2 : w9.cell? ⟨w.heap.size + 1 + 1, 2, none⟩ = some (.int .i64 dp1) := R9.cell 2 rfl
        have xx3 : w9.cell? ⟨w.heap.size + 1 + 1, 3, none⟩ = some (.int .i64 dd) := R9.cell 3 rfl
        have xx4 : w9.cell? ⟨w.heap.size + 1 + 1, 4, none⟩ = some (.int .i64 ds) := R9.cell 4 rfl
        have xx5 : w9.cell? ⟨w.heap.size + 1 + 1, 5, none⟩ = some (.int .i64 du) := R9.cell 5 rfl
        have xx6 : w9.cell? ⟨w.heap.size + 1 + 1, 6, none⟩ = some (.int .i64 dn) := R9.cell 6 rfl
        have xx7 : w9.cell? ⟨w.heap.size + 1 + 1, 7, none⟩ = some (.int .i64 dw) := R9.cell 7 rfl
        have xx8 : w9.cell? ⟨w.heap.size + 1 + 1, 8, none⟩ = some (.string dI) := R9.cell 8 rfl
        have xx9 : w9.cell? ⟨w.heap.size + 1 + 1, 9, none⟩ = some (.string dO) := R9.cell 9 rfl
        have xx10 : w9.cell? ⟨w.heap.size + 1 + 1, 10, none⟩ = some (.bool dF) := R9.cell 10 rfl
        (try simp only [Exit.inBlock, Exit.then])
        refine bodyPost_ret (v := .tuple #[.agg #[.string dm, .int .i64 di1, .int .i64 dp1, .int .i64 dd, .int .i64 ds, .int .i64 du, .int .i64 dn, .int .i64 dw, .string dI, .string dO, .bool dF], .slice (some ⟨w8.heap.size, 0, none⟩) 1 1]) (by simp [results, Try.results37, go_sem, xx0, xx1, xx2, xx3, xx4, xx5, xx6, xx7, xx8, xx9, xx10]; try rfl) rfl ?_
        exact ⟨_, rfl, O9.out.1, O9.out.2⟩
      exact AllReadyH.nil
    exact AllReadyH.nil
  exact AllReadyH.nil
end Go.Proofs.Ytfgghffgfefgpaa

namespace Go.Proofs.Ytfgghffgfefgpaa
open Go.RowKit Go.PlainAid Go.Proofs.Ytfgghffgfefgpaa.Bt Go.Sort
set_option linter.unusedVariables false
set_option maxRecDepth 20000

theorem akV_keep (c : ConnV) (a : Int) : (akV c a).inn = c.inn ∧ (akV c a).wa = c.wa := by
  unfold akV
  repeat' split
  all_goals exact ⟨rfl, rfl⟩
theorem sgB_bd {g : SegV} (h : sgB g = true) : (0 ≤ g.sq ∧ g.sq ≤ 4294967295) ∧ (0 ≤ g.ac ∧ g.ac ≤ 4294967295) ∧ g.da.size ≤ 360 := by
  unfold sgB dec at h
  simp only [Bool.and_eq_true, decide_eq_true_eq] at h
  obtain ⟨⟨⟨⟨⟨⟨a, b⟩, c⟩, d⟩, e⟩, f⟩, k⟩ := h
  exact ⟨c, d, by omega⟩
theorem zero_of {n : Int} {b : Bool} (h : (n != 0) = b) : (n == 0) = !b := by
  rw [← h]
  simp [bne]
set_option maxHeartbeats 4000000 in
theorem l10Take_any (mc : ByteArray) (ip po di st un nx wa : Int) (inn out : ByteArray) (fin : Bool) (sp dp sq ac fl wi : Int) (da : ByteArray) (w : World) (hok : okB ⟨mc, ip, po, di, st, un, nx, wa, inn, out, fin⟩ = true) (hsg : sgB ⟨sp, dp, sq, ac, fl, wi, da⟩ = true) :
    Calls Try.prog 37 #[.agg #[.string mc, .int .i64 ip, .int .i64 po, .int .i64 di, .int .i64 st, .int .i64 un, .int .i64 nx, .int .i64 wa, .string inn, .string out, .bool fin], .agg #[.int .i64 sp, .int .i64 dp, .int .i64 sq, .int .i64 ac, .int .i64 fl, .int .i64 wi, .string da]] w fun e w' => ∃ v, e = .returned (.tuple #[cvA (tkV ⟨mc, ip, po, di, st, un, nx, wa, inn, out, fin⟩ ⟨sp, dp, sq, ac, fl, wi, da⟩), v]) ∧ OwnS sgG 7 27 w' w.heap.size v (tkL ⟨mc, ip, po, di, st, un, nx, wa, inn, out, fin⟩ ⟨sp, dp, sq, ac, fl, wi, da⟩) ∧ Below w.heap.size w w' := by
  have hn := nuB_bd (okB_says hok).1
  have hx := txB_bd (okB_says hok).2
  have hg := sgB_bd hsg
  dsimp only at hn hx hg
  by_cases h4 : st = 4
  · have E : tkV ⟨mc, ip, po, di, st, un, nx, wa, inn, out, fin⟩ ⟨sp, dp, sq, ac, fl, wi, da⟩ = ⟨mc, ip, po, di, st, un, nx, wa, inn, out, fin⟩ := if_pos h4
    have EL : tkL ⟨mc, ip, po, di, st, un, nx, wa, inn, out, fin⟩ ⟨sp, dp, sq, ac, fl, wi, da⟩ = [] := if_pos h4
    rw [E, EL]
    exact tkA_any mc ip po di st un nx wa inn out fin sp dp sq ac fl wi da w (by simp [h4])
  have t4 : (st == 4) = false := by simp [h4]
  cases f4 : tfB ⟨sp, dp, sq, ac, fl, wi, da⟩ 4 with
  | true =>
    by_cases q : sq = wa
    · have B : brV ⟨mc, ip, po, di, st, un, nx, wa, inn, out, fin⟩ ⟨sp, dp, sq, ac, fl, wi, da⟩ = ⟨mc, ip, po, di, 4, nx, nx, wa, ⟨#[]⟩, ⟨#[]⟩, false⟩ := if_pos q
      have E : tkV ⟨mc, ip, po, di, st, un, nx, wa, inn, out, fin⟩ ⟨sp, dp, sq, ac, fl, wi, da⟩ = ⟨mc, ip, po, di, 4, nx, nx, wa, ⟨#[]⟩, ⟨#[]⟩, false⟩ := by unfold tkV; dsimp only; rw [if_neg h4, if_pos f4, B]
      have EL : tkL ⟨mc, ip, po, di, st, un, nx, wa, inn, out, fin⟩ ⟨sp, dp, sq, ac, fl, wi, da⟩ = [] := by unfold tkL; dsimp only; rw [if_neg h4, if_pos f4]
      rw [E, EL]
      exact tkB_any mc ip po di st un nx wa inn out fin sp dp sq ac fl wi da w t4 f4 (by simp [q])
    · have B : brV ⟨mc, ip, po, di, st, un, nx, wa, inn, out, fin⟩ ⟨sp, dp, sq, ac, fl, wi, da⟩ = ⟨mc, ip, po, di, st, un, nx, wa, inn, out, fin⟩ := if_neg q
      have E : tkV ⟨mc, ip, po, di, st, un, nx, wa, inn, out, fin⟩ ⟨sp, dp, sq, ac, fl, wi, da⟩ = ⟨mc, ip, po, di, st, un, nx, wa, inn, out, fin⟩ := by unfold tkV; dsimp only; rw [if_neg h4, if_pos f4, B]
      have EL : tkL ⟨mc, ip, po, di, st, un, nx, wa, inn, out, fin⟩ ⟨sp, dp, sq, ac, fl, wi, da⟩ = [] := by unfold tkL; dsimp only; rw [if_neg h4, if_pos f4]
      rw [E, EL]
      exact tkC_any mc ip po di st un nx wa inn out fin sp dp sq ac fl wi da w t4 f4 (by simp [q])
  | false =>
  cases f2 : tfB ⟨sp, dp, sq, ac, fl, wi, da⟩ 2 with
  | true =>
    by_cases h1 : st = 1
    · by_cases q : sqN (sq + 1) = wa
      · have B : syS ⟨mc, ip, po, di, st, un, nx, wa, inn, out, fin⟩ ⟨sp, dp, sq, ac, fl, wi, da⟩ = ⟨80, po, un, wa, 18, 1000, ⟨#[]⟩⟩ := by unfold syS; dsimp only; rw [if_pos ⟨h1, q⟩]; rfl
        have E : tkV ⟨mc, ip, po, di, st, un, nx, wa, inn, out, fin⟩ ⟨sp, dp, sq, ac, fl, wi, da⟩ = ⟨mc, ip, po, di, st, un, nx, wa, inn, out, fin⟩ := by unfold tkV; dsimp only; rw [if_neg h4, if_neg (by simp [f4]), if_pos f2]
        have EL : tkL ⟨mc, ip, po, di, st, un, nx, wa, inn, out, fin⟩ ⟨sp, dp, sq, ac, fl, wi, da⟩ = [⟨80, po, un, wa, 18, 1000, ⟨#[]⟩⟩] := by unfold tkL; dsimp only; rw [if_neg h4, if_neg (by simp [f4]), if_pos f2, B]
        rw [E, EL]
        exact tkD_any mc ip po di st un nx wa inn out fin sp dp sq ac fl wi da w t4 f4 f2 hg.1 (by simp [h1]) (by simp [q])
      · have B : syS ⟨mc, ip, po, di, st, un, nx, wa, inn, out, fin⟩ ⟨sp, dp, sq, ac, fl, wi, da⟩ = ⟨80, po, nx, wa, 16, 1000, ⟨#[]⟩⟩ := by unfold syS; dsimp only; rw [if_neg (fun h => q h.2)]; rfl
        have E : tkV ⟨mc, ip, po, di, st, un, nx, wa, inn, out, fin⟩ ⟨sp, dp, sq, ac, fl, wi, da⟩ = ⟨mc, ip, po, di, st, un, nx, wa, inn, out, fin⟩ := by unfold tkV; dsimp only; rw [if_neg h4, if_neg (by simp [f4]), if_pos f2]
        have EL : tkL ⟨mc, ip, po, di, st, un, nx, wa, inn, out, fin⟩ ⟨sp, dp, sq, ac, fl, wi, da⟩ = [⟨80, po, nx, wa, 16, 1000, ⟨#[]⟩⟩] := by unfold tkL; dsimp only; rw [if_neg h4, if_neg (by simp [f4]), if_pos f2, B]
        rw [E, EL]
        exact tkE_any mc ip po di st un nx wa inn out fin sp dp sq ac fl wi da w t4 f4 f2 hg.1 (by simp [h1]) (by simp [q])
    · have B : syS ⟨mc, ip, po, di, st, un, nx, wa, inn, out, fin⟩ ⟨sp, dp, sq, ac, fl, wi, da⟩ = ⟨80, po, nx, wa, 16, 1000, ⟨#[]⟩⟩ := by unfold syS; dsimp only; rw [if_neg (fun h => h1 h.1)]; rfl
      have E : tkV ⟨mc, ip, po, di, st, un, nx, wa, inn, out, fin⟩ ⟨sp, dp, sq, ac, fl, wi, da⟩ = ⟨mc, ip, po, di, st, un, nx, wa, inn, out, fin⟩ := by unfold tkV; dsimp only; rw [if_neg h4, if_neg (by simp [f4]), if_pos f2]
      have EL : tkL ⟨mc, ip, po, di, st, un, nx, wa, inn, out, fin⟩ ⟨sp, dp, sq, ac, fl, wi, da⟩ = [⟨80, po, nx, wa, 16, 1000, ⟨#[]⟩⟩] := by unfold tkL; dsimp only; rw [if_neg h4, if_neg (by simp [f4]), if_pos f2, B]
      rw [E, EL]
      exact tkE2_any mc ip po di st un nx wa inn out fin sp dp sq ac fl wi da w t4 f4 f2 hg.1 (by simp [h1])
  | false =>
  cases f16 : tfB ⟨sp, dp, sq, ac, fl, wi, da⟩ 16 with
  | false =>
    have E : tkV ⟨mc, ip, po, di, st, un, nx, wa, inn, out, fin⟩ ⟨sp, dp, sq, ac, fl, wi, da⟩ = ⟨mc, ip, po, di, st, un, nx, wa, inn, out, fin⟩ := by unfold tkV; dsimp only; rw [if_neg h4, if_neg (by simp [f4]), if_neg (by simp [f2]), if_pos f16]
    have EL : tkL ⟨mc, ip, po, di, st, un, nx, wa, inn, out, fin⟩ ⟨sp, dp, sq, ac, fl, wi, da⟩ = [] := by unfold tkL; dsimp only; rw [if_neg h4, if_neg (by simp [f4]), if_neg (by simp [f2]), if_pos f16]
    rw [E, EL]
    exact tkF_any mc ip po di st un nx wa inn out fin sp dp sq ac fl wi da w t4 f4 f2 (zero_of f16)
  | true =>
    obtain ⟨D, hD⟩ : ∃ D, akV ⟨mc, ip, po, di, st, un, nx, wa, inn, out, fin⟩ ac = D := ⟨_, rfl⟩
    have TK0 : ∀ w, Calls Try.prog 78 #[.agg #[.string mc, .int .i64 ip, .int .i64 po, .int .i64 di, .int .i64 st, .int .i64 un, .int .i64 nx, .int .i64 wa, .string inn, .string out, .bool fin], .int .i64 ac] w fun e w' => e = .returned (cvA D) ∧ Below w.heap.size w w' := fun w => by rw [← hD]; exact l10Acked_any mc ip po di st un nx wa inn out fin ac w hok h4 hg.2.1
    have hkI : D.inn = inn := by rw [← hD]; exact (akV_keep _ _).1
    have hkW : D.wa = wa := by rw [← hD]; exact (akV_keep _ _).2
    have EV : tkV ⟨mc, ip, po, di, st, un, nx, wa, inn, out, fin⟩ ⟨sp, dp, sq, ac, fl, wi, da⟩ = if tdN D ⟨sp, dp, sq, ac, fl, wi, da⟩ = true then D else tdV D ⟨sp, dp, sq, ac, fl, wi, da⟩ := by unfold tkV; dsimp only; rw [if_neg h4, if_neg (by simp [f4]), if_neg (by simp [f2]), if_neg (by simp [f16]), hD]
    have EL : tkL ⟨mc, ip, po, di, st, un, nx, wa, inn, out, fin⟩ ⟨sp, dp, sq, ac, fl, wi, da⟩ = if tdN D ⟨sp, dp, sq, ac, fl, wi, da⟩ = true then [] else [agS (tdV D ⟨sp, dp, sq, ac, fl, wi, da⟩)] := by unfold tkL; dsimp only; rw [if_neg h4, if_neg (by simp [f4]), if_neg (by simp [f2]), if_neg (by simp [f16]), hD]
    rw [EV, EL]
    clear EV EL hD
    obtain ⟨dm, di1, dp1, dd, ds, du, dn, dw, dI, dO, dF⟩ := D
    dsimp only at hkI hkW
    have hxI : dI.size ≤ 300 := by rw [hkI]; exact hx.2.1
    have hxW : 0 ≤ dw ∧ dw ≤ 4294967295 := by rw [hkW]; exact hn.2.2.2.2.2.2
    clear hkI hkW
    have f16' := zero_of (b := true) f16
    by_cases u1 : ds = 1
    · rw [if_pos (by unfold tdN; simp [u1]), if_pos (by unfold tdN; simp [u1])]
      exact tkG1_any mc ip po di st un nx wa inn out fin sp dp sq ac fl wi da dm di1 dp1 dd ds du dn dw dI dO dF w t4 f4 f2 f16' TK0 (by simp [u1])
    by_cases u4 : ds = 4
    · rw [if_pos (by unfold tdN; simp [u4]), if_pos (by unfold tdN; simp [u4])]
      exact tkG4_any mc ip po di st un nx wa inn out fin sp dp sq ac fl wi da dm di1 dp1 dd ds du dn dw dI dO dF w t4 f4 f2 f16' TK0 (by simp [u1]) (by simp [u4])
    have v1 : (ds == 1) = false := by simp [u1]
    have v4 : (ds == 4) = false := by simp [u4]
    cases ed : (da.toList == []) with
    | true =>
      cases f1 : tfB ⟨sp, dp, sq, ac, fl, wi, da⟩ 1 with
      | false =>
        rw [if_pos (by unfold tdN; simp [f1, ed]), if_pos (by unfold tdN; simp [f1, ed])]
        exact tkG2_any mc ip po di st un nx wa inn out fin sp dp sq ac fl wi da dm di1 dp1 dd ds du dn dw dI dO dF w t4 f4 f2 f16' TK0 v1 v4 ed (zero_of f1)
      | true =>
        have hN : tdN ⟨dm, di1, dp1, dd, ds, du, dn, dw, dI, dO, dF⟩ ⟨sp, dp, sq, ac, fl, wi, da⟩ = false := by unfold tdN; dsimp only; rw [v1, v4, ed, f1]; rfl
        rw [hN, if_neg (by decide), if_neg (by decide)]
        by_cases q : sq = dw
        · by_cases r : dI.size + da.size ≤ 300
          · have hV : tdV ⟨dm, di1, dp1, dd, ds, du, dn, dw, dI, dO, dF⟩ ⟨sp, dp, sq, ac, fl, wi, da⟩ = ⟨dm, di1, dp1, dd, ds, du, dn, sqN (sqN (dw + (da.size : Int)) + 1), dI ++ da, dO, dF⟩ := by unfold tdV; dsimp only; rw [if_pos ⟨q, r⟩, if_pos f1]
            rw [hV]
            exact tkUb_any mc ip po di st un nx wa inn out fin sp dp sq ac fl wi da dm di1 dp1 dd ds du dn dw dI dO dF w t4 f4 f2 f16' TK0 v1 v4 ed (zero_of f1) (by simp [q]) hxI hg.2.2 hxW (by omega) f1
          · have hV : tdV ⟨dm, di1, dp1, dd, ds, du, dn, dw, dI, dO, dF⟩ ⟨sp, dp, sq, ac, fl, wi, da⟩ = ⟨dm, di1, dp1, dd, ds, du, dn, dw, dI, dO, dF⟩ := by unfold tdV; dsimp only; rw [if_neg (fun h => r h.2)]
            rw [hV]
            exact tkMb_any mc ip po di st un nx wa inn out fin sp dp sq ac fl wi da dm di1 dp1 dd ds du dn dw dI dO dF w t4 f4 f2 f16' TK0 v1 v4 ed (zero_of f1) (by simp [q]) hxI hg.2.2 (by omega)
        · have hV : tdV ⟨dm, di1, dp1, dd, ds, du, dn, dw, dI, dO, dF⟩ ⟨sp, dp, sq, ac, fl, wi, da⟩ = ⟨dm, di1, dp1, dd, ds, du, dn, dw, dI, dO, dF⟩ := by unfold tdV; dsimp only; rw [if_neg (fun h => q h.1)]
          rw [hV]
          exact tkNb_any mc ip po di st un nx wa inn out fin sp dp sq ac fl wi da dm di1 dp1 dd ds du dn dw dI dO dF w t4 f4 f2 f16' TK0 v1 v4 ed (zero_of f1) (by simp [q])
    | false =>
      have hN : tdN ⟨dm, di1, dp1, dd, ds, du, dn, dw, dI, dO, dF⟩ ⟨sp, dp, sq, ac, fl, wi, da⟩ = false := by unfold tdN; dsimp only; rw [v1, v4, ed]; rfl
      rw [hN, if_neg (by decide), if_neg (by decide)]
      by_cases q : sq = dw
      · by_cases r : dI.size + da.size ≤ 300
        · cases f1 : tfB ⟨sp, dp, sq, ac, fl, wi, da⟩ 1 with
          | true =>
            have hV : tdV ⟨dm, di1, dp1, dd, ds, du, dn, dw, dI, dO, dF⟩ ⟨sp, dp, sq, ac, fl, wi, da⟩ = ⟨dm, di1, dp1, dd, ds, du, dn, sqN (sqN (dw + (da.size : Int)) + 1), dI ++ da, dO, dF⟩ := by unfold tdV; dsimp only; rw [if_pos ⟨q, r⟩, if_pos f1]
            rw [hV]
            exact tkUa_any mc ip po di st un nx wa inn out fin sp dp sq ac fl wi da dm di1 dp1 dd ds du dn dw dI dO dF w t4 f4 f2 f16' TK0 v1 v4 ed (by simp [q]) hxI hg.2.2 hxW (by omega) f1
          | false =>
            have hV : tdV ⟨dm, di1, dp1, dd, ds, du, dn, dw, dI, dO, dF⟩ ⟨sp, dp, sq, ac, fl, wi, da⟩ = ⟨dm, di1, dp1, dd, ds, du, dn, sqN (dw + (da.size : Int)), dI ++ da, dO, dF⟩ := by unfold tdV; dsimp only; rw [if_pos ⟨q, r⟩, if_neg (by simp [f1])]
            rw [hV]
            exact tkTa_any mc ip po di st un nx wa inn out fin sp dp sq ac fl wi da dm di1 dp1 dd ds du dn dw dI dO dF w t4 f4 f2 f16' TK0 v1 v4 ed (by simp [q]) hxI hg.2.2 hxW (by omega) f1
        · have hV : tdV ⟨dm, di1, dp1, dd, ds, du, dn, dw, dI, dO, dF⟩ ⟨sp, dp, sq, ac, fl, wi, da⟩ = ⟨dm, di1, dp1, dd, ds, du, dn, dw, dI, dO, dF⟩ := by unfold tdV; dsimp only; rw [if_neg (fun h => r h.2)]
          rw [hV]
          exact tkMa_any mc ip po di st un nx wa inn out fin sp dp sq ac fl wi da dm di1 dp1 dd ds du dn dw dI dO dF w t4 f4 f2 f16' TK0 v1 v4 ed (by simp [q]) hxI hg.2.2 (by omega)
      · have hV : tdV ⟨dm, di1, dp1, dd, ds, du, dn, dw, dI, dO, dF⟩ ⟨sp, dp, sq, ac, fl, wi, da⟩ = ⟨dm, di1, dp1, dd, ds, du, dn, dw, dI, dO, dF⟩ := by unfold tdV; dsimp only; rw [if_neg (fun h => q h.1)]
        rw [hV]
        exact tkNa_any mc ip po di st un nx wa inn out fin sp dp sq ac fl wi da dm di1 dp1 dd ds du dn dw dI dO dF w t4 f4 f2 f16' TK0 v1 v4 ed (by simp [q])
end Go.Proofs.Ytfgghffgfefgpaa

namespace Go.Proofs.Ytfgghffgfefgpaa
open Go.RowKit Go.PlainAid Go.Proofs.Ytfgghffgfefgpaa.Bt Go.Sort
set_option linter.unusedVariables false
set_option maxRecDepth 20000

set_option maxHeartbeats 16000000 in
theorem takeData_any (mc : ByteArray) (ip po di st un nx wa : Int) (inn out : ByteArray) (fin : Bool) (sp dp sq ac fl wi : Int) (da : ByteArray) (w : World) (hin : inn.size ≤ 300) (hda : da.size ≤ 360) (hwa : 0 ≤ wa ∧ wa ≤ 4294967295) :
    Calls Try.prog 85 #[.agg #[.string mc, .int .i64 ip, .int .i64 po, .int .i64 di, .int .i64 st, .int .i64 un, .int .i64 nx, .int .i64 wa, .string inn, .string out, .bool fin], .agg #[.int .i64 sp, .int .i64 dp, .int .i64 sq, .int .i64 ac, .int .i64 fl, .int .i64 wi, .string da]] w fun e w' => ∃ v, e = .returned (.tuple #[cvA (if tdN ⟨mc, ip, po, di, st, un, nx, wa, inn, out, fin⟩ ⟨sp, dp, sq, ac, fl, wi, da⟩ = true then ⟨mc, ip, po, di, st, un, nx, wa, inn, out, fin⟩ else tdV ⟨mc, ip, po, di, st, un, nx, wa, inn, out, fin⟩ ⟨sp, dp, sq, ac, fl, wi, da⟩), v]) ∧ OwnS sgG 7 27 w' w.heap.size v (if tdN ⟨mc, ip, po, di, st, un, nx, wa, inn, out, fin⟩ ⟨sp, dp, sq, ac, fl, wi, da⟩ = true then [] else [agS (tdV ⟨mc, ip, po, di, st, un, nx, wa, inn, out, fin⟩ ⟨sp, dp, sq, ac, fl, wi, da⟩)]) ∧ Below w.heap.size w w' := by
  obtain ⟨hw0, hw1⟩ := hwa
  have TF : Hid (∀ w, Calls Try.prog 83 #[.agg #[.int .i64 sp, .int .i64 dp, .int .i64 sq, .int .i64 ac, .int .i64 fl, .int .i64 wi, .string da], .int .i64 1] w fun e w' => e = .returned (.bool (tfB ⟨sp, dp, sq, ac, fl, wi, da⟩ 1)) ∧ Grw w w') := fun w => hasFlag_any sp dp sq ac fl wi da 1 w
  have EN : tdN ⟨mc, ip, po, di, st, un, nx, wa, inn, out, fin⟩ ⟨sp, dp, sq, ac, fl, wi, da⟩ = ((st == 1) || (st == 4) || ((da.toList == []) && !tfB ⟨sp, dp, sq, ac, fl, wi, da⟩ 1)) := rfl
  have EV : tdV ⟨mc, ip, po, di, st, un, nx, wa, inn, out, fin⟩ ⟨sp, dp, sq, ac, fl, wi, da⟩ = if sq = wa ∧ inn.size + da.size ≤ 300 then ⟨mc, ip, po, di, st, un, nx, if tfB ⟨sp, dp, sq, ac, fl, wi, da⟩ 1 = true then sqN (sqN (wa + (da.size : Int)) + 1) else sqN (wa + (da.size : Int)), inn ++ da, out, fin⟩ else ⟨mc, ip, po, di, st, un, nx, wa, inn, out, fin⟩ := rfl
  have TQ : Hid (∀ w, Calls Try.prog 40 #[.int .i64 wa, .int .i64 (da.size : Int)] w fun e w' => e = .returned (.int .i64 (sqN (wa + (da.size : Int)))) ∧ w' = w) := fun w => seqAfter_any wa (da.size : Int) w hw0 (by omega) (by omega) (by omega)
  have TR : Hid (∀ w, Calls Try.prog 40 #[.int .i64 (sqN (wa + (da.size : Int))), .int .i64 1] w fun e w' => e = .returned (.int .i64 (sqN (sqN (wa + (da.size : Int)) + 1))) ∧ w' = w) := fun w => by
    have := sqN_bd (wa + (da.size : Int))
    exact seqAfter_any _ 1 w this.1 (by omega) (by omega) (by omega)
  generalize sqN (sqN (wa + (da.size : Int)) + 1) = NQ2 at TR EV
  generalize sqN (wa + (da.size : Int)) = NQ at TQ TR EV
  generalize tfB ⟨sp, dp, sq, ac, fl, wi, da⟩ 1 = ff at TF EN EV
  generalize tdN ⟨mc, ip, po, di, st, un, nx, wa, inn, out, fin⟩ ⟨sp, dp, sq, ac, fl, wi, da⟩ = PN at EN ⊢
  generalize tdV ⟨mc, ip, po, di, st, un, nx, wa, inn, out, fin⟩ ⟨sp, dp, sq, ac, fl, wi, da⟩ = PV at EV ⊢
  generalize e1 : (st == 1) = d1 at EN
  generalize e4 : (st == 4) = d4 at EN
  generalize ed : (da.toList == []) = dd at EN
  have hadd : ∀ wx : World, (Op.stringOp .add inn da).run Try.prog wx = .ok (.string (inn ++ da)) wx := fun wx => run_string_add_sum (P := Try.prog) (w := wx) _ _ (by omega)
  cases d1 with
  | true =>
    obtain rfl : PN = true := by rw [EN]; rfl
    rw [if_pos rfl, if_pos rfl]
    clear EN EV TF TQ TR hadd
    go_enter Try.func85, Try.ntmps85
    go_wp2
    (try simp only [Exit.inBlock, Exit.then])
    refine bodyPost_ret (v := .tuple #[.agg #[.string mc, .int .i64 ip, .int .i64 po, .int .i64 di, .int .i64 st, .int .i64 un, .int .i64 nx, .int .i64 wa, .string inn, .string out, .bool fin], .slice none 0 0]) (by simp [results, Try.results85, go_sem]; try rfl) rfl ?_
    exact ⟨_, rfl, OwnS.nil _ _, ((((Below.refl _ _).alloc (Nat.le_refl _) _).alloc (by simp) _).alloc (by simp; omega) _)⟩
  | false =>
  cases d4 with
  | true =>
    obtain rfl : PN = true := by rw [EN]; rfl
    rw [if_pos rfl, if_pos rfl]
    clear EN EV TF TQ TR hadd
    go_enter Try.func85, Try.ntmps85
    go_wp2
    (try simp only [Exit.inBlock, Exit.then])
    refine bodyPost_ret (v := .tuple #[.agg #[.string mc, .int .i64 ip, .int .i64 po, .int .i64 di, .int .i64 st, .int .i64 un, .int .i64 nx, .int .i64 wa, .string inn, .string out, .bool fin], .slice none 0 0]) (by simp [results, Try.results85, go_sem]; try rfl) rfl ?_
    exact ⟨_, rfl, OwnS.nil _ _, ((((Below.refl _ _).alloc (Nat.le_refl _) _).alloc (by simp) _).alloc (by simp; omega) _)⟩
  | false =>
  have hfit : decide ((da.size : Int) ≤ 300 - (inn.size : Int)) = decide (inn.size + da.size ≤ 300) := by
    by_cases h : inn.size + da.size ≤ 300
    · rw [decide_eq_true h]; exact decide_eq_true (by omega)
    · rw [decide_eq_false h]; exact decide_eq_false (by omega)
  cases dd with
  | true =>
    cases ff with
    | false =>
      obtain rfl : PN = true := by rw [EN]; rfl
      rw [if_pos rfl, if_pos rfl]
      clear EN EV TQ TR hadd hfit
      have C0 : Bx (((w.alloc (.cells #[.string mc, .int .i64 ip, .int .i64 po, .int .i64 di, .int .i64 st, .int .i64 un, .int .i64 nx, .int .i64 wa, .string inn, .string out, .bool fin] 24)).alloc (.cells #[.int .i64 sp, .int .i64 dp, .int .i64 sq, .int .i64 ac, .int .i64 fl, .int .i64 wi, .string da] 27)).alloc (.cells #[.string ⟨#[]⟩, .int .i64 0, .int .i64 0, .int .i64 0, .int .i64 0, .int .i64 0, .int .i64 0, .int .i64 0, .string ⟨#[]⟩, .string ⟨#[]⟩, .bool false] 24)) w.heap.size [.string mc, .int .i64 ip, .int .i64 po, .int .i64 di, .int .i64 st, .int .i64 un, .int .i64 nx, .int .i64 wa, .string inn, .string out, .bool fin] := ((Bx.new w _ _).below ((Below.refl _ _).alloc (Nat.le_refl _) _)).below ((Below.refl _ _).alloc (Nat.le_refl _) _)
      have G0 : Bx (((w.alloc (.cells #[.string mc, .int .i64 ip, .int .i64 po, .int .i64 di, .int .i64 st, .int .i64 un, .int .i64 nx, .int .i64 wa, .string inn, .string out, .bool fin] 24)).alloc (.cells #[.int .i64 sp, .int .i64 dp, .int .i64 sq, .int .i64 ac, .int .i64 fl, .int .i64 wi, .string da] 27)).alloc (.cells #[.string ⟨#[]⟩, .int .i64 0, .int .i64 0, .int .i64 0, .int .i64 0, .int .i64 0, .int .i64 0, .int .i64 0, .string ⟨#[]⟩, .string ⟨#[]⟩, .bool false] 24)) (w.heap.size + 1) [.int .i64 sp, .int .i64 dp, .int .i64 sq, .int .i64 ac, .int .i64 fl, .int .i64 wi, .string da] := by
        have h := (Bx.new (w.alloc (.cells #[.string mc, .int .i64 ip, .int .i64 po, .int .i64 di, .int .i64 st, .int .i64 un, .int .i64 nx, .int .i64 wa, .string inn, .string out, .bool fin] 24)) #[.int .i64 sp, .int .i64 dp, .int .i64 sq, .int .i64 ac, .int .i64 fl, .int .i64 wi, .string da] 27).below ((Below.refl _ _).alloc (Nat.le_refl _) (.cells #[.string ⟨#[]⟩, .int .i64 0, .int .i64 0, .int .i64 0, .int .i64 0, .int .i64 0, .int .i64 0, .int .i64 0, .string ⟨#[]⟩, .string ⟨#[]⟩, .bool false] 24))
        rw [World.size_alloc] at h
        exact h
      have R0 : Bx (((w.alloc (.cells #[.string mc, .int .i64 ip, .int .i64 po, .int .i64 di, .int .i64 st, .int .i64 un, .int .i64 nx, .int .i64 wa, .string inn, .string out, .bool fin] 24)).alloc (.cells #[.int .i64 sp, .int .i64 dp, .int .i64 sq, .int .i64 ac, .int .i64 fl, .int .i64 wi, .string da] 27)).alloc (.cells #[.string ⟨#[]⟩, .int .i64 0, .int .i64 0, .int .i64 0, .int .i64 0, .int .i64 0, .int .i64 0, .int .i64 0, .string ⟨#[]⟩, .string ⟨#[]⟩, .bool false] 24)) (w.heap.size + 1 + 1) [.string ⟨#[]⟩, .int .i64 0, .int .i64 0, .int .i64 0, .int .i64 0, .int .i64 0, .int .i64 0, .int .i64 0, .string ⟨#[]⟩, .string ⟨#[]⟩, .bool false] := by
        have h := Bx.new ((w.alloc (.cells #[.string mc, .int .i64 ip, .int .i64 po, .int .i64 di, .int .i64 st, .int .i64 un, .int .i64 nx, .int .i64 wa, .string inn, .string out, .bool fin] 24)).alloc (.cells #[.int .i64 sp, .int .i64 dp, .int .i64 sq, .int .i64 ac, .int .i64 fl, .int .i64 wi, .string da] 27)) #[.string ⟨#[]⟩, .int .i64 0, .int .i64 0, .int .i64 0, .int .i64 0, .int .i64 0, .int .i64 0, .int .i64 0, .string ⟨#[]⟩, .string ⟨#[]⟩, .bool false] 24
        rw [World.size_alloc, World.size_alloc] at h
        exact h
      have B0 : Hid (Below w.heap.size w (((w.alloc (.cells #[.string mc, .int .i64 ip, .int .i64 po, .int .i64 di, .int .i64 st, .int .i64 un, .int .i64 nx, .int .i64 wa, .string inn, .string out, .bool fin] 24)).alloc (.cells #[.int .i64 sp, .int .i64 dp, .int .i64 sq, .int .i64 ac, .int .i64 fl, .int .i64 wi, .string da] 27)).alloc (.cells #[.string ⟨#[]⟩, .int .i64 0, .int .i64 0, .int .i64 0, .int .i64 0, .int .i64 0, .int .i64 0, .int .i64 0, .string ⟨#[]⟩, .string ⟨#[]⟩, .bool false] 24))) := ((((Below.refl _ _).alloc (Nat.le_refl _) _).alloc (by simp) _).alloc (by simp; omega) _)
      go_enter Try.func85, Try.ntmps85
      go_wp2_with (first | (refine wpl_get rfl _ rfl _ rfl (by assumption) rfl ?_) | (refine wpl_getS rfl _ rfl _ rfl (by assumption) rfl ?_) | fail)
      refine (TF.out _).mono ?_
      rintro e w1 ⟨rfl, g1⟩
      have b1 := g1.below
      have C1 : Bx w1 w.heap.size [.string mc, .int .i64 ip, .int .i64 po, .int .i64 di, .int .i64 st, .int .i64 un, .int .i64 nx, .int .i64 wa, .string inn, .string out, .bool fin] := C0.below b1
      have G1 : Bx w1 (w.heap.size + 1) [.int .i64 sp, .int .i64 dp, .int .i64 sq, .int .i64 ac, .int .i64 fl, .int .i64 wi, .string da] := G0.below b1
      have R1 : Bx w1 (w.heap.size + 1 + 1) [.string ⟨#[]⟩, .int .i64 0, .int .i64 0, .int .i64 0, .int .i64 0, .int .i64 0, .int .i64 0, .int .i64 0, .string ⟨#[]⟩, .string ⟨#[]⟩, .bool false] := R0.below b1
      have B1 : Hid (Below w.heap.size w w1) := B0.out.trans (b1.mono B0.out.size)
      have e1 : w1.cell? ⟨w.heap.size + 1, 2, none⟩ = some (.int .i64 sq) := G1.cell 2 rfl
      have d1 : w1.cell? ⟨w.heap.size + 1, 6, none⟩ = some (.string da) := G1.cell 6 rfl
      clear b1 g1
      have v1_4 : w1.cell? ⟨w.heap.size, 4, none⟩ = some (.int .i64 st) := C1.cell 4 rfl
      have v1_7 : w1.cell? ⟨w.heap.size, 7, none⟩ = some (.int .i64 wa) := C1.cell 7 rfl
      have v1_8 : w1.cell? ⟨w.heap.size, 8, none⟩ = some (.string inn) := C1.cell 8 rfl
      go_wp2_with (first | (refine wpl_put rfl _ _ rfl (w.heap.size + 1 + 1) _ rfl rfl R1 rfl rfl rfl ?_; intro w5 hw5 R5; have B5 : Hid (Below w.heap.size w w5) := (by rw [hw5]; exact below_cells (by omega) _ _ _ B1.out); clear hw5) | (refine wpl_get rfl _ rfl _ rfl (by assumption) rfl ?_) | fail)
      have xx0 : w5.cell? ⟨w.heap.size + 1 + 1, 0, none⟩ = some (.string mc) := R5.cell 0 rfl
      have xx1 : w5.cell? ⟨w.heap.size + 1 + 1, 1, none⟩ = some (.int .i64 ip) := R5.cell 1 rfl
      have xx2 : w5.cell? ⟨w.heap.size + 1 + 1, 2, none⟩ = some (.int .i64 po) := R5.cell 2 rfl
      have xx3 : w5.cell? ⟨w.heap.size + 1 + 1, 3, none⟩ = some (.int .i64 di) := R5.cell 3 rfl
      have xx4 : w5.cell? ⟨w.heap.size + 1 + 1, 4, none⟩ = some (.int .i64 st) := R5.cell 4 rfl
      have xx5 : w5.cell? ⟨w.heap.size + 1 + 1, 5, none⟩ = some (.int .i64 un) := R5.cell 5 rfl
      have xx6 : w5.cell? ⟨w.heap.size + 1 + 1, 6, none⟩ = some (.int .i64 nx) := R5.cell 6 rfl
      have xx7 : w5.cell? ⟨w.heap.size + 1 + 1, 7, none⟩ = some (.int .i64 wa) := R5.cell 7 rfl
      have xx8 : w5.cell? ⟨w.heap.size + 1 + 1, 8, none⟩ = some (.string inn) := R5.cell 8 rfl
      have xx9 : w5.cell? ⟨w.heap.size + 1 + 1, 9, none⟩ = some (.string out) := R5.cell 9 rfl
      have xx10 : w5.cell? ⟨w.heap.size + 1 + 1, 10, none⟩ = some (.bool fin) := R5.cell 10 rfl
      (try simp only [Exit.inBlock, Exit.then])
      refine bodyPost_ret (v := .tuple #[.agg #[.string mc, .int .i64 ip, .int .i64 po, .int .i64 di, .int .i64 st, .int .i64 un, .int .i64 nx, .int .i64 wa, .string inn, .string out, .bool fin], .slice none 0 0]) (by simp [results, Try.results85, go_sem, xx0, xx1, xx2, xx3, xx4, xx5, xx6, xx7, xx8, xx9, xx10]; try rfl) rfl ?_
      exact ⟨_, rfl, OwnS.nil _ _, B5.out⟩
    | true =>
      obtain rfl : PN = false := by rw [EN]; rfl
      rw [if_neg (by decide), if_neg (by decide)]
      by_cases hp : sq = wa ∧ inn.size + da.size ≤ 300
      · rw [if_pos hp, if_pos rfl] at EV
        rw [EV]
        have q1 : (sq == wa) = true := by simp [hp.1]
        rw [decide_eq_true hp.2] at hfit
        clear EN EV hp
        have TA : Hid (∀ w, Calls Try.prog 87 #[.agg #[.string mc, .int .i64 ip, .int .i64 po, .int .i64 di, .int .i64 st, .int .i64 un, .int .i64 nx, .int .i64 NQ2, .string (inn ++ da), .string out, .bool fin]] w fun e w' => e = .returned (.agg #[.int .i64 80, .int .i64 po, .int .i64 nx, .int .i64 NQ2, .int .i64 16, .int .i64 1000, .string ⟨#[]⟩]) ∧ Grw w w') := fun w => acking_any mc ip po di st un nx NQ2 ((inn ++ da)) out fin w
        have C0 : Bx (((w.alloc (.cells #[.string mc, .int .i64 ip, .int .i64 po, .int .i64 di, .int .i64 st, .int .i64 un, .int .i64 nx, .int .i64 wa, .string inn, .string out, .bool fin] 24)).alloc (.cells #[.int .i64 sp, .int .i64 dp, .int .i64 sq, .int .i64 ac, .int .i64 fl, .int .i64 wi, .string da] 27)).alloc (.cells #[.string ⟨#[]⟩, .int .i64 0, .int .i64 0, .int .i64 0, .int .i64 0, .int .i64 0, .int .i64 0, .int .i64 0, .string ⟨#[]⟩, .string ⟨#[]⟩, .bool false] 24)) w.heap.size [.string mc, .int .i64 ip, .int .i64 po, .int .i64 di, .int .i64 st, .int .i64 un, .int .i64 nx, .int .i64 wa, .string inn, .string out, .bool fin] := ((Bx.new w _ _).below ((Below.refl _ _).alloc (Nat.le_refl _) _)).below ((Below.refl _ _).alloc (Nat.le_refl _) _)
        have G0 : Bx (((w.alloc (.cells #[.string mc, .int .i64 ip, .int .i64 po, .int .i64 di, .int .i64 st, .int .i64 un, .int .i64 nx, .int .i64 wa, .string inn, .string out, .bool fin] 24)).alloc (.cells #[.int .i64 sp, .int .i64 dp, .int .i64 sq, .int .i64 ac, .int .i64 fl, .int .i64 wi, .string da] 27)).alloc (.cells #[.string ⟨#[]⟩, .int .i64 0, .int .i64 0, .int .i64 0, .int .i64 0, .int .i64 0, .int .i64 0, .int .i64 0, .string ⟨#[]⟩, .string ⟨#[]⟩, .bool false] 24)) (w.heap.size + 1) [.int .i64 sp, .int .i64 dp, .int .i64 sq, .int .i64 ac, .int .i64 fl, .int .i64 wi, .string da] := by
          have h := (Bx.new (w.alloc (.cells #[.string mc, .int .i64 ip, .int .i64 po, .int .i64 di, .int .i64 st, .int .i64 un, .int .i64 nx, .int .i64 wa, .string inn, .string out, .bool fin] 24)) #[.int .i64 sp, .int .i64 dp, .int .i64 sq, .int .i64 ac, .int .i64 fl, .int .i64 wi, .string da] 27).below ((Below.refl _ _).alloc (Nat.le_refl _) (.cells #[.string ⟨#[]⟩, .int .i64 0, .int .i64 0, .int .i64 0, .int .i64 0, .int .i64 0, .int .i64 0, .int .i64 0, .string ⟨#[]⟩, .string ⟨#[]⟩, .bool false] 24))
          rw [World.size_alloc] at h
          exact h
        have R0 : Bx (((w.alloc (.cells #[.string mc, .int .i64 ip, .int .i64 po, .int .i64 di, .int .i64 st, .int .i64 un, .int .i64 nx, .int .i64 wa, .string inn, .string out, .bool fin] 24)).alloc (.cells #[.int .i64 sp, .int .i64 dp, .int .i64 sq, .int .i64 ac, .int .i64 fl, .int .i64 wi, .string da] 27)).alloc (.cells #[.string ⟨#[]⟩, .int .i64 0, .int .i64 0, .int .i64 0, .int .i64 0, .int .i64 0, .int .i64 0, .int .i64 0, .string ⟨#[]⟩, .string ⟨#[]⟩, .bool false] 24)) (w.heap.size + 1 + 1) [.string ⟨#[]⟩, .int .i64 0, .int .i64 0, .int .i64 0, .int .i64 0, .int .i64 0, .int .i64 0, .int .i64 0, .string ⟨#[]⟩, .string ⟨#[]⟩, .bool false] := by
          have h := Bx.new ((w.alloc (.cells #[.string mc, .int .i64 ip, .int .i64 po, .int .i64 di, .int .i64 st, .int .i64 un, .int .i64 nx, .int .i64 wa, .string inn, .string out, .bool fin] 24)).alloc (.cells #[.int .i64 sp, .int .i64 dp, .int .i64 sq, .int .i64 ac, .int .i64 fl, .int .i64 wi, .string da] 27)) #[.string ⟨#[]⟩, .int .i64 0, .int .i64 0, .int .i64 0, .int .i64 0, .int .i64 0, .int .i64 0, .int .i64 0, .string ⟨#[]⟩, .string ⟨#[]⟩, .bool false] 24
          rw [World.size_alloc, World.size_alloc] at h
          exact h
        have B0 : Hid (Below w.heap.size w (((w.alloc (.cells #[.string mc, .int .i64 ip, .int .i64 po, .int .i64 di, .int .i64 st, .int .i64 un, .int .i64 nx, .int .i64 wa, .string inn, .string out, .bool fin] 24)).alloc (.cells #[.int .i64 sp, .int .i64 dp, .int .i64 sq, .int .i64 ac, .int .i64 fl, .int .i64 wi, .string da] 27)).alloc (.cells #[.string ⟨#[]⟩, .int .i64 0, .int .i64 0, .int .i64 0, .int .i64 0, .int .i64 0, .int .i64 0, .int .i64 0, .string ⟨#[]⟩, .string ⟨#[]⟩, .bool false] 24))) := ((((Below.refl _ _).alloc (Nat.le_refl _) _).alloc (by simp) _).alloc (by simp; omega) _)
        go_enter Try.func85, Try.ntmps85
        go_wp2_with (first | (refine wpl_get rfl _ rfl _ rfl (by assumption) rfl ?_) | (refine wpl_getS rfl _ rfl _ rfl (by assumption) rfl ?_) | fail)
        refine (TF.out _).mono ?_
        rintro e w1 ⟨rfl, g1⟩
        have b1 := g1.below
        have C1 : Bx w1 w.heap.size [.string mc, .int .i64 ip, .int .i64 po, .int .i64 di, .int .i64 st, .int .i64 un, .int .i64 nx, .int .i64 wa, .string inn, .string out, .bool fin] := C0.below b1
        have G1 : Bx w1 (w.heap.size + 1) [.int .i64 sp, .int .i64 dp, .int .i64 sq, .int .i64 ac, .int .i64 fl, .int .i64 wi, .string da] := G0.below b1
        have R1 : Bx w1 (w.heap.size + 1 + 1) [.string ⟨#[]⟩, .int .i64 0, .int .i64 0, .int .i64 0, .int .i64 0, .int .i64 0, .int .i64 0, .int .i64 0, .string ⟨#[]⟩, .string ⟨#[]⟩, .bool false] := R0.below b1
        have B1 : Hid (Below w.heap.size w w1) := B0.out.trans (b1.mono B0.out.size)
        have e1 : w1.cell? ⟨w.heap.size + 1, 2, none⟩ = some (.int .i64 sq) := G1.cell 2 rfl
        have d1 : w1.cell? ⟨w.heap.size + 1, 6, none⟩ = some (.string da) := G1.cell 6 rfl
        clear b1 g1
        have v1_4 : w1.cell? ⟨w.heap.size, 4, none⟩ = some (.int .i64 st) := C1.cell 4 rfl
        have v1_7 : w1.cell? ⟨w.heap.size, 7, none⟩ = some (.int .i64 wa) := C1.cell 7 rfl
        have v1_8 : w1.cell? ⟨w.heap.size, 8, none⟩ = some (.string inn) := C1.cell 8 rfl
        have f8 : w1.frozen? ⟨w.heap.size, 8, none⟩ = false := C1.thaw 8 (by simp)
        have f7 : w1.frozen? ⟨w.heap.size, 7, none⟩ = false := C1.thaw 7 (by simp)
        have C4 : Bx ((w1.setCell ⟨w.heap.size, 8, none⟩ (.string (inn ++ da))).setCell ⟨w.heap.size, 7, none⟩ (.int .i64 NQ)) w.heap.size [.string mc, .int .i64 ip, .int .i64 po, .int .i64 di, .int .i64 st, .int .i64 un, .int .i64 nx, .int .i64 NQ, .string (inn ++ da), .string out, .bool fin] := (C1.field 8 _).field 7 _
        have G4 : Bx ((w1.setCell ⟨w.heap.size, 8, none⟩ (.string (inn ++ da))).setCell ⟨w.heap.size, 7, none⟩ (.int .i64 NQ)) (w.heap.size + 1) [.int .i64 sp, .int .i64 dp, .int .i64 sq, .int .i64 ac, .int .i64 fl, .int .i64 wi, .string da] := (G1.far _ _ (by dsimp only; omega)).far _ _ (by dsimp only; omega)
        have R4 : Bx ((w1.setCell ⟨w.heap.size, 8, none⟩ (.string (inn ++ da))).setCell ⟨w.heap.size, 7, none⟩ (.int .i64 NQ)) (w.heap.size + 1 + 1) [.string ⟨#[]⟩, .int .i64 0, .int .i64 0, .int .i64 0, .int .i64 0, .int .i64 0, .int .i64 0, .int .i64 0, .string ⟨#[]⟩, .string ⟨#[]⟩, .bool false] := (R1.far _ _ (by dsimp only; omega)).far _ _ (by dsimp only; omega)
        have B4 : Hid (Below w.heap.size w ((w1.setCell ⟨w.heap.size, 8, none⟩ (.string (inn ++ da))).setCell ⟨w.heap.size, 7, none⟩ (.int .i64 NQ))) := (B1.out.setCell (Nat.le_refl _) _).setCell (Nat.le_refl _) _
        clear C0 G0 R0 B0
        go_wp2_with fail
        refine (TQ.out _).mono ?_
        rintro e w1 ⟨rfl, hw⟩
        subst hw
        go_wp2_with (first | (refine wpl_get rfl _ rfl _ rfl (by assumption) rfl ?_) | (refine wpl_getS rfl _ rfl _ rfl (by assumption) rfl ?_) | fail)
        refine (TF.out _).mono ?_
        rintro e w9 ⟨rfl, g9⟩
        have b9 := g9.below
        have C9 : Bx w9 w.heap.size [.string mc, .int .i64 ip, .int .i64 po, .int .i64 di, .int .i64 st, .int .i64 un, .int .i64 nx, .int .i64 NQ, .string (inn ++ da), .string out, .bool fin] := C4.below b9
        have G9 : Bx w9 (w.heap.size + 1) [.int .i64 sp, .int .i64 dp, .int .i64 sq, .int .i64 ac, .int .i64 fl, .int .i64 wi, .string da] := G4.below b9
        have R9 : Bx w9 (w.heap.size + 1 + 1) [.string ⟨#[]⟩, .int .i64 0, .int .i64 0, .int .i64 0, .int .i64 0, .int .i64 0, .int .i64 0, .int .i64 0, .string ⟨#[]⟩, .string ⟨#[]⟩, .bool false] := R4.below b9
        have B9 : Hid (Below w.heap.size w w9) := B4.out.trans (b9.mono B4.out.size)
        have e9 : w9.cell? ⟨w.heap.size + 1, 2, none⟩ = some (.int .i64 sq) := G9.cell 2 rfl
        have d9 : w9.cell? ⟨w.heap.size + 1, 6, none⟩ = some (.string da) := G9.cell 6 rfl
        clear b9 g9
        clear C4 G4 R4 B4 C1 G1 R1 B1 v1_4 v1_7 v1_8 f8 f7 e1 d1
        have u7 : w9.cell? ⟨w.heap.size, 7, none⟩ = some (.int .i64 NQ) := C9.cell 7 rfl
        have t7 : w9.frozen? ⟨w.heap.size, 7, none⟩ = false := C9.thaw 7 (by simp)
        go_wp2_with fail
        refine (TR.out _).mono ?_
        rintro e w1 ⟨rfl, hw⟩
        subst hw
        go_wp2_with fail
        have C5 : Bx (w1.setCell ⟨w.heap.size, 7, none⟩ (.int .i64 NQ2)) w.heap.size [.string mc, .int .i64 ip, .int .i64 po, .int .i64 di, .int .i64 st, .int .i64 un, .int .i64 nx, .int .i64 NQ2, .string (inn ++ da), .string out, .bool fin] := C9.field 7 _
        have R5 : Bx (w1.setCell ⟨w.heap.size, 7, none⟩ (.int .i64 NQ2)) (w.heap.size + 1 + 1) [.string ⟨#[]⟩, .int .i64 0, .int .i64 0, .int .i64 0, .int .i64 0, .int .i64 0, .int .i64 0, .int .i64 0, .string ⟨#[]⟩, .string ⟨#[]⟩, .bool false] := R9.far _ _ (by dsimp only; omega)
        have B5 : Hid (Below w.heap.size w (w1.setCell ⟨w.heap.size, 7, none⟩ (.int .i64 NQ2))) := B9.out.setCell (Nat.le_refl _) _
        clear C9 R9 G9 B9 u7 t7 e9 d9
        generalize w1.setCell ⟨w.heap.size, 7, none⟩ (.int .i64 NQ2) = w5 at C5 R5 B5 ⊢
        have hs5 : w.heap.size + 3 ≤ w5.heap.size := by
          have := World.block_lt_of_cell? w5 _ (R5.cell 0 rfl)
          dsimp only at this
          omega
        have SS : Hid (XQ (w.heap.size) [.string mc, .int .i64 ip, .int .i64 po, .int .i64 di, .int .i64 st, .int .i64 un, .int .i64 nx, .int .i64 NQ2, .string (inn ++ da), .string out, .bool fin] w w5.drew) := ⟨C5.below ((Below.refl _ _).drew), B5.out.drew⟩
        have RS : Hid (Bx w5.drew (w.heap.size + 1 + 1) [.string ⟨#[]⟩, .int .i64 0, .int .i64 0, .int .i64 0, .int .i64 0, .int .i64 0, .int .i64 0, .int .i64 0, .string ⟨#[]⟩, .string ⟨#[]⟩, .bool false]) := R5.below ((Below.refl _ _).drew)
        clear C5 R5 B5
        refine wp_region_held_drew (S := (fun wx => XQ (w.heap.size) [.string mc, .int .i64 ip, .int .i64 po, .int .i64 di, .int .i64 st, .int .i64 un, .int .i64 nx, .int .i64 NQ2, .string (inn ++ da), .string out, .bool fin] w wx)) (by kernel_rfl) ?_ (fun hH0 => ?_)
        · with_reducible exact SS.out
        refine wpAnyH_take (i := 0) (v := .agg #[.string mc, .int .i64 ip, .int .i64 po, .int .i64 di, .int .i64 st, .int .i64 un, .int .i64 nx, .int .i64 NQ2, .string (inn ++ da), .string out, .bool fin]) rfl (by kernel_rfl) (by kernel_rfl) (by kernel_rfl) (fun _ _ _ h => h) (yieldsIf_load_mid (by rfl) 24 _ rfl (w.heap.size) 0 rfl [.string mc, .int .i64 ip, .int .i64 po, .int .i64 di, .int .i64 st, .int .i64 un, .int .i64 nx, .int .i64 NQ2, .string (inn ++ da), .string out, .bool fin] _ (fun _ h => h.c.cl) Try.underlying24 rfl rfl) (by assumption) ?rest1001
        refine wpAnyH_take (i := 1) (v := .agg #[.string mc, .int .i64 ip, .int .i64 po, .int .i64 di, .int .i64 st, .int .i64 un, .int .i64 nx, .int .i64 NQ2, .string (inn ++ da), .string out, .bool fin]) rfl (by kernel_rfl) (by kernel_rfl) (by kernel_rfl) (fun _ _ _ h => h) (yieldsIf_load_mid (by rfl) 24 _ rfl (w.heap.size) 0 rfl [.string mc, .int .i64 ip, .int .i64 po, .int .i64 di, .int .i64 st, .int .i64 un, .int .i64 nx, .int .i64 NQ2, .string (inn ++ da), .string out, .bool fin] _ (fun _ h => h.c.cl) Try.underlying24 rfl rfl) (by assumption) ?rest1002
        refine wpAnyH_ready (rs := [2]) (by kernel_rfl) (by simp) ?_
        refine AllReadyH.cons rfl (fun K hK => ?_) ?_
        · go_simp
          go_at_call 87
          with_reducible refine (TA.out _).mono ?_
          rintro e w6 ⟨rfl, g6⟩
          have hs6 : w.heap.size + 3 ≤ w6.heap.size := Nat.le_trans (by simpa using hs5) g6.below.size
          have L6 : Hid (XQ (w.heap.size) [.string mc, .int .i64 ip, .int .i64 po, .int .i64 di, .int .i64 st, .int .i64 un, .int .i64 nx, .int .i64 NQ2, .string (inn ++ da), .string out, .bool fin] w w6) := SS.out.below g6.below
          have R6 : Hid (Bx w6 (w.heap.size + 1 + 1) [.string ⟨#[]⟩, .int .i64 0, .int .i64 0, .int .i64 0, .int .i64 0, .int .i64 0, .int .i64 0, .int .i64 0, .string ⟨#[]⟩, .string ⟨#[]⟩, .bool false]) := RS.out.below g6.below
          have LA : Hid (XQ (w.heap.size) [.string mc, .int .i64 ip, .int .i64 po, .int .i64 di, .int .i64 st, .int .i64 un, .int .i64 nx, .int .i64 NQ2, .string (inn ++ da), .string out, .bool fin] w (w6.alloc (.cells #[.int .i64 80, .int .i64 po, .int .i64 nx, .int .i64 NQ2, .int .i64 16, .int .i64 1000, .string ⟨#[]⟩] 27))) := L6.out.below ((Below.refl _ _).alloc (Nat.le_refl _) _)
          clear g6 SS RS
          refine hK.out _ _ ?_ (fun hH1003 => ?_)
          · (try dsimp only)
            first | (with_reducible exact L6.out) | (with_reducible exact LA.out) | (with_reducible exact F8.out.1) | (with_reducible exact F8.out.2)
          clear hK K hH0
          refine wpAnyH_ready (rs := [3, 4]) (by kernel_rfl) (by simp) ?_
          refine AllReadyH.cons rfl (fun K hK => ?_) ?_
          · go_simp
            refine hK.out _ _ ?_ (fun hH1004 => ?_)
            · (try dsimp only)
              first | (with_reducible exact L6.out) | (with_reducible exact LA.out) | (with_reducible exact F8.out.1) | (with_reducible exact F8.out.2)
            clear hK K hH1003
            refine wpAnyH_ready (rs := [4]) (by kernel_rfl) (by simp) ?_
            refine AllReadyH.cons rfl (fun K hK => ?_) ?_
            · skip
              refine wpr_put rfl _ _ rfl (w.heap.size + 1 + 1) _ rfl rfl (R6.out.below ((Below.refl _ _).alloc (Nat.le_refl _) (.cells #[.int .i64 80, .int .i64 po, .int .i64 nx, .int .i64 NQ2, .int .i64 16, .int .i64 1000, .string ⟨#[]⟩] 27))) rfl rfl rfl ?_
              intro w8 hw8 R8
              have F8 : Hid (XQ (w.heap.size) [.string mc, .int .i64 ip, .int .i64 po, .int .i64 di, .int .i64 st, .int .i64 un, .int .i64 nx, .int .i64 NQ2, .string (inn ++ da), .string out, .bool fin] w w8 ∧ OwnS sgG 7 27 w8 w.heap.size (.slice (some ⟨w6.heap.size, 0, none⟩) 1 1) [⟨80, po, nx, NQ2, 16, 1000, ⟨#[]⟩⟩]) := by
                rw [hw8]
                exact ⟨LA.out.cells (by omega) (by omega), (own_cells (by omega) _ _ _ (own1 w6 (w.heap.size + 3) 80 po nx NQ2 16 1000 ⟨#[]⟩ hs6)).lower (by omega)⟩
              clear hw8
              refine hK.out _ _ ?_ (fun hH1005 => ?_)
              · (try dsimp only)
                first | (with_reducible exact L6.out) | (with_reducible exact LA.out) | (with_reducible exact F8.out.1) | (with_reducible exact F8.out.2)
              clear hK K hH1004
              refine wpAnyH_take (i := 5) (v := ?v1006) rfl (by kernel_rfl) (by kernel_rfl) (by kernel_rfl) (fun _ _ _ h => h) (Or.inl ⟨by rfl, ?hy1006⟩) (by assumption) ?rest1006
              case hy1006 => (intro w hSw; (try dsimp only at hSw); go_simp; (try with_reducible rfl))
              refine wpAnyH_done (by kernel_rfl) ?_ _
              have O9 : Hid (OwnS sgG 7 27 w8 w.heap.size (.slice (some ⟨w6.heap.size, 0, none⟩) 1 1) [⟨80, po, nx, NQ2, 16, 1000, ⟨#[]⟩⟩] ∧ Below w.heap.size w w8) := ⟨F8.out.2, F8.out.1.out⟩
              have R9 := R8
              clear hH1005
              go_wp2
              have xx0 : w8.cell? ⟨w.heap.size + 1 + 1, 0, none⟩ = some (.string mc) := R9.cell 0 rfl
              have xx1 : w8.cell? ⟨w.heap.size + 1 + 1, 1, none⟩ = some (.int .i64 ip) := R9.cell 1 rfl
              have xx2 : w8.cell? ⟨w.heap.size + 1 + 1, 2, none⟩ = some (.int .i64 po) := R9.cell 2 rfl
              have xx3 : w8.cell? ⟨w.heap.size + 1 + 1, 3, none⟩ = some (.int .i64 di) := R9.cell 3 rfl
              have xx4 : w8.cell? ⟨w.heap.size + 1 + 1, 4, none⟩ = some (.int .i64 st) := R9.cell 4 rfl
              have xx5 : w8.cell? ⟨w.heap.size + 1 + 1, 5, none⟩ = some (.int .i64 un) := R9.cell 5 rfl
              have xx6 : w8.cell? ⟨w.heap.size + 1 + 1, 6, none⟩ = some (.int .i64 nx) := R9.cell 6 rfl
              have xx7 : w8.cell? ⟨w.heap.size + 1 + 1, 7, none⟩ = some (.int .i64 NQ2) := R9.cell 7 rfl
              have xx8 : w8.cell? ⟨w.heap.size + 1 + 1, 8, none⟩ = some (.string (inn ++ da)) := R9.cell 8 rfl
              have xx9 : w8.cell? ⟨w.heap.size + 1 + 1, 9, none⟩ = some (.string out) := R9.cell 9 rfl
              have xx10 : w8.cell? ⟨w.heap.size + 1 + 1, 10, none⟩ = some (.bool fin) := R9.cell 10 rfl
              (try simp only [Exit.inBlock, Exit.then])
              refine bodyPost_ret (v := .tuple #[.agg #[.string mc, .int .i64 ip, .int .i64 po, .int .i64 di, .int .i64 st, .int .i64 un, .int .i64 nx, .int .i64 NQ2, .string (inn ++ da), .string out, .bool fin], .slice (some ⟨w6.heap.size, 0, none⟩) 1 1]) (by simp [results, Try.results85, go_sem, xx0, xx1, xx2, xx3, xx4, xx5, xx6, xx7, xx8, xx9, xx10]; try rfl) rfl ?_
              exact ⟨_, rfl, O9.out.1, O9.out.2⟩
            exact AllReadyH.nil
          refine AllReadyH.cons rfl (fun K hK => ?_) ?_
          · skip
            refine wpr_put rfl _ _ rfl (w.heap.size + 1 + 1) _ rfl rfl R6.out rfl rfl rfl ?_
            intro w8 hw8 R8
            have hz8 : w.heap.size ≤ w8.heap.size := by
              have := World.block_lt_of_cell? w8 _ (R8.cell 0 rfl)
              dsimp only at this
              omega
            have F8 : Hid (XQ (w.heap.size) [.string mc, .int .i64 ip, .int .i64 po, .int .i64 di, .int .i64 st, .int .i64 un, .int .i64 nx, .int .i64 NQ2, .string (inn ++ da), .string out, .bool fin] w w8 ∧ XQ (w.heap.size) [.string mc, .int .i64 ip, .int .i64 po, .int .i64 di, .int .i64 st, .int .i64 un, .int .i64 nx, .int .i64 NQ2, .string (inn ++ da), .string out, .bool fin] w (w8.alloc (.cells #[.int .i64 80, .int .i64 po, .int .i64 nx, .int .i64 NQ2, .int .i64 16, .int .i64 1000, .string ⟨#[]⟩] 27))) := by
              have h : XQ (w.heap.size) [.string mc, .int .i64 ip, .int .i64 po, .int .i64 di, .int .i64 st, .int .i64 un, .int .i64 nx, .int .i64 NQ2, .string (inn ++ da), .string out, .bool fin] w w8 := by rw [hw8]; exact L6.out.cells (by omega) (by omega)
              exact ⟨h, h.below ((Below.refl _ _).alloc (Nat.le_refl _) _)⟩
            clear hw8
            refine hK.out _ _ ?_ (fun hH1007 => ?_)
            · (try dsimp only)
              first | (with_reducible exact L6.out) | (with_reducible exact LA.out) | (with_reducible exact F8.out.1) | (with_reducible exact F8.out.2)
            clear hK K hH1003
            refine wpAnyH_ready (rs := [3]) (by kernel_rfl) (by simp) ?_
            refine AllReadyH.cons rfl (fun K hK => ?_) ?_
            · go_simp
              refine hK.out _ _ ?_ (fun hH1008 => ?_)
              · (try dsimp only)
                first | (with_reducible exact L6.out) | (with_reducible exact LA.out) | (with_reducible exact F8.out.1) | (with_reducible exact F8.out.2)
              clear hK K hH1007
              refine wpAnyH_take (i := 5) (v := ?v1009) rfl (by kernel_rfl) (by kernel_rfl) (by kernel_rfl) (fun _ _ _ h => h) (Or.inl ⟨by rfl, ?hy1009⟩) (by assumption) ?rest1009
              case hy1009 => (intro w hSw; (try dsimp only at hSw); go_simp; (try with_reducible rfl))
              refine wpAnyH_done (by kernel_rfl) ?_ _
              have O9 : Hid (OwnS sgG 7 27 (w8.alloc (.cells #[.int .i64 80, .int .i64 po, .int .i64 nx, .int .i64 NQ2, .int .i64 16, .int .i64 1000, .string ⟨#[]⟩] 27)) w.heap.size (.slice (some ⟨w8.heap.size, 0, none⟩) 1 1) [⟨80, po, nx, NQ2, 16, 1000, ⟨#[]⟩⟩] ∧ Below w.heap.size w (w8.alloc (.cells #[.int .i64 80, .int .i64 po, .int .i64 nx, .int .i64 NQ2, .int .i64 16, .int .i64 1000, .string ⟨#[]⟩] 27))) := ⟨own1 w8 _ 80 po nx NQ2 16 1000 ⟨#[]⟩ hz8, F8.out.2.out⟩
              have R9 := R8.below ((Below.refl _ _).alloc (Nat.le_refl _) (.cells #[.int .i64 80, .int .i64 po, .int .i64 nx, .int .i64 NQ2, .int .i64 16, .int .i64 1000, .string ⟨#[]⟩] 27))
              clear hH1008
              generalize (w8.alloc (.cells #[.int .i64 80, .int .i64 po, .int .i64 nx, .int .i64 NQ2, .int .i64 16, .int .i64 1000, .string ⟨#[]⟩] 27)) = w9 at O9 R9 ⊢
              go_wp2
              have xx0 : w9.cell? ⟨w.heap.size + 1 + 1, 0, none⟩ = some (.string mc) := R9.cell 0 rfl
              have xx1 : w9.cell? ⟨w.heap.size + 1 + 1, 1, none⟩ = some (.int .i64 ip) := R9.cell 1 rfl
              have xx2 : w9.cell? ⟨w.heap.size + 1 + 1, 2, none⟩ = some (.int .i64 po) := R9.cell 2 rfl
              have xx3 : w9.cell? ⟨w.heap.size + 1 + 1, 3, none⟩ = some (.int .i64 di) := R9.cell 3 rfl
              have xx4 : w9.cell? ⟨w.heap.size + 1 + 1, 4, none⟩ = some (.int .i64 st) := R9.cell 4 rfl
              have xx5 : w9.cell? ⟨w.heap.size + 1 + 1, 5, none⟩ = some (.int .i64 un) := R9.cell 5 rfl
              have xx6 : w9.cell? ⟨w.heap.size + 1 + 1, 6, none⟩ = some (.int .i64 nx) := R9.cell 6 rfl
              have xx7 : w9.cell? ⟨w.heap.size + 1 + 1, 7, none⟩ = some (.int .i64 NQ2) := R9.cell 7 rfl
              have xx8 : w9.cell? ⟨w.heap.size + 1 + 1, 8, none⟩ = some (.string (inn ++ da)) := R9.cell 8 rfl
              have xx9 : w9.cell? ⟨w.heap.size + 1 + 1, 9, none⟩ = some (.string out) := R9.cell 9 rfl
              have xx10 : w9.cell? ⟨w.heap.size + 1 + 1, 10, none⟩ = some (.bool fin) := R9.cell 10 rfl
              (try simp only [Exit.inBlock, Exit.then])
              refine bodyPost_ret (v := .tuple #[.agg #[.string mc, .int .i64 ip, .int .i64 po, .int .i64 di, .int .i64 st, .int .i64 un, .int .i64 nx, .int .i64 NQ2, .string (inn ++ da), .string out, .bool fin], .slice (some ⟨w8.heap.size, 0, none⟩) 1 1]) (by simp [results, Try.results85, go_sem, xx0, xx1, xx2, xx3, xx4, xx5, xx6, xx7, xx8, xx9, xx10]; try rfl) rfl ?_
              exact ⟨_, rfl, O9.out.1, O9.out.2⟩
            exact AllReadyH.nil
          exact AllReadyH.nil
        exact AllReadyH.nil
      · rw [if_neg hp] at EV
        rw [EV]
        clear EN EV TQ TR hadd
        by_cases hs : sq = wa
        · have q1 : (sq == wa) = true := by simp [hs]
          rw [decide_eq_false (fun h => hp ⟨hs, h⟩)] at hfit
          clear hp hs
          have C0 : Bx (((w.alloc (.cells #[.string mc, .int .i64 ip, .int .i64 po, .int .i64 di, .int .i64 st, .int .i64 un, .int .i64 nx, .int .i64 wa, .string inn, .string out, .bool fin] 24)).alloc (.cells #[.int .i64 sp, .int .i64 dp, .int .i64 sq, .int .i64 ac, .int .i64 fl, .int .i64 wi, .string da] 27)).alloc (.cells #[.string ⟨#[]⟩, .int .i64 0, .int .i64 0, .int .i64 0, .int .i64 0, .int .i64 0, .int .i64 0, .int .i64 0, .string ⟨#[]⟩, .string ⟨#[]⟩, .bool false] 24)) w.heap.size [.string mc, .int .i64 ip, .int .i64 po, .int .i64 di, .int .i64 st, .int .i64 un, .int .i64 nx, .int .i64 wa, .string inn, .string out, .bool fin] := ((Bx.new w _ _).below ((Below.refl _ _).alloc (Nat.le_refl _) _)).below ((Below.refl _ _).alloc (Nat.le_refl _) _)
          have G0 : Bx (((w.alloc (.cells #[.string mc, .int .i64 ip, .int .i64 po, .int .i64 di, .int .i64 st, .int .i64 un, .int .i64 nx, .int .i64 wa, .string inn, .string out, .bool fin] 24)).alloc (.cells #[.int .i64 sp, .int .i64 dp, .int .i64 sq, .int .i64 ac, .int .i64 fl, .int .i64 wi, .string da] 27)).alloc (.cells #[.string ⟨#[]⟩, .int .i64 0, .int .i64 0, .int .i64 0, .int .i64 0, .int .i64 0, .int .i64 0, .int .i64 0, .string ⟨#[]⟩, .string ⟨#[]⟩, .bool false] 24)) (w.heap.size + 1) [.int .i64 sp, .int .i64 dp, .int .i64 sq, .int .i64 ac, .int .i64 fl, .int .i64 wi, .string da] := by
            have h := (Bx.new (w.alloc (.cells #[.string mc, .int .i64 ip, .int .i64 po, .int .i64 di, .int .i64 st, .int .i64 un, .int .i64 nx, .int .i64 wa, .string inn, .string out, .bool fin] 24)) #[.int .i64 sp, .int .i64 dp, .int .i64 sq, .int .i64 ac, .int .i64 fl, .int .i64 wi, .string da] 27).below ((Below.refl _ _).alloc (Nat.le_refl _) (.cells #[.string ⟨#[]⟩, .int .i64 0, .int .i64 0, .int .i64 0, .int .i64 0, .int .i64 0, .int .i64 0, .int .i64 0, .string ⟨#[]⟩, .string ⟨#[]⟩, .bool false] 24))
            rw [World.size_alloc] at h
            exact h
          have R0 : Bx (((w.alloc (.cells #[.string mc, .int .i64 ip, .int .i64 po, .int .i64 di, .int .i64 st, .int .i64 un, .int .i64 nx, .int .i64 wa, .string inn, .string out, .bool fin] 24)).alloc (.cells #[.int .i64 sp, .int .i64 dp, .int .i64 sq, .int .i64 ac, .int .i64 fl, .int .i64 wi, .string da] 27)).alloc (.cells #[.string ⟨#[]⟩, .int .i64 0, .int .i64 0, .int .i64 0, .int .i64 0, .int .i64 0, .int .i64 0, .int .i64 0, .string ⟨#[]⟩, .string ⟨#[]⟩, .bool false] 24)) (w.heap.size + 1 + 1) [.string ⟨#[]⟩, .int .i64 0, .int .i64 0, .int .i64 0, .int .i64 0, .int .i64 0, .int .i64 0, .int .i64 0, .string ⟨#[]⟩, .string ⟨#[]⟩, .bool false] := by
            have h := Bx.new ((w.alloc (.cells #[.string mc, .int .i64 ip, .int .i64 po, .int .i64 di, .int .i64 st, .int .i64 un, .int .i64 nx, .int .i64 wa, .string inn, .string out, .bool fin] 24)).alloc (.cells #[.int .i64 sp, .int .i64 dp, .int .i64 sq, .int .i64 ac, .int .i64 fl, .int .i64 wi, .string da] 27)) #[.string ⟨#[]⟩, .int .i64 0, .int .i64 0, .int .i64 0, .int .i64 0, .int .i64 0, .int .i64 0, .int .i64 0, .string ⟨#[]⟩, .string ⟨#[]⟩, .bool false] 24
            rw [World.size_alloc, World.size_alloc] at h
            exact h
          have B0 : Hid (Below w.heap.size w (((w.alloc (.cells #[.string mc, .int .i64 ip, .int .i64 po, .int .i64 di, .int .i64 st, .int .i64 un, .int .i64 nx, .int .i64 wa, .string inn, .string out, .bool fin] 24)).alloc (.cells #[.int .i64 sp, .int .i64 dp, .int .i64 sq, .int .i64 ac, .int .i64 fl, .int .i64 wi, .string da] 27)).alloc (.cells #[.string ⟨#[]⟩, .int .i64 0, .int .i64 0, .int .i64 0, .int .i64 0, .int .i64 0, .int .i64 0, .int .i64 0, .string ⟨#[]⟩, .string ⟨#[]⟩, .bool false] 24))) := ((((Below.refl _ _).alloc (Nat.le_refl _) _).alloc (by simp) _).alloc (by simp; omega) _)
          go_enter Try.func85, Try.ntmps85
          go_wp2_with (first | (refine wpl_get rfl _ rfl _ rfl (by assumption) rfl ?_) | (refine wpl_getS rfl _ rfl _ rfl (by assumption) rfl ?_) | fail)
          refine (TF.out _).mono ?_
          rintro e w1 ⟨rfl, g1⟩
          have b1 := g1.below
          have C1 : Bx w1 w.heap.size [.string mc, .int .i64 ip, .int .i64 po, .int .i64 di, .int .i64 st, .int .i64 un, .int .i64 nx, .int .i64 wa, .string inn, .string out, .bool fin] := C0.below b1
          have G1 : Bx w1 (w.heap.size + 1) [.int .i64 sp, .int .i64 dp, .int .i64 sq, .int .i64 ac, .int .i64 fl, .int .i64 wi, .string da] := G0.below b1
          have R1 : Bx w1 (w.heap.size + 1 + 1) [.string ⟨#[]⟩, .int .i64 0, .int .i64 0, .int .i64 0, .int .i64 0, .int .i64 0, .int .i64 0, .int .i64 0, .string ⟨#[]⟩, .string ⟨#[]⟩, .bool false] := R0.below b1
          have B1 : Hid (Below w.heap.size w w1) := B0.out.trans (b1.mono B0.out.size)
          have e1 : w1.cell? ⟨w.heap.size + 1, 2, none⟩ = some (.int .i64 sq) := G1.cell 2 rfl
          have d1 : w1.cell? ⟨w.heap.size + 1, 6, none⟩ = some (.string da) := G1.cell 6 rfl
          clear b1 g1
          have v1_4 : w1.cell? ⟨w.heap.size, 4, none⟩ = some (.int .i64 st) := C1.cell 4 rfl
          have v1_7 : w1.cell? ⟨w.heap.size, 7, none⟩ = some (.int .i64 wa) := C1.cell 7 rfl
          have v1_8 : w1.cell? ⟨w.heap.size, 8, none⟩ = some (.string inn) := C1.cell 8 rfl
          have TA : Hid (∀ w, Calls Try.prog 87 #[.agg #[.string mc, .int .i64 ip, .int .i64 po, .int .i64 di, .int .i64 st, .int .i64 un, .int .i64 nx, .int .i64 wa, .string inn, .string out, .bool fin]] w fun e w' => e = .returned (.agg #[.int .i64 80, .int .i64 po, .int .i64 nx, .int .i64 wa, .int .i64 16, .int .i64 1000, .string ⟨#[]⟩]) ∧ Grw w w') := fun w => acking_any mc ip po di st un nx wa inn out fin w
          clear TF C0 G0 R0 B0
          go_wp2_with fail
          clear v1_4 v1_7 v1_8 e1 d1
          have C5 := C1
          have R5 := R1
          have B5 := B1
          clear C1 R1 G1 B1
          generalize w1 = w5 at C5 R5 B5 ⊢
          have hs5 : w.heap.size + 3 ≤ w5.heap.size := by
            have := World.block_lt_of_cell? w5 _ (R5.cell 0 rfl)
            dsimp only at this
            omega
          have SS : Hid (XQ (w.heap.size) [.string mc, .int .i64 ip, .int .i64 po, .int .i64 di, .int .i64 st, .int .i64 un, .int .i64 nx, .int .i64 wa, .string inn, .string out, .bool fin] w w5.drew) := ⟨C5.below ((Below.refl _ _).drew), B5.out.drew⟩
          have RS : Hid (Bx w5.drew (w.heap.size + 1 + 1) [.string ⟨#[]⟩, .int .i64 0, .int .i64 0, .int .i64 0, .int .i64 0, .int .i64 0, .int .i64 0, .int .i64 0, .string ⟨#[]⟩, .string ⟨#[]⟩, .bool false]) := R5.below ((Below.refl _ _).drew)
          clear C5 R5 B5
          refine wp_region_held_drew (S := (fun wx => XQ (w.heap.size) [.string mc, .int .i64 ip, .int .i64 po, .int .i64 di, .int .i64 st, .int .i64 un, .int .i64 nx, .int .i64 wa, .string inn, .string out, .bool fin] w wx)) (by kernel_rfl) ?_ (fun hH0 => ?_)
          · with_reducible exact SS.out
          refine wpAnyH_take (i := 0) (v := .agg #[.string mc, .int .i64 ip, .int .i64 po, .int .i64 di, .int .i64 st, .int .i64 un, .int .i64 nx, .int .i64 wa, .string inn, .string out, .bool fin]) rfl (by kernel_rfl) (by kernel_rfl) (by kernel_rfl) (fun _ _ _ h => h) (yieldsIf_load_mid (by rfl) 24 _ rfl (w.heap.size) 0 rfl [.string mc, .int .i64 ip, .int .i64 po, .int .i64 di, .int .i64 st, .int .i64 un, .int .i64 nx, .int .i64 wa, .string inn, .string out, .bool fin] _ (fun _ h => h.c.cl) Try.underlying24 rfl rfl) (by assumption) ?rest4001
          refine wpAnyH_take (i := 1) (v := .agg #[.string mc, .int .i64 ip, .int .i64 po, .int .i64 di, .int .i64 st, .int .i64 un, .int .i64 nx, .int .i64 wa, .string inn, .string out, .bool fin]) rfl (by kernel_rfl) (by kernel_rfl) (by kernel_rfl) (fun _ _ _ h => h) (yieldsIf_load_mid (by rfl) 24 _ rfl (w.heap.size) 0 rfl [.string mc, .int .i64 ip, .int .i64 po, .int .i64 di, .int .i64 st, .int .i64 un, .int .i64 nx, .int .i64 wa, .string inn, .string out, .bool fin] _ (fun _ h => h.c.cl) Try.underlying24 rfl rfl) (by assumption) ?rest4002
          refine wpAnyH_ready (rs := [2]) (by kernel_rfl) (by simp) ?_
          refine AllReadyH.cons rfl (fun K hK => ?_) ?_
          · go_simp
            go_at_call 87
            with_reducible refine (TA.out _).mono ?_
            rintro e w6 ⟨rfl, g6⟩
            have hs6 : w.heap.size + 3 ≤ w6.heap.size := Nat.le_trans (by simpa using hs5) g6.below.size
            have L6 : Hid (XQ (w.heap.size) [.string mc, .int .i64 ip, .int .i64 po, .int .i64 di, .int .i64 st, .int .i64 un, .int .i64 nx, .int .i64 wa, .string inn, .string out, .bool fin] w w6) := SS.out.below g6.below
            have R6 : Hid (Bx w6 (w.heap.size + 1 + 1) [.string ⟨#[]⟩, .int .i64 0, .int .i64 0, .int .i64 0, .int .i64 0, .int .i64 0, .int .i64 0, .int .i64 0, .string ⟨#[]⟩, .string ⟨#[]⟩, .bool false]) := RS.out.below g6.below
            have LA : Hid (XQ (w.heap.size) [.string mc, .int .i64 ip, .int .i64 po, .int .i64 di, .int .i64 st, .int .i64 un, .int .i64 nx, .int .i64 wa, .string inn, .string out, .bool fin] w (w6.alloc (.cells #[.int .i64 80, .int .i64 po, .int .i64 nx, .int .i64 wa, .int .i64 16, .int .i64 1000, .string ⟨#[]⟩] 27))) := L6.out.below ((Below.refl _ _).alloc (Nat.le_refl _) _)
            clear g6 SS RS
            refine hK.out _ _ ?_ (fun hH4003 => ?_)
            · (try dsimp only)
              first | (with_reducible exact L6.out) | (with_reducible exact LA.out) | (with_reducible exact F8.out.1) | (with_reducible exact F8.out.2)
            clear hK K hH0
            refine wpAnyH_ready (rs := [3, 4]) (by kernel_rfl) (by simp) ?_
            refine AllReadyH.cons rfl (fun K hK => ?_) ?_
            · go_simp
              refine hK.out _ _ ?_ (fun hH4004 => ?_)
              · (try dsimp only)
                first | (with_reducible exact L6.out) | (with_reducible exact LA.out) | (with_reducible exact F8.out.1) | (with_reducible exact F8.out.2)
              clear hK K hH4003
              refine wpAnyH_ready (rs := [4]) (by kernel_rfl) (by simp) ?_
              refine AllReadyH.cons rfl (fun K hK => ?_) ?_
              · skip
                refine wpr_put rfl _ _ rfl (w.heap.size + 1 + 1) _ rfl rfl (R6.out.below ((Below.refl _ _).alloc (Nat.le_refl _) (.cells #[.int .i64 80, .int .i64 po, .int .i64 nx, .int .i64 wa, .int .i64 16, .int .i64 1000, .string ⟨#[]⟩] 27))) rfl rfl rfl ?_
                intro w8 hw8 R8
                have F8 : Hid (XQ (w.heap.size) [.string mc, .int .i64 ip, .int .i64 po, .int .i64 di, .int .i64 st, .int .i64 un, .int .i64 nx, .int .i64 wa, .string inn, .string out, .bool fin] w w8 ∧ OwnS sgG 7 27 w8 w.heap.size (.slice (some ⟨w6.heap.size, 0, none⟩) 1 1) [⟨80, po, nx, wa, 16, 1000, ⟨#[]⟩⟩]) := by
                  rw [hw8]
                  exact ⟨LA.out.cells (by omega) (by omega), (own_cells (by omega) _ _ _ (own1 w6 (w.heap.size + 3) 80 po nx wa 16 1000 ⟨#[]⟩ hs6)).lower (by omega)⟩
                clear hw8
                refine hK.out _ _ ?_ (fun hH4005 => ?_)
                · (try dsimp only)
                  first | (with_reducible exact L6.out) | (with_reducible exact LA.out) | (with_reducible exact F8.out.1) | (with_reducible exact F8.out.2)
                clear hK K hH4004
                refine wpAnyH_take (i := 5) (v := ?v4006) rfl (by kernel_rfl) (by kernel_rfl) (by kernel_rfl) (fun _ _ _ h => h) (Or.inl ⟨by rfl, ?hy4006⟩) (by assumption) ?rest4006
                case hy4006 => (intro w hSw; (try dsimp only at hSw); go_simp; (try with_reducible rfl))
                refine wpAnyH_done (by kernel_rfl) ?_ _
                have O9 : Hid (OwnS sgG 7 27 w8 w.heap.size (.slice (some ⟨w6.heap.size, 0, none⟩) 1 1) [⟨80, po, nx, wa, 16, 1000, ⟨#[]⟩⟩] ∧ Below w.heap.size w w8) := ⟨F8.out.2, F8.out.1.out⟩
                have R9 := R8
                clear hH4005
                go_wp2
                have xx0 : w8.cell? ⟨w.heap.size + 1 + 1, 0, none⟩ = some (.string mc) := R9.cell 0 rfl
                have xx1 : w8.cell? ⟨w.heap.size + 1 + 1, 1, none⟩ = some (.int .i64 ip) := R9.cell 1 rfl
                have xx2 : w8.cell? ⟨w.heap.size + 1 + 1, 2, none⟩ = some (.int .i64 po) := R9.cell 2 rfl
                have xx3 : w8.cell? ⟨w.heap.size + 1 + 1, 3, none⟩ = some (.int .i64 di) := R9.cell 3 rfl
                have xx4 : w8.cell? ⟨w.heap.size + 1 + 1, 4, none⟩ = some (.int .i64 st) := R9.cell 4 rfl
                have xx5 : w8.cell? ⟨w.heap.size + 1 + 1, 5, none⟩ = some (.int .i64 un) := R9.cell 5 rfl
                have xx6 : w8.cell? ⟨w.heap.size + 1 + 1, 6, none⟩ = some (.int .i64 nx) := R9.cell 6 rfl
                have xx7 : w8.cell? ⟨w.heap.size + 1 + 1, 7, none⟩ = some (.int .i64 wa) := R9.cell 7 rfl
                have xx8 : w8.cell? ⟨w.heap.size + 1 + 1, 8, none⟩ = some (.string inn) := R9.cell 8 rfl
                have xx9 : w8.cell? ⟨w.heap.size + 1 + 1, 9, none⟩ = some (.string out) := R9.cell 9 rfl
                have xx10 : w8.cell? ⟨w.heap.size + 1 + 1, 10, none⟩ = some (.bool fin) := R9.cell 10 rfl
                (try simp only [Exit.inBlock, Exit.then])
                refine bodyPost_ret (v := .tuple #[.agg #[.string mc, .int .i64 ip, .int .i64 po, .int .i64 di, .int .i64 st, .int .i64 un, .int .i64 nx, .int .i64 wa, .string inn, .string out, .bool fin], .slice (some ⟨w6.heap.size, 0, none⟩) 1 1]) (by simp [results, Try.results85, go_sem, xx0, xx1, xx2, xx3, xx4, xx5, xx6, xx7, xx8, xx9, xx10]; try rfl) rfl ?_
                exact ⟨_, rfl, O9.out.1, O9.out.2⟩
              exact AllReadyH.nil
            refine AllReadyH.cons rfl (fun K hK => ?_) ?_
            · skip
              refine wpr_put rfl _ _ rfl (w.heap.size + 1 + 1) _ rfl rfl R6.out rfl rfl rfl ?_
              intro w8 hw8 R8
              have hz8 : w.heap.size ≤ w8.heap.size := by
                have := World.block_lt_of_cell? w8 _ (R8.cell 0 rfl)
                dsimp only at this
                omega
              have F8 : Hid (XQ (w.heap.size) [.string mc, .int .i64 ip, .int .i64 po, .int .i64 di, .int .i64 st, .int .i64 un, .int .i64 nx, .int .i64 wa, .string inn, .string out, .bool fin] w w8 ∧ XQ (w.heap.size) [.string mc, .int .i64 ip, .int .i64 po, .int .i64 di, .int .i64 st, .int .i64 un, .int .i64 nx, .int .i64 wa, .string inn, .string out, .bool fin] w (w8.alloc (.cells #[.int .i64 80, .int .i64 po, .int .i64 nx, .int .i64 wa, .int .i64 16, .int .i64 1000, .string ⟨#[]⟩] 27))) := by
                have h : XQ (w.heap.size) [.string mc, .int .i64 ip, .int .i64 po, .int .i64 di, .int .i64 st, .int .i64 un, .int .i64 nx, .int .i64 wa, .string inn, .string out, .bool fin] w w8 := by rw [hw8]; exact L6.out.cells (by omega) (by omega)
                exact ⟨h, h.below ((Below.refl _ _).alloc (Nat.le_refl _) _)⟩
              clear hw8
              refine hK.out _ _ ?_ (fun hH4007 => ?_)
              · (try dsimp only)
                first | (with_reducible exact L6.out) | (with_reducible exact LA.out) | (with_reducible exact F8.out.1) | (with_reducible exact F8.out.2)
              clear hK K hH4003
              refine wpAnyH_ready (rs := [3]) (by kernel_rfl) (by simp) ?_
              refine AllReadyH.cons rfl (fun K hK => ?_) ?_
              · go_simp
                refine hK.out _ _ ?_ (fun hH4008 => ?_)
                · (try dsimp only)
                  first | (with_reducible exact L6.out) | (with_reducible exact LA.out) | (with_reducible exact F8.out.1) | (with_reducible exact F8.out.2)
                clear hK K hH4007
                refine wpAnyH_take (i := 5) (v := ?v4009) rfl (by kernel_rfl) (by kernel_rfl) (by kernel_rfl) (fun _ _ _ h => h) (Or.inl ⟨by rfl, ?hy4009⟩) (by assumption) ?rest4009
                case hy4009 => (intro w hSw; (try dsimp only at hSw); go_simp; (try with_reducible rfl))
                refine wpAnyH_done (by kernel_rfl) ?_ _
                have O9 : Hid (OwnS sgG 7 27 (w8.alloc (.cells #[.int .i64 80, .int .i64 po, .int .i64 nx, .int .i64 wa, .int .i64 16, .int .i64 1000, .string ⟨#[]⟩] 27)) w.heap.size (.slice (some ⟨w8.heap.size, 0, none⟩) 1 1) [⟨80, po, nx, wa, 16, 1000, ⟨#[]⟩⟩] ∧ Below w.heap.size w (w8.alloc (.cells #[.int .i64 80, .int .i64 po, .int .i64 nx, .int .i64 wa, .int .i64 16, .int .i64 1000, .string ⟨#[]⟩] 27))) := ⟨own1 w8 _ 80 po nx wa 16 1000 ⟨#[]⟩ hz8, F8.out.2.out⟩
                have R9 := R8.below ((Below.refl _ _).alloc (Nat.le_refl _) (.cells #[.int .i64 80, .int .i64 po, .int .i64 nx, .int .i64 wa, .int .i64 16, .int .i64 1000, .string ⟨#[]⟩] 27))
                clear hH4008
                generalize (w8.alloc (.cells #[.int .i64 80, .int .i64 po, .int .i64 nx, .int .i64 wa, .int .i64 16, .int .i64 1000, .string ⟨#[]⟩] 27)) = w9 at O9 R9 ⊢
                go_wp2
                have xx0 : w9.cell? ⟨w.heap.size + 1 + 1, 0, none⟩ = some (.string mc) := R9.cell 0 rfl
                have xx1 : w9.cell? ⟨w.heap.size + 1 + 1, 1, none⟩ = some (.int .i64 ip) := R9.cell 1 rfl
                have xx2 : w9.cell? ⟨w.heap.size + 1 + 1, 2, none⟩ = some (.int .i64 po) := R9.cell 2 rfl
                have xx3 : w9.cell? ⟨w.heap.size + 1 + 1, 3, none⟩ = some (.int .i64 di) := R9.cell 3 rfl
                have xx4 : w9.cell? ⟨w.heap.size + 1 + 1, 4, none⟩ = some (.int .i64 st) := R9.cell 4 rfl
                have xx5 : w9.cell? ⟨w.heap.size + 1 + 1, 5, none⟩ = some (.int .i64 un) := R9.cell 5 rfl
                have xx6 : w9.cell? ⟨w.heap.size + 1 + 1, 6, none⟩ = some (.int .i64 nx) := R9.cell 6 rfl
                have xx7 : w9.cell? ⟨w.heap.size + 1 + 1, 7, none⟩ = some (.int .i64 wa) := R9.cell 7 rfl
                have xx8 : w9.cell? ⟨w.heap.size + 1 + 1, 8, none⟩ = some (.string inn) := R9.cell 8 rfl
                have xx9 : w9.cell? ⟨w.heap.size + 1 + 1, 9, none⟩ = some (.string out) := R9.cell 9 rfl
                have xx10 : w9.cell? ⟨w.heap.size + 1 + 1, 10, none⟩ = some (.bool fin) := R9.cell 10 rfl
                (try simp only [Exit.inBlock, Exit.then])
                refine bodyPost_ret (v := .tuple #[.agg #[.string mc, .int .i64 ip, .int .i64 po, .int .i64 di, .int .i64 st, .int .i64 un, .int .i64 nx, .int .i64 wa, .string inn, .string out, .bool fin], .slice (some ⟨w8.heap.size, 0, none⟩) 1 1]) (by simp [results, Try.results85, go_sem, xx0, xx1, xx2, xx3, xx4, xx5, xx6, xx7, xx8, xx9, xx10]; try rfl) rfl ?_
                exact ⟨_, rfl, O9.out.1, O9.out.2⟩
              exact AllReadyH.nil
            exact AllReadyH.nil
          exact AllReadyH.nil
        · have q1 : (sq == wa) = false := by simp [hs]
          clear hp hs
          have C0 : Bx (((w.alloc (.cells #[.string mc, .int .i64 ip, .int .i64 po, .int .i64 di, .int .i64 st, .int .i64 un, .int .i64 nx, .int .i64 wa, .string inn, .string out, .bool fin] 24)).alloc (.cells #[.int .i64 sp, .int .i64 dp, .int .i64 sq, .int .i64 ac, .int .i64 fl, .int .i64 wi, .string da] 27)).alloc (.cells #[.string ⟨#[]⟩, .int .i64 0, .int .i64 0, .int .i64 0, .int .i64 0, .int .i64 0, .int .i64 0, .int .i64 0, .string ⟨#[]⟩, .string ⟨#[]⟩, .bool false] 24)) w.heap.size [.string mc, .int .i64 ip, .int .i64 po, .int .i64 di, .int .i64 st, .int .i64 un, .int .i64 nx, .int .i64 wa, .string inn, .string out, .bool fin] := ((Bx.new w _ _).below ((Below.refl _ _).alloc (Nat.le_refl _) _)).below ((Below.refl _ _).alloc (Nat.le_refl _) _)
          have G0 : Bx (((w.alloc (.cells #[.string mc, .int .i64 ip, .int .i64 po, .int .i64 di, .int .i64 st, .int .i64 un, .int .i64 nx, .int .i64 wa, .string inn, .string out, .bool fin] 24)).alloc (.cells #[.int .i64 sp, .int .i64 dp, .int .i64 sq, .int .i64 ac, .int .i64 fl, .int .i64 wi, .string da] 27)).alloc (.cells #[.string ⟨#[]⟩, .int .i64 0, .int .i64 0, .int .i64 0, .int .i64 0, .int .i64 0, .int .i64 0, .int .i64 0, .string ⟨#[]⟩, .string ⟨#[]⟩, .bool false] 24)) (w.heap.size + 1) [.int .i64 sp, .int .i64 dp, .int .i64 sq, .int .i64 ac, .int .i64 fl, .int .i64 wi, .string da] := by
            have h := (Bx.new (w.alloc (.cells #[.string mc, .int .i64 ip, .int .i64 po, .int .i64 di, .int .i64 st, .int .i64 un, .int .i64 nx, .int .i64 wa, .string inn, .string out, .bool fin] 24)) #[.int .i64 sp, .int .i64 dp, .int .i64 sq, .int .i64 ac, .int .i64 fl, .int .i64 wi, .string da] 27).below ((Below.refl _ _).alloc (Nat.le_refl _) (.cells #[.string ⟨#[]⟩, .int .i64 0, .int .i64 0, .int .i64 0, .int .i64 0, .int .i64 0, .int .i64 0, .int .i64 0, .string ⟨#[]⟩, .string ⟨#[]⟩, .bool false] 24))
            rw [World.size_alloc] at h
            exact h
          have R0 : Bx (((w.alloc (.cells #[.string mc, .int .i64 ip, .int .i64 po, .int .i64 di, .int .i64 st, .int .i64 un, .int .i64 nx, .int .i64 wa, .string inn, .string out, .bool fin] 24)).alloc (.cells #[.int .i64 sp, .int .i64 dp, .int .i64 sq, .int .i64 ac, .int .i64 fl, .int .i64 wi, .string da] 27)).alloc (.cells #[.string ⟨#[]⟩, .int .i64 0, .int .i64 0, .int .i64 0, .int .i64 0, .int .i64 0, .int .i64 0, .int .i64 0, .string ⟨#[]⟩, .string ⟨#[]⟩, .bool false] 24)) (w.heap.size + 1 + 1) [.string ⟨#[]⟩, .int .i64 0, .int .i64 0, .int .i64 0, .int .i64 0, .int .i64 0, .int .i64 0, .int .i64 0, .string ⟨#[]⟩, .string ⟨#[]⟩, .bool false] := by
            have h := Bx.new ((w.alloc (.cells #[.string mc, .int .i64 ip, .int .i64 po, .int .i64 di, .int .i64 st, .int .i64 un, .int .i64 nx, .int .i64 wa, .string inn, .string out, .bool fin] 24)).alloc (.cells #[.int .i64 sp, .int .i64 dp, .int .i64 sq, .int .i64 ac, .int .i64 fl, .int .i64 wi, .string da] 27)) #[.string ⟨#[]⟩, .int .i64 0, .int .i64 0, .int .i64 0, .int .i64 0, .int .i64 0, .int .i64 0, .int .i64 0, .string ⟨#[]⟩, .string ⟨#[]⟩, .bool false] 24
            rw [World.size_alloc, World.size_alloc] at h
            exact h
          have B0 : Hid (Below w.heap.size w (((w.alloc (.cells #[.string mc, .int .i64 ip, .int .i64 po, .int .i64 di, .int .i64 st, .int .i64 un, .int .i64 nx, .int .i64 wa, .string inn, .string out, .bool fin] 24)).alloc (.cells #[.int .i64 sp, .int .i64 dp, .int .i64 sq, .int .i64 ac, .int .i64 fl, .int .i64 wi, .string da] 27)).alloc (.cells #[.string ⟨#[]⟩, .int .i64 0, .int .i64 0, .int .i64 0, .int .i64 0, .int .i64 0, .int .i64 0, .int .i64 0, .string ⟨#[]⟩, .string ⟨#[]⟩, .bool false] 24))) := ((((Below.refl _ _).alloc (Nat.le_refl _) _).alloc (by simp) _).alloc (by simp; omega) _)
          go_enter Try.func85, Try.ntmps85
          go_wp2_with (first | (refine wpl_get rfl _ rfl _ rfl (by assumption) rfl ?_) | (refine wpl_getS rfl _ rfl _ rfl (by assumption) rfl ?_) | fail)
          refine (TF.out _).mono ?_
          rintro e w1 ⟨rfl, g1⟩
          have b1 := g1.below
          have C1 : Bx w1 w.heap.size [.string mc, .int .i64 ip, .int .i64 po, .int .i64 di, .int .i64 st, .int .i64 un, .int .i64 nx, .int .i64 wa, .string inn, .string out, .bool fin] := C0.below b1
          have G1 : Bx w1 (w.heap.size + 1) [.int .i64 sp, .int .i64 dp, .int .i64 sq, .int .i64 ac, .int .i64 fl, .int .i64 wi, .string da] := G0.below b1
          have R1 : Bx w1 (w.heap.size + 1 + 1) [.string ⟨#[]⟩, .int .i64 0, .int .i64 0, .int .i64 0, .int .i64 0, .int .i64 0, .int .i64 0, .int .i64 0, .string ⟨#[]⟩, .string ⟨#[]⟩, .bool false] := R0.below b1
          have B1 : Hid (Below w.heap.size w w1) := B0.out.trans (b1.mono B0.out.size)
          have e1 : w1.cell? ⟨w.heap.size + 1, 2, none⟩ = some (.int .i64 sq) := G1.cell 2 rfl
          have d1 : w1.cell? ⟨w.heap.size + 1, 6, none⟩ = some (.string da) := G1.cell 6 rfl
          clear b1 g1
          have v1_4 : w1.cell? ⟨w.heap.size, 4, none⟩ = some (.int .i64 st) := C1.cell 4 rfl
          have v1_7 : w1.cell? ⟨w.heap.size, 7, none⟩ = some (.int .i64 wa) := C1.cell 7 rfl
          have v1_8 : w1.cell? ⟨w.heap.size, 8, none⟩ = some (.string inn) := C1.cell 8 rfl
          have TA : Hid (∀ w, Calls Try.prog 87 #[.agg #[.string mc, .int .i64 ip, .int .i64 po, .int .i64 di, .int .i64 st, .int .i64 un, .int .i64 nx, .int .i64 wa, .string inn, .string out, .bool fin]] w fun e w' => e = .returned (.agg #[.int .i64 80, .int .i64 po, .int .i64 nx, .int .i64 wa, .int .i64 16, .int .i64 1000, .string ⟨#[]⟩]) ∧ Grw w w') := fun w => acking_any mc ip po di st un nx wa inn out fin w
          clear TF C0 G0 R0 B0
          go_wp2_with fail
          clear v1_4 v1_7 v1_8 e1 d1
          have C5 := C1
          have R5 := R1
          have B5 := B1
          clear C1 R1 G1 B1
          generalize w1 = w5 at C5 R5 B5 ⊢
          have hs5 : w.heap.size + 3 ≤ w5.heap.size := by
            have := World.block_lt_of_cell? w5 _ (R5.cell 0 rfl)
            dsimp only at this
            omega
          have SS : Hid (XQ (w.heap.size) [.string mc, .int .i64 ip, .int .i64 po, .int .i64 di, .int .i64 st, .int .i64 un, .int .i64 nx, .int .i64 wa, .string inn, .string out, .bool fin] w w5.drew) := ⟨C5.below ((Below.refl _ _).drew), B5.out.drew⟩
          have RS : Hid (Bx w5.drew (w.heap.size + 1 + 1) [.string ⟨#[]⟩, .int .i64 0, .int .i64 0, .int .i64 0, .int .i64 0, .int .i64 0, .int .i64 0, .int .i64 0, .string ⟨#[]⟩, .string ⟨#[]⟩, .bool false]) := R5.below ((Below.refl _ _).drew)
          clear C5 R5 B5
          refine wp_region_held_drew (S := (fun wx => XQ (w.heap.size) [.string mc, .int .i64 ip, .int .i64 po, .int .i64 di, .int .i64 st, .int .i64 un, .int .i64 nx, .int .i64 wa, .string inn, .string out, .bool fin] w wx)) (by kernel_rfl) ?_ (fun hH0 => ?_)
          · with_reducible exact SS.out
          refine wpAnyH_take (i := 0) (v := .agg #[.string mc, .int .i64 ip, .int .i64 po, .int .i64 di, .int .i64 st, .int .i64 un, .int .i64 nx, .int .i64 wa, .string inn, .string out, .bool fin]) rfl (by kernel_rfl) (by kernel_rfl) (by kernel_rfl) (fun _ _ _ h => h) (yieldsIf_load_mid (by rfl) 24 _ rfl (w.heap.size) 0 rfl [.string mc, .int .i64 ip, .int .i64 po, .int .i64 di, .int .i64 st, .int .i64 un, .int .i64 nx, .int .i64 wa, .string inn, .string out, .bool fin] _ (fun _ h => h.c.cl) Try.underlying24 rfl rfl) (by assumption) ?rest5001
          refine wpAnyH_take (i := 1) (v := .agg #[.string mc, .int .i64 ip, .int .i64 po, .int .i64 di, .int .i64 st, .int .i64 un, .int .i64 nx, .int .i64 wa, .string inn, .string out, .bool fin]) rfl (by kernel_rfl) (by kernel_rfl) (by kernel_rfl) (fun _ _ _ h => h) (yieldsIf_load_mid (by rfl) 24 _ rfl (w.heap.size) 0 rfl [.string mc, .int .i64 ip, .int .i64 po, .int .i64 di, .int .i64 st, .int .i64 un, .int .i64 nx, .int .i64 wa, .string inn, .string out, .bool fin] _ (fun _ h => h.c.cl) Try.underlying24 rfl rfl) (by assumption) ?rest5002
          refine wpAnyH_ready (rs := [2]) (by kernel_rfl) (by simp) ?_
          refine AllReadyH.cons rfl (fun K hK => ?_) ?_
          · go_simp
            go_at_call 87
            with_reducible refine (TA.out _).mono ?_
            rintro e w6 ⟨rfl, g6⟩
            have hs6 : w.heap.size + 3 ≤ w6.heap.size := Nat.le_trans (by simpa using hs5) g6.below.size
            have L6 : Hid (XQ (w.heap.size) [.string mc, .int .i64 ip, .int .i64 po, .int .i64 di, .int .i64 st, .int .i64 un, .int .i64 nx, .int .i64 wa, .string inn, .string out, .bool fin] w w6) := SS.out.below g6.below
            have R6 : Hid (Bx w6 (w.heap.size + 1 + 1) [.string ⟨#[]⟩, .int .i64 0, .int .i64 0, .int .i64 0, .int .i64 0, .int .i64 0, .int .i64 0, .int .i64 0, .string ⟨#[]⟩, .string ⟨#[]⟩, .bool false]) := RS.out.below g6.below
            have LA : Hid (XQ (w.heap.size) [.string mc, .int .i64 ip, .int .i64 po, .int .i64 di, .int .i64 st, .int .i64 un, .int .i64 nx, .int .i64 wa, .string inn, .string out, .bool fin] w (w6.alloc (.cells #[.int .i64 80, .int .i64 po, .int .i64 nx, .int .i64 wa, .int .i64 16, .int .i64 1000, .string ⟨#[]⟩] 27))) := L6.out.below ((Below.refl _ _).alloc (Nat.le_refl _) _)
            clear g6 SS RS
            refine hK.out _ _ ?_ (fun hH5003 => ?_)
            · (try dsimp only)
              first | (with_reducible exact L6.out) | (with_reducible exact LA.out) | (with_reducible exact F8.out.1) | (with_reducible exact F8.out.2)
            clear hK K hH0
            refine wpAnyH_ready (rs := [3, 4]) (by kernel_rfl) (by simp) ?_
            refine AllReadyH.cons rfl (fun K hK => ?_) ?_
            · go_simp
              refine hK.out _ _ ?_ (fun hH5004 => ?_)
              · (try dsimp only)
                first | (with_reducible exact L6.out) | (with_reducible exact LA.out) | (with_reducible exact F8.out.1) | (with_reducible exact F8.out.2)
              clear hK K hH5003
              refine wpAnyH_ready (rs := [4]) (by kernel_rfl) (by simp) ?_
              refine AllReadyH.cons rfl (fun K hK => ?_) ?_
              · skip
                refine wpr_put rfl _ _ rfl (w.heap.size + 1 + 1) _ rfl rfl (R6.out.below ((Below.refl _ _).alloc (Nat.le_refl _) (.cells #[.int .i64 80, .int .i64 po, .int .i64 nx, .int .i64 wa, .int .i64 16, .int .i64 1000, .string ⟨#[]⟩] 27))) rfl rfl rfl ?_
                intro w8 hw8 R8
                have F8 : Hid (XQ (w.heap.size) [.string mc, .int .i64 ip, .int .i64 po, .int .i64 di, .int .i64 st, .int .i64 un, .int .i64 nx, .int .i64 wa, .string inn, .string out, .bool fin] w w8 ∧ OwnS sgG 7 27 w8 w.heap.size (.slice (some ⟨w6.heap.size, 0, none⟩) 1 1) [⟨80, po, nx, wa, 16, 1000, ⟨#[]⟩⟩]) := by
                  rw [hw8]
                  exact ⟨LA.out.cells (by omega) (by omega), (own_cells (by omega) _ _ _ (own1 w6 (w.heap.size + 3) 80 po nx wa 16 1000 ⟨#[]⟩ hs6)).lower (by omega)⟩
                clear hw8
                refine hK.out _ _ ?_ (fun hH5005 => ?_)
                · (try dsimp only)
                  first | (with_reducible exact L6.out) | (with_reducible exact LA.out) | (with_reducible exact F8.out.1) | (with_reducible exact F8.out.2)
                clear hK K hH5004
                refine wpAnyH_take (i := 5) (v := ?v5006) rfl (by kernel_rfl) (by kernel_rfl) (by kernel_rfl) (fun _ _ _ h => h) (Or.inl ⟨by rfl, ?hy5006⟩) (by assumption) ?rest5006
                case hy5006 => (intro w hSw; (try dsimp only at hSw); go_simp; (try with_reducible rfl))
                refine wpAnyH_done (by kernel_rfl) ?_ _
                have O9 : Hid (OwnS sgG 7 27 w8 w.heap.size (.slice (some ⟨w6.heap.size, 0, none⟩) 1 1) [⟨80, po, nx, wa, 16, 1000, ⟨#[]⟩⟩] ∧ Below w.heap.size w w8) := ⟨F8.out.2, F8.out.1.out⟩
                have R9 := R8
                clear hH5005
                go_wp2
                have xx0 : w8.cell? ⟨w.heap.size + 1 + 1, 0, none⟩ = some (.string mc) := R9.cell 0 rfl
                have xx1 : w8.cell? ⟨w.heap.size + 1 + 1, 1, none⟩ = some (.int .i64 ip) := R9.cell 1 rfl
                have xx2 : w8.cell? ⟨w.heap.size + 1 + 1, 2, none⟩ = some (.int .i64 po) := R9.cell 2 rfl
                have xx3 : w8.cell? ⟨w.heap.size + 1 + 1, 3, none⟩ = some (.int .i64 di) := R9.cell 3 rfl
                have xx4 : w8.cell? ⟨w.heap.size + 1 + 1, 4, none⟩ = some (.int .i64 st) := R9.cell 4 rfl
                have xx5 : w8.cell? ⟨w.heap.size + 1 + 1, 5, none⟩ = some (.int .i64 un) := R9.cell 5 rfl
                have xx6 : w8.cell? ⟨w.heap.size + 1 + 1, 6, none⟩ = some (.int .i64 nx) := R9.cell 6 rfl
                have xx7 : w8.cell? ⟨w.heap.size + 1 + 1, 7, none⟩ = some (.int .i64 wa) := R9.cell 7 rfl
                have xx8 : w8.cell? ⟨w.heap.size + 1 + 1, 8, none⟩ = some (.string inn) := R9.cell 8 rfl
                have xx9 : w8.cell? ⟨w.heap.size + 1 + 1, 9, none⟩ = some (.string out) := R9.cell 9 rfl
                have xx10 : w8.cell? ⟨w.heap.size + 1 + 1, 10, none⟩ = some (.bool fin) := R9.cell 10 rfl
                (try simp only [Exit.inBlock, Exit.then])
                refine bodyPost_ret (v := .tuple #[.agg #[.string mc, .int .i64 ip, .int .i64 po, .int .i64 di, .int .i64 st, .int .i64 un, .int .i64 nx, .int .i64 wa, .string inn, .string out, .bool fin], .slice (some ⟨w6.heap.size, 0, none⟩) 1 1]) (by simp [results, Try.results85, go_sem, xx0, xx1, xx2, xx3, xx4, xx5, xx6, xx7, xx8, xx9, xx10]; try rfl) rfl ?_
                exact ⟨_, rfl, O9.out.1, O9.out.2⟩
              exact AllReadyH.nil
            refine AllReadyH.cons rfl (fun K hK => ?_) ?_
            · skip
              refine wpr_put rfl _ _ rfl (w.heap.size + 1 + 1) _ rfl rfl R6.out rfl rfl rfl ?_
              intro w8 hw8 R8
              have hz8 : w.heap.size ≤ w8.heap.size := by
                have := World.block_lt_of_cell? w8 _ (R8.cell 0 rfl)
                dsimp only at this
                omega
              have F8 : Hid (XQ (w.heap.size) [.string mc, .int .i64 ip, .int .i64 po, .int .i64 di, .int .i64 st, .int .i64 un, .int .i64 nx, .int .i64 wa, .string inn, .string out, .bool fin] w w8 ∧ XQ (w.heap.size) [.string mc, .int .i64 ip, .int .i64 po, .int .i64 di, .int .i64 st, .int .i64 un, .int .i64 nx, .int .i64 wa, .string inn, .string out, .bool fin] w (w8.alloc (.cells #[.int .i64 80, .int .i64 po, .int .i64 nx, .int .i64 wa, .int .i64 16, .int .i64 1000, .string ⟨#[]⟩] 27))) := by
                have h : XQ (w.heap.size) [.string mc, .int .i64 ip, .int .i64 po, .int .i64 di, .int .i64 st, .int .i64 un, .int .i64 nx, .int .i64 wa, .string inn, .string out, .bool fin] w w8 := by rw [hw8]; exact L6.out.cells (by omega) (by omega)
                exact ⟨h, h.below ((Below.refl _ _).alloc (Nat.le_refl _) _)⟩
              clear hw8
              refine hK.out _ _ ?_ (fun hH5007 => ?_)
              · (try dsimp only)
                first | (with_reducible exact L6.out) | (with_reducible exact LA.out) | (with_reducible exact F8.out.1) | (with_reducible exact F8.out.2)
              clear hK K hH5003
              refine wpAnyH_ready (rs := [3]) (by kernel_rfl) (by simp) ?_
              refine AllReadyH.cons rfl (fun K hK => ?_) ?_
              · go_simp
                refine hK.out _ _ ?_ (fun hH5008 => ?_)
                · (try dsimp only)
                  first | (with_reducible exact L6.out) | (with_reducible exact LA.out) | (with_reducible exact F8.out.1) | (with_reducible exact F8.out.2)
                clear hK K hH5007
                refine wpAnyH_take (i := 5) (v := ?v5009) rfl (by kernel_rfl) (by kernel_rfl) (by kernel_rfl) (fun _ _ _ h => h) (Or.inl ⟨by rfl, ?hy5009⟩) (by assumption) ?rest5009
                case hy5009 => (intro w hSw; (try dsimp only at hSw); go_simp; (try with_reducible rfl))
                refine wpAnyH_done (by kernel_rfl) ?_ _
                have O9 : Hid (OwnS sgG 7 27 (w8.alloc (.cells #[.int .i64 80, .int .i64 po, .int .i64 nx, .int .i64 wa, .int .i64 16, .int .i64 1000, .string ⟨#[]⟩] 27)) w.heap.size (.slice (some ⟨w8.heap.size, 0, none⟩) 1 1) [⟨80, po, nx, wa, 16, 1000, ⟨#[]⟩⟩] ∧ Below w.heap.size w (w8.alloc (.cells #[.int .i64 80, .int .i64 po, .int .i64 nx, .int .i64 wa, .int .i64 16, .int .i64 1000, .string ⟨#[]⟩] 27))) := ⟨own1 w8 _ 80 po nx wa 16 1000 ⟨#[]⟩ hz8, F8.out.2.out⟩
                have R9 := R8.below ((Below.refl _ _).alloc (Nat.le_refl _) (.cells #[.int .i64 80, .int .i64 po, .int .i64 nx, .int .i64 wa, .int .i64 16, .int .i64 1000, .string ⟨#[]⟩] 27))
                clear hH5008
                generalize (w8.alloc (.cells #[.int .i64 80, .int .i64 po, .int .i64 nx, .int .i64 wa, .int .i64 16, .int .i64 1000, .string ⟨#[]⟩] 27)) = w9 at O9 R9 ⊢
                go_wp2
                have xx0 : w9.cell? ⟨w.heap.size + 1 + 1, 0, none⟩ = some (.string mc) := R9.cell 0 rfl
                have xx1 : w9.cell? ⟨w.heap.size + 1 + 1, 1, none⟩ = some (.int .i64 ip) := R9.cell 1 rfl
                have xx2 : w9.cell? ⟨w.heap.size + 1 + 1, 2, none⟩ = some (.int .i64 po) := R9.cell 2 rfl
                have xx3 : w9.cell? ⟨w.heap.size + 1 + 1, 3, none⟩ = some (.int .i64 di) := R9.cell 3 rfl
                have xx4 : w9.cell? ⟨w.heap.size + 1 + 1, 4, none⟩ = some (.int .i64 st) := R9.cell 4 rfl
                have xx5 : w9.cell? ⟨w.heap.size + 1 + 1, 5, none⟩ = some (.int .i64 un) := R9.cell 5 rfl
                have xx6 : w9.cell? ⟨w.heap.size + 1 + 1, 6, none⟩ = some (.int .i64 nx) := R9.cell 6 rfl
                have xx7 : w9.cell? ⟨w.heap.size + 1 + 1, 7, none⟩ = some (.int .i64 wa) := R9.cell 7 rfl
                have xx8 : w9.cell? ⟨w.heap.size + 1 + 1, 8, none⟩ = some (.string inn) := R9.cell 8 rfl
                have xx9 : w9.cell? ⟨w.heap.size + 1 + 1, 9, none⟩ = some (.string out) := R9.cell 9 rfl
                have xx10 : w9.cell? ⟨w.heap.size + 1 + 1, 10, none⟩ = some (.bool fin) := R9.cell 10 rfl
                (try simp only [Exit.inBlock, Exit.then])
                refine bodyPost_ret (v := .tuple #[.agg #[.string mc, .int .i64 ip, .int .i64 po, .int .i64 di, .int .i64 st, .int .i64 un, .int .i64 nx, .int .i64 wa, .string inn, .string out, .bool fin], .slice (some ⟨w8.heap.size, 0, none⟩) 1 1]) (by simp [results, Try.results85, go_sem, xx0, xx1, xx2, xx3, xx4, xx5, xx6, xx7, xx8, xx9, xx10]; try rfl) rfl ?_
                exact ⟨_, rfl, O9.out.1, O9.out.2⟩
              exact AllReadyH.nil
            exact AllReadyH.nil
          exact AllReadyH.nil
  | false =>
    obtain rfl : PN = false := by rw [EN]; rfl
    rw [if_neg (by decide), if_neg (by decide)]
    by_cases hp : sq = wa ∧ inn.size + da.size ≤ 300
    · rw [if_pos hp] at EV
      rw [EV]
      have q1 : (sq == wa) = true := by simp [hp.1]
      rw [decide_eq_true hp.2] at hfit
      clear EN EV hp
      cases ff with
      | true =>
        rw [if_pos rfl]
        have TA : Hid (∀ w, Calls Try.prog 87 #[.agg #[.string mc, .int .i64 ip, .int .i64 po, .int .i64 di, .int .i64 st, .int .i64 un, .int .i64 nx, .int .i64 NQ2, .string (inn ++ da), .string out, .bool fin]] w fun e w' => e = .returned (.agg #[.int .i64 80, .int .i64 po, .int .i64 nx, .int .i64 NQ2, .int .i64 16, .int .i64 1000, .string ⟨#[]⟩]) ∧ Grw w w') := fun w => acking_any mc ip po di st un nx NQ2 ((inn ++ da)) out fin w
        have C0 : Bx (((w.alloc (.cells #[.string mc, .int .i64 ip, .int .i64 po, .int .i64 di, .int .i64 st, .int .i64 un, .int .i64 nx, .int .i64 NQ, .string (inn ++ da), .string out, .bool fin] 24)).alloc (.cells #[.int .i64 sp, .int .i64 dp, .int .i64 sq, .int .i64 ac, .int .i64 fl, .int .i64 wi, .string da] 27)).alloc (.cells #[.string ⟨#[]⟩, .int .i64 0, .int .i64 0, .int .i64 0, .int .i64 0, .int .i64 0, .int .i64 0, .int .i64 0, .string ⟨#[]⟩, .string ⟨#[]⟩, .bool false] 24)) w.heap.size [.string mc, .int .i64 ip, .int .i64 po, .int .i64 di, .int .i64 st, .int .i64 un, .int .i64 nx, .int .i64 NQ, .string (inn ++ da), .string out, .bool fin] := ((Bx.new w _ _).below ((Below.refl _ _).alloc (Nat.le_refl _) _)).below ((Below.refl _ _).alloc (Nat.le_refl _) _)
        have G0 : Bx (((w.alloc (.cells #[.string mc, .int .i64 ip, .int .i64 po, .int .i64 di, .int .i64 st, .int .i64 un, .int .i64 nx, .int .i64 NQ, .string (inn ++ da), .string out, .bool fin] 24)).alloc (.cells #[.int .i64 sp, .int .i64 dp, .int .i64 sq, .int .i64 ac, .int .i64 fl, .int .i64 wi, .string da] 27)).alloc (.cells #[.string ⟨#[]⟩, .int .i64 0, .int .i64 0, .int .i64 0, .int .i64 0, .int .i64 0, .int .i64 0, .int .i64 0, .string ⟨#[]⟩, .string ⟨#[]⟩, .bool false] 24)) (w.heap.size + 1) [.int .i64 sp, .int .i64 dp, .int .i64 sq, .int .i64 ac, .int .i64 fl, .int .i64 wi, .string da] := by
          have h := (Bx.new (w.alloc (.cells #[.string mc, .int .i64 ip, .int .i64 po, .int .i64 di, .int .i64 st, .int .i64 un, .int .i64 nx, .int .i64 NQ, .string (inn ++ da), .string out, .bool fin] 24)) #[.int .i64 sp, .int .i64 dp, .int .i64 sq, .int .i64 ac, .int .i64 fl, .int .i64 wi, .string da] 27).below ((Below.refl _ _).alloc (Nat.le_refl _) (.cells #[.string ⟨#[]⟩, .int .i64 0, .int .i64 0, .int .i64 0, .int .i64 0, .int .i64 0, .int .i64 0, .int .i64 0, .string ⟨#[]⟩, .string ⟨#[]⟩, .bool false] 24))
          rw [World.size_alloc] at h
          exact h
        have R0 : Bx (((w.alloc (.cells #[.string mc, .int .i64 ip, .int .i64 po, .int .i64 di, .int .i64 st, .int .i64 un, .int .i64 nx, .int .i64 NQ, .string (inn ++ da), .string out, .bool fin] 24)).alloc (.cells #[.int .i64 sp, .int .i64 dp, .int .i64 sq, .int .i64 ac, .int .i64 fl, .int .i64 wi, .string da] 27)).alloc (.cells #[.string ⟨#[]⟩, .int .i64 0, .int .i64 0, .int .i64 0, .int .i64 0, .int .i64 0, .int .i64 0, .int .i64 0, .string ⟨#[]⟩, .string ⟨#[]⟩, .bool false] 24)) (w.heap.size + 1 + 1) [.string ⟨#[]⟩, .int .i64 0, .int .i64 0, .int .i64 0, .int .i64 0, .int .i64 0, .int .i64 0, .int .i64 0, .string ⟨#[]⟩, .string ⟨#[]⟩, .bool false] := by
          have h := Bx.new ((w.alloc (.cells #[.string mc, .int .i64 ip, .int .i64 po, .int .i64 di, .int .i64 st, .int .i64 un, .int .i64 nx, .int .i64 NQ, .string (inn ++ da), .string out, .bool fin] 24)).alloc (.cells #[.int .i64 sp, .int .i64 dp, .int .i64 sq, .int .i64 ac, .int .i64 fl, .int .i64 wi, .string da] 27)) #[.string ⟨#[]⟩, .int .i64 0, .int .i64 0, .int .i64 0, .int .i64 0, .int .i64 0, .int .i64 0, .int .i64 0, .string ⟨#[]⟩, .string ⟨#[]⟩, .bool false] 24
          rw [World.size_alloc, World.size_alloc] at h
          exact h
        have B0 : Hid (Below w.heap.size w (((w.alloc (.cells #[.string mc, .int .i64 ip, .int .i64 po, .int .i64 di, .int .i64 st, .int .i64 un, .int .i64 nx, .int .i64 NQ, .string (inn ++ da), .string out, .bool fin] 24)).alloc (.cells #[.int .i64 sp, .int .i64 dp, .int .i64 sq, .int .i64 ac, .int .i64 fl, .int .i64 wi, .string da] 27)).alloc (.cells #[.string ⟨#[]⟩, .int .i64 0, .int .i64 0, .int .i64 0, .int .i64 0, .int .i64 0, .int .i64 0, .int .i64 0, .string ⟨#[]⟩, .string ⟨#[]⟩, .bool false] 24))) := ((((Below.refl _ _).alloc (Nat.le_refl _) _).alloc (by simp) _).alloc (by simp; omega) _)
        go_enter Try.func85, Try.ntmps85
        go_wp2_with fail
        refine (TQ.out _).mono ?_
        rintro e w1 ⟨rfl, hw⟩
        subst hw
        go_wp2_with (first | (refine wpl_get rfl _ rfl _ rfl (by assumption) rfl ?_) | (refine wpl_getS rfl _ rfl _ rfl (by assumption) rfl ?_) | fail)
        refine (TF.out _).mono ?_
        rintro e w1 ⟨rfl, g1⟩
        have b1 := g1.below
        have C1 : Bx w1 w.heap.size [.string mc, .int .i64 ip, .int .i64 po, .int .i64 di, .int .i64 st, .int .i64 un, .int .i64 nx, .int .i64 NQ, .string (inn ++ da), .string out, .bool fin] := C0.below b1
        have G1 : Bx w1 (w.heap.size + 1) [.int .i64 sp, .int .i64 dp, .int .i64 sq, .int .i64 ac, .int .i64 fl, .int .i64 wi, .string da] := G0.below b1
        have R1 : Bx w1 (w.heap.size + 1 + 1) [.string ⟨#[]⟩, .int .i64 0, .int .i64 0, .int .i64 0, .int .i64 0, .int .i64 0, .int .i64 0, .int .i64 0, .string ⟨#[]⟩, .string ⟨#[]⟩, .bool false] := R0.below b1
        have B1 : Hid (Below w.heap.size w w1) := B0.out.trans (b1.mono B0.out.size)
        have e1 : w1.cell? ⟨w.heap.size + 1, 2, none⟩ = some (.int .i64 sq) := G1.cell 2 rfl
        have d1 : w1.cell? ⟨w.heap.size + 1, 6, none⟩ = some (.string da) := G1.cell 6 rfl
        clear b1 g1
        clear C0 R0 B0 TQ hadd
        have u7 : w1.cell? ⟨w.heap.size, 7, none⟩ = some (.int .i64 NQ) := C1.cell 7 rfl
        have t7 : w1.frozen? ⟨w.heap.size, 7, none⟩ = false := C1.thaw 7 (by simp)
        go_wp2_with fail
        refine (TR.out _).mono ?_
        rintro e w1 ⟨rfl, hw⟩
        subst hw
        go_wp2_with fail
        have C5 : Bx (w1.setCell ⟨w.heap.size, 7, none⟩ (.int .i64 NQ2)) w.heap.size [.string mc, .int .i64 ip, .int .i64 po, .int .i64 di, .int .i64 st, .int .i64 un, .int .i64 nx, .int .i64 NQ2, .string (inn ++ da), .string out, .bool fin] := C1.field 7 _
        have R5 : Bx (w1.setCell ⟨w.heap.size, 7, none⟩ (.int .i64 NQ2)) (w.heap.size + 1 + 1) [.string ⟨#[]⟩, .int .i64 0, .int .i64 0, .int .i64 0, .int .i64 0, .int .i64 0, .int .i64 0, .int .i64 0, .string ⟨#[]⟩, .string ⟨#[]⟩, .bool false] := R1.far _ _ (by dsimp only; omega)
        have B5 : Hid (Below w.heap.size w (w1.setCell ⟨w.heap.size, 7, none⟩ (.int .i64 NQ2))) := B1.out.setCell (Nat.le_refl _) _
        clear C1 R1 G1 B1 u7 t7 e1 d1
        generalize w1.setCell ⟨w.heap.size, 7, none⟩ (.int .i64 NQ2) = w5 at C5 R5 B5 ⊢
        have hs5 : w.heap.size + 3 ≤ w5.heap.size := by
          have := World.block_lt_of_cell? w5 _ (R5.cell 0 rfl)
          dsimp only at this
          omega
        have SS : Hid (XQ (w.heap.size) [.string mc, .int .i64 ip, .int .i64 po, .int .i64 di, .int .i64 st, .int .i64 un, .int .i64 nx, .int .i64 NQ2, .string (inn ++ da), .string out, .bool fin] w w5.drew) := ⟨C5.below ((Below.refl _ _).drew), B5.out.drew⟩
        have RS : Hid (Bx w5.drew (w.heap.size + 1 + 1) [.string ⟨#[]⟩, .int .i64 0, .int .i64 0, .int .i64 0, .int .i64 0, .int .i64 0, .int .i64 0, .int .i64 0, .string ⟨#[]⟩, .string ⟨#[]⟩, .bool false]) := R5.below ((Below.refl _ _).drew)
        clear C5 R5 B5
        refine wp_region_held_drew (S := (fun wx => XQ (w.heap.size) [.string mc, .int .i64 ip, .int .i64 po, .int .i64 di, .int .i64 st, .int .i64 un, .int .i64 nx, .int .i64 NQ2, .string (inn ++ da), .string out, .bool fin] w wx)) (by kernel_rfl) ?_ (fun hH0 => ?_)
        · with_reducible exact SS.out
        refine wpAnyH_take (i := 0) (v := .agg #[.string mc, .int .i64 ip, .int .i64 po, .int .i64 di, .int .i64 st, .int .i64 un, .int .i64 nx, .int .i64 NQ2, .string (inn ++ da), .string out, .bool fin]) rfl (by kernel_rfl) (by kernel_rfl) (by kernel_rfl) (fun _ _ _ h => h) (yieldsIf_load_mid (by rfl) 24 _ rfl (w.heap.size) 0 rfl [.string mc, .int .i64 ip, .int .i64 po, .int .i64 di, .int .i64 st, .int .i64 un, .int .i64 nx, .int .i64 NQ2, .string (inn ++ da), .string out, .bool fin] _ (fun _ h => h.c.cl) Try.underlying24 rfl rfl) (by assumption) ?rest2001
        refine wpAnyH_take (i := 1) (v := .agg #[.string mc, .int .i64 ip, .int .i64 po, .int .i64 di, .int .i64 st, .int .i64 un, .int .i64 nx, .int .i64 NQ2, .string (inn ++ da), .string out, .bool fin]) rfl (by kernel_rfl) (by kernel_rfl) (by kernel_rfl) (fun _ _ _ h => h) (yieldsIf_load_mid (by rfl) 24 _ rfl (w.heap.size) 0 rfl [.string mc, .int .i64 ip, .int .i64 po, .int .i64 di, .int .i64 st, .int .i64 un, .int .i64 nx, .int .i64 NQ2, .string (inn ++ da), .string out, .bool fin] _ (fun _ h => h.c.cl) Try.underlying24 rfl rfl) (by assumption) ?rest2002
        refine wpAnyH_ready (rs := [2]) (by kernel_rfl) (by simp) ?_
        refine AllReadyH.cons rfl (fun K hK => ?_) ?_
        · go_simp
          go_at_call 87
          with_reducible refine (TA.out _).mono ?_
          rintro e w6 ⟨rfl, g6⟩
          have hs6 : w.heap.size + 3 ≤ w6.heap.size := Nat.le_trans (by simpa using hs5) g6.below.size
          have L6 : Hid (XQ (w.heap.size) [.string mc, .int .i64 ip, .int .i64 po, .int .i64 di, .int .i64 st, .int .i64 un, .int .i64 nx, .int .i64 NQ2, .string (inn ++ da), .string out, .bool fin] w w6) := SS.out.below g6.below
          have R6 : Hid (Bx w6 (w.heap.size + 1 + 1) [.string ⟨#[]⟩, .int .i64 0, .int .i64 0, .int .i64 0, .int .i64 0, .int .i64 0, .int .i64 0, .int .i64 0, .string ⟨#[]⟩, .string ⟨#[]⟩, .bool false]) := RS.out.below g6.below
          have LA : Hid (XQ (w.heap.size) [.string mc, .int .i64 ip, .int .i64 po, .int .i64 di, .int .i64 st, .int .i64 un, .int .i64 nx, .int .i64 NQ2, .string (inn ++ da), .string out, .bool fin] w (w6.alloc (.cells #[.int .i64 80, .int .i64 po, .int .i64 nx, .int .i64 NQ2, .int .i64 16, .int .i64 1000, .string ⟨#[]⟩] 27))) := L6.out.below ((Below.refl _ _).alloc (Nat.le_refl _) _)
          clear g6 SS RS
          refine hK.out _ _ ?_ (fun hH2003 => ?_)
          · (try dsimp only)
            first | (with_reducible exact L6.out) | (with_reducible exact LA.out) | (with_reducible exact F8.out.1) | (with_reducible exact F8.out.2)
          clear hK K hH0
          refine wpAnyH_ready (rs := [3, 4]) (by kernel_rfl) (by simp) ?_
          refine AllReadyH.cons rfl (fun K hK => ?_) ?_
          · go_simp
            refine hK.out _ _ ?_ (fun hH2004 => ?_)
            · (try dsimp only)
              first | (with_reducible exact L6.out) | (with_reducible exact LA.out) | (with_reducible exact F8.out.1) | (with_reducible exact F8.out.2)
            clear hK K hH2003
            refine wpAnyH_ready (rs := [4]) (by kernel_rfl) (by simp) ?_
            refine AllReadyH.cons rfl (fun K hK => ?_) ?_
            · skip
              refine wpr_put rfl _ _ rfl (w.heap.size + 1 + 1) _ rfl rfl (R6.out.below ((Below.refl _ _).alloc (Nat.le_refl _) (.cells #[.int .i64 80, .int .i64 po, .int .i64 nx, .int .i64 NQ2, .int .i64 16, .int .i64 1000, .string ⟨#[]⟩] 27))) rfl rfl rfl ?_
              intro w8 hw8 R8
              have F8 : Hid (XQ (w.heap.size) [.string mc, .int .i64 ip, .int .i64 po, .int .i64 di, .int .i64 st, .int .i64 un, .int .i64 nx, .int .i64 NQ2, .string (inn ++ da), .string out, .bool fin] w w8 ∧ OwnS sgG 7 27 w8 w.heap.size (.slice (some ⟨w6.heap.size, 0, none⟩) 1 1) [⟨80, po, nx, NQ2, 16, 1000, ⟨#[]⟩⟩]) := by
                rw [hw8]
                exact ⟨LA.out.cells (by omega) (by omega), (own_cells (by omega) _ _ _ (own1 w6 (w.heap.size + 3) 80 po nx NQ2 16 1000 ⟨#[]⟩ hs6)).lower (by omega)⟩
              clear hw8
              refine hK.out _ _ ?_ (fun hH2005 => ?_)
              · (try dsimp only)
                first | (with_reducible exact L6.out) | (with_reducible exact LA.out) | (with_reducible exact F8.out.1) | (with_reducible exact F8.out.2)
              clear hK K hH2004
              refine wpAnyH_take (i := 5) (v := ?v2006) rfl (by kernel_rfl) (by kernel_rfl) (by kernel_rfl) (fun _ _ _ h => h) (Or.inl ⟨by rfl, ?hy2006⟩) (by assumption) ?rest2006
              case hy2006 => (intro w hSw; (try dsimp only at hSw); go_simp; (try with_reducible rfl))
              refine wpAnyH_done (by kernel_rfl) ?_ _
              have O9 : Hid (OwnS sgG 7 27 w8 w.heap.size (.slice (some ⟨w6.heap.size, 0, none⟩) 1 1) [⟨80, po, nx, NQ2, 16, 1000, ⟨#[]⟩⟩] ∧ Below w.heap.size w w8) := ⟨F8.out.2, F8.out.1.out⟩
              have R9 := R8
              clear hH2005
              go_wp2
              have xx0 : w8.cell? ⟨w.heap.size + 1 + 1, 0, none⟩ = some (.string mc) := R9.cell 0 rfl
              have xx1 : w8.cell? ⟨w.heap.size + 1 + 1, 1, none⟩ = some (.int .i64 ip) := R9.cell 1 rfl
              have xx2 : w8.cell? ⟨w.heap.size + 1 + 1, 2, none⟩ = some (.int .i64 po) := R9.cell 2 rfl
              have xx3 : w8.cell? ⟨w.heap.size + 1 + 1, 3, none⟩ = some (.int .i64 di) := R9.cell 3 rfl
              have xx4 : w8.cell? ⟨w.heap.size + 1 + 1, 4, none⟩ = some (.int .i64 st) := R9.cell 4 rfl
              have xx5 : w8.cell? ⟨w.heap.size + 1 + 1, 5, none⟩ = some (.int .i64 un) := R9.cell 5 rfl
              have xx6 : w8.cell? ⟨w.heap.size + 1 + 1, 6, none⟩ = some (.int .i64 nx) := R9.cell 6 rfl
              have xx7 : w8.cell? ⟨w.heap.size + 1 + 1, 7, none⟩ = some (.int .i64 NQ2) := R9.cell 7 rfl
              have xx8 : w8.cell? ⟨w.heap.size + 1 + 1, 8, none⟩ = some (.string (inn ++ da)) := R9.cell 8 rfl
              have xx9 : w8.cell? ⟨w.heap.size + 1 + 1, 9, none⟩ = some (.string out) := R9.cell 9 rfl
              have xx10 : w8.cell? ⟨w.heap.size + 1 + 1, 10, none⟩ = some (.bool fin) := R9.cell 10 rfl
              (try simp only [Exit.inBlock, Exit.then])
              refine bodyPost_ret (v := .tuple #[.agg #[.string mc, .int .i64 ip, .int .i64 po, .int .i64 di, .int .i64 st, .int .i64 un, .int .i64 nx, .int .i64 NQ2, .string (inn ++ da), .string out, .bool fin], .slice (some ⟨w6.heap.size, 0, none⟩) 1 1]) (by simp [results, Try.results85, go_sem, xx0, xx1, xx2, xx3, xx4, xx5, xx6, xx7, xx8, xx9, xx10]; try rfl) rfl ?_
              exact ⟨_, rfl, O9.out.1, O9.out.2⟩
            exact AllReadyH.nil
          refine AllReadyH.cons rfl (fun K hK => ?_) ?_
          · skip
            refine wpr_put rfl _ _ rfl (w.heap.size + 1 + 1) _ rfl rfl R6.out rfl rfl rfl ?_
            intro w8 hw8 R8
            have hz8 : w.heap.size ≤ w8.heap.size := by
              have := World.block_lt_of_cell? w8 _ (R8.cell 0 rfl)
              dsimp only at this
              omega
            have F8 : Hid (XQ (w.heap.size) [.string mc, .int .i64 ip, .int .i64 po, .int .i64 di, .int .i64 st, .int .i64 un, .int .i64 nx, .int .i64 NQ2, .string (inn ++ da), .string out, .bool fin] w w8 ∧ XQ (w.heap.size) [.string mc, .int .i64 ip, .int .i64 po, .int .i64 di, .int .i64 st, .int .i64 un, .int .i64 nx, .int .i64 NQ2, .string (inn ++ da), .string out, .bool fin] w (w8.alloc (.cells #[.int .i64 80, .int .i64 po, .int .i64 nx, .int .i64 NQ2, .int .i64 16, .int .i64 1000, .string ⟨#[]⟩] 27))) := by
              have h : XQ (w.heap.size) [.string mc, .int .i64 ip, .int .i64 po, .int .i64 di, .int .i64 st, .int .i64 un, .int .i64 nx, .int .i64 NQ2, .string (inn ++ da), .string out, .bool fin] w w8 := by rw [hw8]; exact L6.out.cells (by omega) (by omega)
              exact ⟨h, h.below ((Below.refl _ _).alloc (Nat.le_refl _) _)⟩
            clear hw8
            refine hK.out _ _ ?_ (fun hH2007 => ?_)
            · (try dsimp only)
              first | (with_reducible exact L6.out) | (with_reducible exact LA.out) | (with_reducible exact F8.out.1) | (with_reducible exact F8.out.2)
            clear hK K hH2003
            refine wpAnyH_ready (rs := [3]) (by kernel_rfl) (by simp) ?_
            refine AllReadyH.cons rfl (fun K hK => ?_) ?_
            · go_simp
              refine hK.out _ _ ?_ (fun hH2008 => ?_)
              · (try dsimp only)
                first | (with_reducible exact L6.out) | (with_reducible exact LA.out) | (with_reducible exact F8.out.1) | (with_reducible exact F8.out.2)
              clear hK K hH2007
              refine wpAnyH_take (i := 5) (v := ?v2009) rfl (by kernel_rfl) (by kernel_rfl) (by kernel_rfl) (fun _ _ _ h => h) (Or.inl ⟨by rfl, ?hy2009⟩) (by assumption) ?rest2009
              case hy2009 => (intro w hSw; (try dsimp only at hSw); go_simp; (try with_reducible rfl))
              refine wpAnyH_done (by kernel_rfl) ?_ _
              have O9 : Hid (OwnS sgG 7 27 (w8.alloc (.cells #[.int .i64 80, .int .i64 po, .int .i64 nx, .int .i64 NQ2, .int .i64 16, .int .i64 1000, .string ⟨#[]⟩] 27)) w.heap.size (.slice (some ⟨w8.heap.size, 0, none⟩) 1 1) [⟨80, po, nx, NQ2, 16, 1000, ⟨#[]⟩⟩] ∧ Below w.heap.size w (w8.alloc (.cells #[.int .i64 80, .int .i64 po, .int .i64 nx, .int .i64 NQ2, .int .i64 16, .int .i64 1000, .string ⟨#[]⟩] 27))) := ⟨own1 w8 _ 80 po nx NQ2 16 1000 ⟨#[]⟩ hz8, F8.out.2.out⟩
              have R9 := R8.below ((Below.refl _ _).alloc (Nat.le_refl _) (.cells #[.int .i64 80, .int .i64 po, .int .i64 nx, .int .i64 NQ2, .int .i64 16, .int .i64 1000, .string ⟨#[]⟩] 27))
              clear hH2008
              generalize (w8.alloc (.cells #[.int .i64 80, .int .i64 po, .int .i64 nx, .int .i64 NQ2, .int .i64 16, .int .i64 1000, .string ⟨#[]⟩] 27)) = w9 at O9 R9 ⊢
              go_wp2
              have xx0 : w9.cell? ⟨w.heap.size + 1 + 1, 0, none⟩ = some (.string mc) := R9.cell 0 rfl
              have xx1 : w9.cell? ⟨w.heap.size + 1 + 1, 1, none⟩ = some (.int .i64 ip) := R9.cell 1 rfl
              have xx2 : w9.cell? ⟨w.heap.size + 1 + 1, 2, none⟩ = some (.int .i64 po) := R9.cell 2 rfl
              have xx3 : w9.cell? ⟨w.heap.size + 1 + 1, 3, none⟩ = some (.int .i64 di) := R9.cell 3 rfl
              have xx4 : w9.cell? ⟨w.heap.size + 1 + 1, 4, none⟩ = some (.int .i64 st) := R9.cell 4 rfl
              have xx5 : w9.cell? ⟨w.heap.size + 1 + 1, 5, none⟩ = some (.int .i64 un) := R9.cell 5 rfl
              have xx6 : w9.cell? ⟨w.heap.size + 1 + 1, 6, none⟩ = some (.int .i64 nx) := R9.cell 6 rfl
              have xx7 : w9.cell? ⟨w.heap.size + 1 + 1, 7, none⟩ = some (.int .i64 NQ2) := R9.cell 7 rfl
              have xx8 : w9.cell? ⟨w.heap.size + 1 + 1, 8, none⟩ = some (.string (inn ++ da)) := R9.cell 8 rfl
              have xx9 : w9.cell? ⟨w.heap.size + 1 + 1, 9, none⟩ = some (.string out) := R9.cell 9 rfl
              have xx10 : w9.cell? ⟨w.heap.size + 1 + 1, 10, none⟩ = some (.bool fin) := R9.cell 10 rfl
              (try simp only [Exit.inBlock, Exit.then])
              refine bodyPost_ret (v := .tuple #[.agg #[.string mc, .int .i64 ip, .int .i64 po, .int .i64 di, .int .i64 st, .int .i64 un, .int .i64 nx, .int .i64 NQ2, .string (inn ++ da), .string out, .bool fin], .slice (some ⟨w8.heap.size, 0, none⟩) 1 1]) (by simp [results, Try.results85, go_sem, xx0, xx1, xx2, xx3, xx4, xx5, xx6, xx7, xx8, xx9, xx10]; try rfl) rfl ?_
              exact ⟨_, rfl, O9.out.1, O9.out.2⟩
            exact AllReadyH.nil
          exact AllReadyH.nil
        exact AllReadyH.nil
      | false =>
        rw [if_neg (by decide)]
        clear TR
        have TA : Hid (∀ w, Calls Try.prog 87 #[.agg #[.string mc, .int .i64 ip, .int .i64 po, .int .i64 di, .int .i64 st, .int .i64 un, .int .i64 nx, .int .i64 NQ, .string (inn ++ da), .string out, .bool fin]] w fun e w' => e = .returned (.agg #[.int .i64 80, .int .i64 po, .int .i64 nx, .int .i64 NQ, .int .i64 16, .int .i64 1000, .string ⟨#[]⟩]) ∧ Grw w w') := fun w => acking_any mc ip po di st un nx NQ (inn ++ da) out fin w
        have C0 : Bx (((w.alloc (.cells #[.string mc, .int .i64 ip, .int .i64 po, .int .i64 di, .int .i64 st, .int .i64 un, .int .i64 nx, .int .i64 NQ, .string (inn ++ da), .string out, .bool fin] 24)).alloc (.cells #[.int .i64 sp, .int .i64 dp, .int .i64 sq, .int .i64 ac, .int .i64 fl, .int .i64 wi, .string da] 27)).alloc (.cells #[.string ⟨#[]⟩, .int .i64 0, .int .i64 0, .int .i64 0, .int .i64 0, .int .i64 0, .int .i64 0, .int .i64 0, .string ⟨#[]⟩, .string ⟨#[]⟩, .bool false] 24)) w.heap.size [.string mc, .int .i64 ip, .int .i64 po, .int .i64 di, .int .i64 st, .int .i64 un, .int .i64 nx, .int .i64 NQ, .string (inn ++ da), .string out, .bool fin] := ((Bx.new w _ _).below ((Below.refl _ _).alloc (Nat.le_refl _) _)).below ((Below.refl _ _).alloc (Nat.le_refl _) _)
        have G0 : Bx (((w.alloc (.cells #[.string mc, .int .i64 ip, .int .i64 po, .int .i64 di, .int .i64 st, .int .i64 un, .int .i64 nx, .int .i64 NQ, .string (inn ++ da), .string out, .bool fin] 24)).alloc (.cells #[.int .i64 sp, .int .i64 dp, .int .i64 sq, .int .i64 ac, .int .i64 fl, .int .i64 wi, .string da] 27)).alloc (.cells #[.string ⟨#[]⟩, .int .i64 0, .int .i64 0, .int .i64 0, .int .i64 0, .int .i64 0, .int .i64 0, .int .i64 0, .string ⟨#[]⟩, .string ⟨#[]⟩, .bool false] 24)) (w.heap.size + 1) [.int .i64 sp, .int .i64 dp, .int .i64 sq, .int .i64 ac, .int .i64 fl, .int .i64 wi, .string da] := by
          have h := (Bx.new (w.alloc (.cells #[.string mc, .int .i64 ip, .int .i64 po, .int .i64 di, .int .i64 st, .int .i64 un, .int .i64 nx, .int .i64 NQ, .string (inn ++ da), .string out, .bool fin] 24)) #[.int .i64 sp, .int .i64 dp, .int .i64 sq, .int .i64 ac, .int .i64 fl, .int .i64 wi, .string da] 27).below ((Below.refl _ _).alloc (Nat.le_refl _) (.cells #[.string ⟨#[]⟩, .int .i64 0, .int .i64 0, .int .i64 0, .int .i64 0, .int .i64 0, .int .i64 0, .int .i64 0, .string ⟨#[]⟩, .string ⟨#[]⟩, .bool false] 24))
          rw [World.size_alloc] at h
          exact h
        have R0 : Bx (((w.alloc (.cells #[.string mc, .int .i64 ip, .int .i64 po, .int .i64 di, .int .i64 st, .int .i64 un, .int .i64 nx, .int .i64 NQ, .string (inn ++ da), .string out, .bool fin] 24)).alloc (.cells #[.int .i64 sp, .int .i64 dp, .int .i64 sq, .int .i64 ac, .int .i64 fl, .int .i64 wi, .string da] 27)).alloc (.cells #[.string ⟨#[]⟩, .int .i64 0, .int .i64 0, .int .i64 0, .int .i64 0, .int .i64 0, .int .i64 0, .int .i64 0, .string ⟨#[]⟩, .string ⟨#[]⟩, .bool false] 24)) (w.heap.size + 1 + 1) [.string ⟨#[]⟩, .int .i64 0, .int .i64 0, .int .i64 0, .int .i64 0, .int .i64 0, .int .i64 0, .int .i64 0, .string ⟨#[]⟩, .string ⟨#[]⟩, .bool false] := by
          have h := Bx.new ((w.alloc (.cells #[.string mc, .int .i64 ip, .int .i64 po, .int .i64 di, .int .i64 st, .int .i64 un, .int .i64 nx, .int .i64 NQ, .string (inn ++ da), .string out, .bool fin] 24)).alloc (.cells #[.int .i64 sp, .int .i64 dp, .int .i64 sq, .int .i64 ac, .int .i64 fl, .int .i64 wi, .string da] 27)) #[.string ⟨#[]⟩, .int .i64 0, .int .i64 0, .int .i64 0, .int .i64 0, .int .i64 0, .int .i64 0, .int .i64 0, .string ⟨#[]⟩, .string ⟨#[]⟩, .bool false] 24
          rw [World.size_alloc, World.size_alloc] at h
          exact h
        have B0 : Hid (Below w.heap.size w (((w.alloc (.cells #[.string mc, .int .i64 ip, .int .i64 po, .int .i64 di, .int .i64 st, .int .i64 un, .int .i64 nx, .int .i64 NQ, .string (inn ++ da), .string out, .bool fin] 24)).alloc (.cells #[.int .i64 sp, .int .i64 dp, .int .i64 sq, .int .i64 ac, .int .i64 fl, .int .i64 wi, .string da] 27)).alloc (.cells #[.string ⟨#[]⟩, .int .i64 0, .int .i64 0, .int .i64 0, .int .i64 0, .int .i64 0, .int .i64 0, .int .i64 0, .string ⟨#[]⟩, .string ⟨#[]⟩, .bool false] 24))) := ((((Below.refl _ _).alloc (Nat.le_refl _) _).alloc (by simp) _).alloc (by simp; omega) _)
        go_enter Try.func85, Try.ntmps85
        go_wp2_with fail
        refine (TQ.out _).mono ?_
        rintro e w1 ⟨rfl, hw⟩
        subst hw
        go_wp2_with (first | (refine wpl_get rfl _ rfl _ rfl (by assumption) rfl ?_) | (refine wpl_getS rfl _ rfl _ rfl (by assumption) rfl ?_) | fail)
        refine (TF.out _).mono ?_
        rintro e w1 ⟨rfl, g1⟩
        have b1 := g1.below
        have C1 : Bx w1 w.heap.size [.string mc, .int .i64 ip, .int .i64 po, .int .i64 di, .int .i64 st, .int .i64 un, .int .i64 nx, .int .i64 NQ, .string (inn ++ da), .string out, .bool fin] := C0.below b1
        have G1 : Bx w1 (w.heap.size + 1) [.int .i64 sp, .int .i64 dp, .int .i64 sq, .int .i64 ac, .int .i64 fl, .int .i64 wi, .string da] := G0.below b1
        have R1 : Bx w1 (w.heap.size + 1 + 1) [.string ⟨#[]⟩, .int .i64 0, .int .i64 0, .int .i64 0, .int .i64 0, .int .i64 0, .int .i64 0, .int .i64 0, .string ⟨#[]⟩, .string ⟨#[]⟩, .bool false] := R0.below b1
        have B1 : Hid (Below w.heap.size w w1) := B0.out.trans (b1.mono B0.out.size)
        have e1 : w1.cell? ⟨w.heap.size + 1, 2, none⟩ = some (.int .i64 sq) := G1.cell 2 rfl
        have d1 : w1.cell? ⟨w.heap.size + 1, 6, none⟩ = some (.string da) := G1.cell 6 rfl
        clear b1 g1
        clear C0 R0 B0 TQ hadd
        go_wp2_with fail
        clear e1 d1
        have C5 := C1
        have R5 := R1
        have B5 := B1
        clear C1 R1 G1 B1
        generalize w1 = w5 at C5 R5 B5 ⊢
        have hs5 : w.heap.size + 3 ≤ w5.heap.size := by
          have := World.block_lt_of_cell? w5 _ (R5.cell 0 rfl)
          dsimp only at this
          omega
        have SS : Hid (XQ (w.heap.size) [.string mc, .int .i64 ip, .int .i64 po, .int .i64 di, .int .i64 st, .int .i64 un, .int .i64 nx, .int .i64 NQ, .string (inn ++ da), .string out, .bool fin] w w5.drew) := ⟨C5.below ((Below.refl _ _).drew), B5.out.drew⟩
        have RS : Hid (Bx w5.drew (w.heap.size + 1 + 1) [.string ⟨#[]⟩, .int .i64 0, .int .i64 0, .int .i64 0, .int .i64 0, .int .i64 0, .int .i64 0, .int .i64 0, .string ⟨#[]⟩, .string ⟨#[]⟩, .bool false]) := R5.below ((Below.refl _ _).drew)
        clear C5 R5 B5
        refine wp_region_held_drew (S := (fun wx => XQ (w.heap.size) [.string mc, .int .i64 ip, .int .i64 po, .int .i64 di, .int .i64 st, .int .i64 un, .int .i64 nx, .int .i64 NQ, .string (inn ++ da), .string out, .bool fin] w wx)) (by kernel_rfl) ?_ (fun hH0 => ?_)
        · with_reducible exact SS.out
        refine wpAnyH_take (i := 0) (v := .agg #[.string mc, .int .i64 ip, .int .i64 po, .int .i64 di, .int .i64 st, .int .i64 un, .int .i64 nx, .int .i64 NQ, .string (inn ++ da), .string out, .bool fin]) rfl (by kernel_rfl) (by kernel_rfl) (by kernel_rfl) (fun _ _ _ h => h) (yieldsIf_load_mid (by rfl) 24 _ rfl (w.heap.size) 0 rfl [.string mc, .int .i64 ip, .int .i64 po, .int .i64 di, .int .i64 st, .int .i64 un, .int .i64 nx, .int .i64 NQ, .string (inn ++ da), .string out, .bool fin] _ (fun _ h => h.c.cl) Try.underlying24 rfl rfl) (by assumption) ?rest3001
        refine wpAnyH_take (i := 1) (v := .agg #[.string mc, .int .i64 ip, .int .i64 po, .int .i64 di, .int .i64 st, .int .i64 un, .int .i64 nx, .int .i64 NQ, .string (inn ++ da), .string out, .bool fin]) rfl (by kernel_rfl) (by kernel_rfl) (by kernel_rfl) (fun _ _ _ h => h) (yieldsIf_load_mid (by rfl) 24 _ rfl (w.heap.size) 0 rfl [.string mc, .int .i64 ip, .int .i64 po, .int .i64 di, .int .i64 st, .int .i64 un, .int .i64 nx, .int .i64 NQ, .string (inn ++ da), .string out, .bool fin] _ (fun _ h => h.c.cl) Try.underlying24 rfl rfl) (by assumption) ?rest3002
        refine wpAnyH_ready (rs := [2]) (by kernel_rfl) (by simp) ?_
        refine AllReadyH.cons rfl (fun K hK => ?_) ?_
        · go_simp
          go_at_call 87
          with_reducible refine (TA.out _).mono ?_
          rintro e w6 ⟨rfl, g6⟩
          have hs6 : w.heap.size + 3 ≤ w6.heap.size := Nat.le_trans (by simpa using hs5) g6.below.size
          have L6 : Hid (XQ (w.heap.size) [.string mc, .int .i64 ip, .int .i64 po, .int .i64 di, .int .i64 st, .int .i64 un, .int .i64 nx, .int .i64 NQ, .string (inn ++ da), .string out, .bool fin] w w6) := SS.out.below g6.below
          have R6 : Hid (Bx w6 (w.heap.size + 1 + 1) [.string ⟨#[]⟩, .int .i64 0, .int .i64 0, .int .i64 0, .int .i64 0, .int .i64 0, .int .i64 0, .int .i64 0, .string ⟨#[]⟩, .string ⟨#[]⟩, .bool false]) := RS.out.below g6.below
          have LA : Hid (XQ (w.heap.size) [.string mc, .int .i64 ip, .int .i64 po, .int .i64 di, .int .i64 st, .int .i64 un, .int .i64 nx, .int .i64 NQ, .string (inn ++ da), .string out, .bool fin] w (w6.alloc (.cells #[.int .i64 80, .int .i64 po, .int .i64 nx, .int .i64 NQ, .int .i64 16, .int .i64 1000, .string ⟨#[]⟩] 27))) := L6.out.below ((Below.refl _ _).alloc (Nat.le_refl _) _)
          clear g6 SS RS
          refine hK.out _ _ ?_ (fun hH3003 => ?_)
          · (try dsimp only)
            first | (with_reducible exact L6.out) | (with_reducible exact LA.out) | (with_reducible exact F8.out.1) | (with_reducible exact F8.out.2)
          clear hK K hH0
          refine wpAnyH_ready (rs := [3, 4]) (by kernel_rfl) (by simp) ?_
          refine AllReadyH.cons rfl (fun K hK => ?_) ?_
          · go_simp
            refine hK.out _ _ ?_ (fun hH3004 => ?_)
            · (try dsimp only)
              first | (with_reducible exact L6.out) | (with_reducible exact LA.out) | (with_reducible exact F8.out.1) | (with_reducible exact F8.out.2)
            clear hK K hH3003
            refine wpAnyH_ready (rs := [4]) (by kernel_rfl) (by simp) ?_
            refine AllReadyH.cons rfl (fun K hK => ?_) ?_
            · skip
              refine wpr_put rfl _ _ rfl (w.heap.size + 1 + 1) _ rfl rfl (R6.out.below ((Below.refl _ _).alloc (Nat.le_refl _) (.cells #[.int .i64 80, .int .i64 po, .int .i64 nx, .int .i64 NQ, .int .i64 16, .int .i64 1000, .string ⟨#[]⟩] 27))) rfl rfl rfl ?_
              intro w8 hw8 R8
              have F8 : Hid (XQ (w.heap.size) [.string mc, .int .i64 ip, .int .i64 po, .int .i64 di, .int .i64 st, .int .i64 un, .int .i64 nx, .int .i64 NQ, .string (inn ++ da), .string out, .bool fin] w w8 ∧ OwnS sgG 7 27 w8 w.heap.size (.slice (some ⟨w6.heap.size, 0, none⟩) 1 1) [⟨80, po, nx, NQ, 16, 1000, ⟨#[]⟩⟩]) := by
                rw [hw8]
                exact ⟨LA.out.cells (by omega) (by omega), (own_cells (by omega) _ _ _ (own1 w6 (w.heap.size + 3) 80 po nx NQ 16 1000 ⟨#[]⟩ hs6)).lower (by omega)⟩
              clear hw8
              refine hK.out _ _ ?_ (fun hH3005 => ?_)
              · (try dsimp only)
                first | (with_reducible exact L6.out) | (with_reducible exact LA.out) | (with_reducible exact F8.out.1) | (with_reducible exact F8.out.2)
              clear hK K hH3004
              refine wpAnyH_take (i := 5) (v := ?v3006) rfl (by kernel_rfl) (by kernel_rfl) (by kernel_rfl) (fun _ _ _ h => h) (Or.inl ⟨by rfl, ?hy3006⟩) (by assumption) ?rest3006
              case hy3006 => (intro w hSw; (try dsimp only at hSw); go_simp; (try with_reducible rfl))
              refine wpAnyH_done (by kernel_rfl) ?_ _
              have O9 : Hid (OwnS sgG 7 27 w8 w.heap.size (.slice (some ⟨w6.heap.size, 0, none⟩) 1 1) [⟨80, po, nx, NQ, 16, 1000, ⟨#[]⟩⟩] ∧ Below w.heap.size w w8) := ⟨F8.out.2, F8.out.1.out⟩
              have R9 := R8
              clear hH3005
              go_wp2
              have xx0 : w8.cell? ⟨w.heap.size + 1 + 1, 0, none⟩ = some (.string mc) := R9.cell 0 rfl
              have xx1 : w8.cell? ⟨w.heap.size + 1 + 1, 1, none⟩ = some (.int .i64 ip) := R9.cell 1 rfl
              have xx2 : w8.cell? ⟨w.heap.size + 1 + 1, 2, none⟩ = some (.int .i64 po) := R9.cell 2 rfl
              have xx3 : w8.cell? ⟨w.heap.size + 1 + 1, 3, none⟩ = some (.int .i64 di) := R9.cell 3 rfl
              have xx4 : w8.cell? ⟨w.heap.size + 1 + 1, 4, none⟩ = some (.int .i64 st) := R9.cell 4 rfl
              have xx5 : w8.cell? ⟨w.heap.size + 1 + 1, 5, none⟩ = some (.int .i64 un) := R9.cell 5 rfl
              have xx6 : w8.cell? ⟨w.heap.size + 1 + 1, 6, none⟩ = some (.int .i64 nx) := R9.cell 6 rfl
              have xx7 : w8.cell? ⟨w.heap.size + 1 + 1, 7, none⟩ = some (.int .i64 NQ) := R9.cell 7 rfl
              have xx8 : w8.cell? ⟨w.heap.size + 1 + 1, 8, none⟩ = some (.string (inn ++ da)) := R9.cell 8 rfl
              have xx9 : w8.cell? ⟨w.heap.size + 1 + 1, 9, none⟩ = some (.string out) := R9.cell 9 rfl
              have xx10 : w8.cell? ⟨w.heap.size + 1 + 1, 10, none⟩ = some (.bool fin) := R9.cell 10 rfl
              (try simp only [Exit.inBlock, Exit.then])
              refine bodyPost_ret (v := .tuple #[.agg #[.string mc, .int .i64 ip, .int .i64 po, .int .i64 di, .int .i64 st, .int .i64 un, .int .i64 nx, .int .i64 NQ, .string (inn ++ da), .string out, .bool fin], .slice (some ⟨w6.heap.size, 0, none⟩) 1 1]) (by simp [results, Try.results85, go_sem, xx0, xx1, xx2, xx3, xx4, xx5, xx6, xx7, xx8, xx9, xx10]; try rfl) rfl ?_
              exact ⟨_, rfl, O9.out.1, O9.out.2⟩
            exact AllReadyH.nil
          refine AllReadyH.cons rfl (fun K hK => ?_) ?_
          · skip
            refine wpr_put rfl _ _ rfl (w.heap.size + 1 + 1) _ rfl rfl R6.out rfl rfl rfl ?_
            intro w8 hw8 R8
            have hz8 : w.heap.size ≤ w8.heap.size := by
              have := World.block_lt_of_cell? w8 _ (R8.cell 0 rfl)
              dsimp only at this
              omega
            have F8 : Hid (XQ (w.heap.size) [.string mc, .int .i64 ip, .int .i64 po, .int .i64 di, .int .i64 st, .int .i64 un, .int .i64 nx, .int .i64 NQ, .string (inn ++ da), .string out, .bool fin] w w8 ∧ XQ (w.heap.size) [.string mc, .int .i64 ip, .int .i64 po, .int .i64 di, .int .i64 st, .int .i64 un, .int .i64 nx, .int .i64 NQ, .string (inn ++ da), .string out, .bool fin] w (w8.alloc (.cells #[.int .i64 80, .int .i64 po, .int .i64 nx, .int .i64 NQ, .int .i64 16, .int .i64 1000, .string ⟨#[]⟩] 27))) := by
              have h : XQ (w.heap.size) [.string mc, .int .i64 ip, .int .i64 po, .int .i64 di, .int .i64 st, .int .i64 un, .int .i64 nx, .int .i64 NQ, .string (inn ++ da), .string out, .bool fin] w w8 := by rw [hw8]; exact L6.out.cells (by omega) (by omega)
              exact ⟨h, h.below ((Below.refl _ _).alloc (Nat.le_refl _) _)⟩
            clear hw8
            refine hK.out _ _ ?_ (fun hH3007 => ?_)
            · (try dsimp only)
              first | (with_reducible exact L6.out) | (with_reducible exact LA.out) | (with_reducible exact F8.out.1) | (with_reducible exact F8.out.2)
            clear hK K hH3003
            refine wpAnyH_ready (rs := [3]) (by kernel_rfl) (by simp) ?_
            refine AllReadyH.cons rfl (fun K hK => ?_) ?_
            · go_simp
              refine hK.out _ _ ?_ (fun hH3008 => ?_)
              · (try dsimp only)
                first | (with_reducible exact L6.out) | (with_reducible exact LA.out) | (with_reducible exact F8.out.1) | (with_reducible exact F8.out.2)
              clear hK K hH3007
              refine wpAnyH_take (i := 5) (v := ?v3009) rfl (by kernel_rfl) (by kernel_rfl) (by kernel_rfl) (fun _ _ _ h => h) (Or.inl ⟨by rfl, ?hy3009⟩) (by assumption) ?rest3009
              case hy3009 => (intro w hSw; (try dsimp only at hSw); go_simp; (try with_reducible rfl))
              refine wpAnyH_done (by kernel_rfl) ?_ _
              have O9 : Hid (OwnS sgG 7 27 (w8.alloc (.cells #[.int .i64 80, .int .i64 po, .int .i64 nx, .int .i64 NQ, .int .i64 16, .int .i64 1000, .string ⟨#[]⟩] 27)) w.heap.size (.slice (some ⟨w8.heap.size, 0, none⟩) 1 1) [⟨80, po, nx, NQ, 16, 1000, ⟨#[]⟩⟩] ∧ Below w.heap.size w (w8.alloc (.cells #[.int .i64 80, .int .i64 po, .int .i64 nx, .int .i64 NQ, .int .i64 16, .int .i64 1000, .string ⟨#[]⟩] 27))) := ⟨own1 w8 _ 80 po nx NQ 16 1000 ⟨#[]⟩ hz8, F8.out.2.out⟩
              have R9 := R8.below ((Below.refl _ _).alloc (Nat.le_refl _) (.cells #[.int .i64 80, .int .i64 po, .int .i64 nx, .int .i64 NQ, .int .i64 16, .int .i64 1000, .string ⟨#[]⟩] 27))
              clear hH3008
              generalize (w8.alloc (.cells #[.int .i64 80, .int .i64 po, .int .i64 nx, .int .i64 NQ, .int .i64 16, .int .i64 1000, .string ⟨#[]⟩] 27)) = w9 at O9 R9 ⊢
              go_wp2
              have xx0 : w9.cell? ⟨w.heap.size + 1 + 1, 0, none⟩ = some (.string mc) := R9.cell 0 rfl
              have xx1 : w9.cell? ⟨w.heap.size + 1 + 1, 1, none⟩ = some (.int .i64 ip) := R9.cell 1 rfl
              have xx2 : w9.cell? ⟨w.heap.size + 1 + 1, 2, none⟩ = some (.int .i64 po) := R9.cell 2 rfl
              have xx3 : w9.cell? ⟨w.heap.size + 1 + 1, 3, none⟩ = some (.int .i64 di) := R9.cell 3 rfl
              have xx4 : w9.cell? ⟨w.heap.size + 1 + 1, 4, none⟩ = some (.int .i64 st) := R9.cell 4 rfl
              have xx5 : w9.cell? ⟨w.heap.size + 1 + 1, 5, none⟩ = some (.int .i64 un) := R9.cell 5 rfl
              have xx6 : w9.cell? ⟨w.heap.size + 1 + 1, 6, none⟩ = some (.int .i64 nx) := R9.cell 6 rfl
              have xx7 : w9.cell? ⟨w.heap.size + 1 + 1, 7, none⟩ = some (.int .i64 NQ) := R9.cell 7 rfl
              have xx8 : w9.cell? ⟨w.heap.size + 1 + 1, 8, none⟩ = some (.string (inn ++ da)) := R9.cell 8 rfl
              have xx9 : w9.cell? ⟨w.heap.size + 1 + 1, 9, none⟩ = some (.string out) := R9.cell 9 rfl
              have xx10 : w9.cell? ⟨w.heap.size + 1 + 1, 10, none⟩ = some (.bool fin) := R9.cell 10 rfl
              (try simp only [Exit.inBlock, Exit.then])
              refine bodyPost_ret (v := .tuple #[.agg #[.string mc, .int .i64 ip, .int .i64 po, .int .i64 di, .int .i64 st, .int .i64 un, .int .i64 nx, .int .i64 NQ, .string (inn ++ da), .string out, .bool fin], .slice (some ⟨w8.heap.size, 0, none⟩) 1 1]) (by simp [results, Try.results85, go_sem, xx0, xx1, xx2, xx3, xx4, xx5, xx6, xx7, xx8, xx9, xx10]; try rfl) rfl ?_
              exact ⟨_, rfl, O9.out.1, O9.out.2⟩
            exact AllReadyH.nil
          exact AllReadyH.nil
        exact AllReadyH.nil
    · rw [if_neg hp] at EV
      rw [EV]
      clear EN EV TQ TR hadd TF
      by_cases hs : sq = wa
      · have q1 : (sq == wa) = true := by simp [hs]
        rw [decide_eq_false (fun h => hp ⟨hs, h⟩)] at hfit
        clear hp hs
        have C0 : Bx (((w.alloc (.cells #[.string mc, .int .i64 ip, .int .i64 po, .int .i64 di, .int .i64 st, .int .i64 un, .int .i64 nx, .int .i64 wa, .string inn, .string out, .bool fin] 24)).alloc (.cells #[.int .i64 sp, .int .i64 dp, .int .i64 sq, .int .i64 ac, .int .i64 fl, .int .i64 wi, .string da] 27)).alloc (.cells #[.string ⟨#[]⟩, .int .i64 0, .int .i64 0, .int .i64 0, .int .i64 0, .int .i64 0, .int .i64 0, .int .i64 0, .string ⟨#[]⟩, .string ⟨#[]⟩, .bool false] 24)) w.heap.size [.string mc, .int .i64 ip, .int .i64 po, .int .i64 di, .int .i64 st, .int .i64 un, .int .i64 nx, .int .i64 wa, .string inn, .string out, .bool fin] := ((Bx.new w _ _).below ((Below.refl _ _).alloc (Nat.le_refl _) _)).below ((Below.refl _ _).alloc (Nat.le_refl _) _)
        have G0 : Bx (((w.alloc (.cells #[.string mc, .int .i64 ip, .int .i64 po, .int .i64 di, .int .i64 st, .int .i64 un, .int .i64 nx, .int .i64 wa, .string inn, .string out, .bool fin] 24)).alloc (.cells #[.int .i64 sp, .int .i64 dp, .int .i64 sq, .int .i64 ac, .int .i64 fl, .int .i64 wi, .string da] 27)).alloc (.cells #[.string ⟨#[]⟩, .int .i64 0, .int .i64 0, .int .i64 0, .int .i64 0, .int .i64 0, .int .i64 0, .int .i64 0, .string ⟨#[]⟩, .string ⟨#[]⟩, .bool false] 24)) (w.heap.size + 1) [.int .i64 sp, .int .i64 dp, .int .i64 sq, .int .i64 ac, .int .i64 fl, .int .i64 wi, .string da] := by
          have h := (Bx.new (w.alloc (.cells #[.string mc, .int .i64 ip, .int .i64 po, .int .i64 di, .int .i64 st, .int .i64 un, .int .i64 nx, .int .i64 wa, .string inn, .string out, .bool fin] 24)) #[.int .i64 sp, .int .i64 dp, .int .i64 sq, .int .i64 ac, .int .i64 fl, .int .i64 wi, .string da] 27).below ((Below.refl _ _).alloc (Nat.le_refl _) (.cells #[.string ⟨#[]⟩, .int .i64 0, .int .i64 0, .int .i64 0, .int .i64 0, .int .i64 0, .int .i64 0, .int .i64 0, .string ⟨#[]⟩, .string ⟨#[]⟩, .bool false] 24))
          rw [World.size_alloc] at h
          exact h
        have R0 : Bx (((w.alloc (.cells #[.string mc, .int .i64 ip, .int .i64 po, .int .i64 di, .int .i64 st, .int .i64 un, .int .i64 nx, .int .i64 wa, .string inn, .string out, .bool fin] 24)).alloc (.cells #[.int .i64 sp, .int .i64 dp, .int .i64 sq, .int .i64 ac, .int .i64 fl, .int .i64 wi, .string da] 27)).alloc (.cells #[.string ⟨#[]⟩, .int .i64 0, .int .i64 0, .int .i64 0, .int .i64 0, .int .i64 0, .int .i64 0, .int .i64 0, .string ⟨#[]⟩, .string ⟨#[]⟩, .bool false] 24)) (w.heap.size + 1 + 1) [.string ⟨#[]⟩, .int .i64 0, .int .i64 0, .int .i64 0, .int .i64 0, .int .i64 0, .int .i64 0, .int .i64 0, .string ⟨#[]⟩, .string ⟨#[]⟩, .bool false] := by
          have h := Bx.new ((w.alloc (.cells #[.string mc, .int .i64 ip, .int .i64 po, .int .i64 di, .int .i64 st, .int .i64 un, .int .i64 nx, .int .i64 wa, .string inn, .string out, .bool fin] 24)).alloc (.cells #[.int .i64 sp, .int .i64 dp, .int .i64 sq, .int .i64 ac, .int .i64 fl, .int .i64 wi, .string da] 27)) #[.string ⟨#[]⟩, .int .i64 0, .int .i64 0, .int .i64 0, .int .i64 0, .int .i64 0, .int .i64 0, .int .i64 0, .string ⟨#[]⟩, .string ⟨#[]⟩, .bool false] 24
          rw [World.size_alloc, World.size_alloc] at h
          exact h
        have B0 : Hid (Below w.heap.size w (((w.alloc (.cells #[.string mc, .int .i64 ip, .int .i64 po, .int .i64 di, .int .i64 st, .int .i64 un, .int .i64 nx, .int .i64 wa, .string inn, .string out, .bool fin] 24)).alloc (.cells #[.int .i64 sp, .int .i64 dp, .int .i64 sq, .int .i64 ac, .int .i64 fl, .int .i64 wi, .string da] 27)).alloc (.cells #[.string ⟨#[]⟩, .int .i64 0, .int .i64 0, .int .i64 0, .int .i64 0, .int .i64 0, .int .i64 0, .int .i64 0, .string ⟨#[]⟩, .string ⟨#[]⟩, .bool false] 24))) := ((((Below.refl _ _).alloc (Nat.le_refl _) _).alloc (by simp) _).alloc (by simp; omega) _)
        go_enter Try.func85, Try.ntmps85
        have TA : Hid (∀ w, Calls Try.prog 87 #[.agg #[.string mc, .int .i64 ip, .int .i64 po, .int .i64 di, .int .i64 st, .int .i64 un, .int .i64 nx, .int .i64 wa, .string inn, .string out, .bool fin]] w fun e w' => e = .returned (.agg #[.int .i64 80, .int .i64 po, .int .i64 nx, .int .i64 wa, .int .i64 16, .int .i64 1000, .string ⟨#[]⟩]) ∧ Grw w w') := fun w => acking_any mc ip po di st un nx wa inn out fin w
        go_wp2_with fail
        have C5 := C0
        have R5 := R0
        have B5 := B0
        clear C0 R0 G0 B0
        generalize (((w.alloc (.cells #[.string mc, .int .i64 ip, .int .i64 po, .int .i64 di, .int .i64 st, .int .i64 un, .int .i64 nx, .int .i64 wa, .string inn, .string out, .bool fin] 24)).alloc (.cells #[.int .i64 sp, .int .i64 dp, .int .i64 sq, .int .i64 ac, .int .i64 fl, .int .i64 wi, .string da] 27)).alloc (.cells #[.string ⟨#[]⟩, .int .i64 0, .int .i64 0, .int .i64 0, .int .i64 0, .int .i64 0, .int .i64 0, .int .i64 0, .string ⟨#[]⟩, .string ⟨#[]⟩, .bool false] 24)) = w5 at C5 R5 B5 ⊢
        have hs5 : w.heap.size + 3 ≤ w5.heap.size := by
          have := World.block_lt_of_cell? w5 _ (R5.cell 0 rfl)
          dsimp only at this
          omega
        have SS : Hid (XQ (w.heap.size) [.string mc, .int .i64 ip, .int .i64 po, .int .i64 di, .int .i64 st, .int .i64 un, .int .i64 nx, .int .i64 wa, .string inn, .string out, .bool fin] w w5.drew) := ⟨C5.below ((Below.refl _ _).drew), B5.out.drew⟩
        have RS : Hid (Bx w5.drew (w.heap.size + 1 + 1) [.string ⟨#[]⟩, .int .i64 0, .int .i64 0, .int .i64 0, .int .i64 0, .int .i64 0, .int .i64 0, .int .i64 0, .string ⟨#[]⟩, .string ⟨#[]⟩, .bool false]) := R5.below ((Below.refl _ _).drew)
        clear C5 R5 B5
        refine wp_region_held_drew (S := (fun wx => XQ (w.heap.size) [.string mc, .int .i64 ip, .int .i64 po, .int .i64 di, .int .i64 st, .int .i64 un, .int .i64 nx, .int .i64 wa, .string inn, .string out, .bool fin] w wx)) (by kernel_rfl) ?_ (fun hH0 => ?_)
        · with_reducible exact SS.out
        refine wpAnyH_take (i := 0) (v := .agg #[.string mc, .int .i64 ip, .int .i64 po, .int .i64 di, .int .i64 st, .int .i64 un, .int .i64 nx, .int .i64 wa, .string inn, .string out, .bool fin]) rfl (by kernel_rfl) (by kernel_rfl) (by kernel_rfl) (fun _ _ _ h => h) (yieldsIf_load_mid (by rfl) 24 _ rfl (w.heap.size) 0 rfl [.string mc, .int .i64 ip, .int .i64 po, .int .i64 di, .int .i64 st, .int .i64 un, .int .i64 nx, .int .i64 wa, .string inn, .string out, .bool fin] _ (fun _ h => h.c.cl) Try.underlying24 rfl rfl) (by assumption) ?rest6001
        refine wpAnyH_take (i := 1) (v := .agg #[.string mc, .int .i64 ip, .int .i64 po, .int .i64 di, .int .i64 st, .int .i64 un, .int .i64 nx, .int .i64 wa, .string inn, .string out, .bool fin]) rfl (by kernel_rfl) (by kernel_rfl) (by kernel_rfl) (fun _ _ _ h => h) (yieldsIf_load_mid (by rfl) 24 _ rfl (w.heap.size) 0 rfl [.string mc, .int .i64 ip, .int .i64 po, .int .i64 di, .int .i64 st, .int .i64 un, .int .i64 nx, .int .i64 wa, .string inn, .string out, .bool fin] _ (fun _ h => h.c.cl) Try.underlying24 rfl rfl) (by assumption) ?rest6002
        refine wpAnyH_ready (rs := [2]) (by kernel_rfl) (by simp) ?_
        refine AllReadyH.cons rfl (fun K hK => ?_) ?_
        · go_simp
          go_at_call 87
          with_reducible refine (TA.out _).mono ?_
          rintro e w6 ⟨rfl, g6⟩
          have hs6 : w.heap.size + 3 ≤ w6.heap.size := Nat.le_trans (by simpa using hs5) g6.below.size
          have L6 : Hid (XQ (w.heap.size) [.string mc, .int .i64 ip, .int .i64 po, .int .i64 di, .int .i64 st, .int .i64 un, .int .i64 nx, .int .i64 wa, .string inn, .string out, .bool fin] w w6) := SS.out.below g6.below
          have R6 : Hid (Bx w6 (w.heap.size + 1 + 1) [.string ⟨#[]⟩, .int .i64 0, .int .i64 0, .int .i64 0, .int .i64 0, .int .i64 0, .int .i64 0, .int .i64 0, .string ⟨#[]⟩, .string ⟨#[]⟩, .bool false]) := RS.out.below g6.below
          have LA : Hid (XQ (w.heap.size) [.string mc, .int .i64 ip, .int .i64 po, .int .i64 di, .int .i64 st, .int .i64 un, .int .i64 nx, .int .i64 wa, .string inn, .string out, .bool fin] w (w6.alloc (.cells #[.int .i64 80, .int .i64 po, .int .i64 nx, .int .i64 wa, .int .i64 16, .int .i64 1000, .string ⟨#[]⟩] 27))) := L6.out.below ((Below.refl _ _).alloc (Nat.le_refl _) _)
          clear g6 SS RS
          refine hK.out _ _ ?_ (fun hH6003 => ?_)
          · (try dsimp only)
            first | (with_reducible exact L6.out) | (with_reducible exact LA.out) | (with_reducible exact F8.out.1) | (with_reducible exact F8.out.2)
          clear hK K hH0
          refine wpAnyH_ready (rs := [3, 4]) (by kernel_rfl) (by simp) ?_
          refine AllReadyH.cons rfl (fun K hK => ?_) ?_
          · go_simp
            refine hK.out _ _ ?_ (fun hH6004 => ?_)
            · (try dsimp only)
              first | (with_reducible exact L6.out) | (with_reducible exact LA.out) | (with_reducible exact F8.out.1) | (with_reducible exact F8.out.2)
            clear hK K hH6003
            refine wpAnyH_ready (rs := [4]) (by kernel_rfl) (by simp) ?_
            refine AllReadyH.cons rfl (fun K hK => ?_) ?_
            · skip
              refine wpr_put rfl _ _ rfl (w.heap.size + 1 + 1) _ rfl rfl (R6.out.below ((Below.refl _ _).alloc (Nat.le_refl _) (.cells #[.int .i64 80, .int .i64 po, .int .i64 nx, .int .i64 wa, .int .i64 16, .int .i64 1000, .string ⟨#[]⟩] 27))) rfl rfl rfl ?_
              intro w8 hw8 R8
              have F8 : Hid (XQ (w.heap.size) [.string mc, .int .i64 ip, .int .i64 po, .int .i64 di, .int .i64 st, .int .i64 un, .int .i64 nx, .int .i64 wa, .string inn, .string out, .bool fin] w w8 ∧ OwnS sgG 7 27 w8 w.heap.size (.slice (some ⟨w6.heap.size, 0, none⟩) 1 1) [⟨80, po, nx, wa, 16, 1000, ⟨#[]⟩⟩]) := by
                rw [hw8]
                exact ⟨LA.out.cells (by omega) (by omega), (own_cells (by omega) _ _ _ (own1 w6 (w.heap.size + 3) 80 po nx wa 16 1000 ⟨#[]⟩ hs6)).lower (by omega)⟩
              clear hw8
              refine hK.out _ _ ?_ (fun hH6005 => ?_)
              · (try dsimp only)
                first | (with_reducible exact L6.out) | (with_reducible exact LA.out) | (with_reducible exact F8.out.1) | (with_reducible exact F8.out.2)
              clear hK K hH6004
              refine wpAnyH_take (i := 5) (v := ?v6006) rfl (by kernel_rfl) (by kernel_rfl) (by kernel_rfl) (fun _ _ _ h => h) (Or.inl ⟨by rfl, ?hy6006⟩) (by assumption) ?rest6006
              case hy6006 => (intro w hSw; (try dsimp only at hSw); go_simp; (try with_reducible rfl))
              refine wpAnyH_done (by kernel_rfl) ?_ _
              have O9 : Hid (OwnS sgG 7 27 w8 w.heap.size (.slice (some ⟨w6.heap.size, 0, none⟩) 1 1) [⟨80, po, nx, wa, 16, 1000, ⟨#[]⟩⟩] ∧ Below w.heap.size w w8) := ⟨F8.out.2, F8.out.1.out⟩
              have R9 := R8
              clear hH6005
              go_wp2
              have xx0 : w8.cell? ⟨w.heap.size + 1 + 1, 0, none⟩ = some (.string mc) := R9.cell 0 rfl
              have xx1 : w8.cell? ⟨w.heap.size + 1 + 1, 1, none⟩ = some (.int .i64 ip) := R9.cell 1 rfl
              have xx2 : w8.cell? ⟨w.heap.size + 1 + 1, 2, none⟩ = some (.int .i64 po) := R9.cell 2 rfl
              have xx3 : w8.cell? ⟨w.heap.size + 1 + 1, 3, none⟩ = some (.int .i64 di) := R9.cell 3 rfl
              have xx4 : w8.cell? ⟨w.heap.size + 1 + 1, 4, none⟩ = some (.int .i64 st) := R9.cell 4 rfl
              have xx5 : w8.cell? ⟨w.heap.size + 1 + 1, 5, none⟩ = some (.int .i64 un) := R9.cell 5 rfl
              have xx6 : w8.cell? ⟨w.heap.size + 1 + 1, 6, none⟩ = some (.int .i64 nx) := R9.cell 6 rfl
              have xx7 : w8.cell? ⟨w.heap.size + 1 + 1, 7, none⟩ = some (.int .i64 wa) := R9.cell 7 rfl
              have xx8 : w8.cell? ⟨w.heap.size + 1 + 1, 8, none⟩ = some (.string inn) := R9.cell 8 rfl
              have xx9 : w8.cell? ⟨w.heap.size + 1 + 1, 9, none⟩ = some (.string out) := R9.cell 9 rfl
              have xx10 : w8.cell? ⟨w.heap.size + 1 + 1, 10, none⟩ = some (.bool fin) := R9.cell 10 rfl
              (try simp only [Exit.inBlock, Exit.then])
              refine bodyPost_ret (v := .tuple #[.agg #[.string mc, .int .i64 ip, .int .i64 po, .int .i64 di, .int .i64 st, .int .i64 un, .int .i64 nx, .int .i64 wa, .string inn, .string out, .bool fin], .slice (some ⟨w6.heap.size, 0, none⟩) 1 1]) (by simp [results, Try.results85, go_sem, xx0, xx1, xx2, xx3, xx4, xx5, xx6, xx7, xx8, xx9, xx10]; try rfl) rfl ?_
              exact ⟨_, rfl, O9.out.1, O9.out.2⟩
            exact AllReadyH.nil
          refine AllReadyH.cons rfl (fun K hK => ?_) ?_
          · skip
            refine wpr_put rfl _ _ rfl (w.heap.size + 1 + 1) _ rfl rfl R6.out rfl rfl rfl ?_
            intro w8 hw8 R8
            have hz8 : w.heap.size ≤ w8.heap.size := by
              have := World.block_lt_of_cell? w8 _ (R8.cell 0 rfl)
              dsimp only at this
              omega
            have F8 : Hid (XQ (w.heap.size) [.string mc, .int .i64 ip, .int .i64 po, .int .i64 di, .int .i64 st, .int .i64 un, .int .i64 nx, .int .i64 wa, .string inn, .string out, .bool fin] w w8 ∧ XQ (w.heap.size) [.string mc, .int .i64 ip, .int .i64 po, .int .i64 di, .int .i64 st, .int .i64 un, .int .i64 nx, .int .i64 wa, .string inn, .string out, .bool fin] w (w8.alloc (.cells #[.int .i64 80, .int .i64 po, .int .i64 nx, .int .i64 wa, .int .i64 16, .int .i64 1000, .string ⟨#[]⟩] 27))) := by
              have h : XQ (w.heap.size) [.string mc, .int .i64 ip, .int .i64 po, .int .i64 di, .int .i64 st, .int .i64 un, .int .i64 nx, .int .i64 wa, .string inn, .string out, .bool fin] w w8 := by rw [hw8]; exact L6.out.cells (by omega) (by omega)
              exact ⟨h, h.below ((Below.refl _ _).alloc (Nat.le_refl _) _)⟩
            clear hw8
            refine hK.out _ _ ?_ (fun hH6007 => ?_)
            · (try dsimp only)
              first | (with_reducible exact L6.out) | (with_reducible exact LA.out) | (with_reducible exact F8.out.1) | (with_reducible exact F8.out.2)
            clear hK K hH6003
            refine wpAnyH_ready (rs := [3]) (by kernel_rfl) (by simp) ?_
            refine AllReadyH.cons rfl (fun K hK => ?_) ?_
            · go_simp
              refine hK.out _ _ ?_ (fun hH6008 => ?_)
              · (try dsimp only)
                first | (with_reducible exact L6.out) | (with_reducible exact LA.out) | (with_reducible exact F8.out.1) | (with_reducible exact F8.out.2)
              clear hK K hH6007
              refine wpAnyH_take (i := 5) (v := ?v6009) rfl (by kernel_rfl) (by kernel_rfl) (by kernel_rfl) (fun _ _ _ h => h) (Or.inl ⟨by rfl, ?hy6009⟩) (by assumption) ?rest6009
              case hy6009 => (intro w hSw; (try dsimp only at hSw); go_simp; (try with_reducible rfl))
              refine wpAnyH_done (by kernel_rfl) ?_ _
              have O9 : Hid (OwnS sgG 7 27 (w8.alloc (.cells #[.int .i64 80, .int .i64 po, .int .i64 nx, .int .i64 wa, .int .i64 16, .int .i64 1000, .string ⟨#[]⟩] 27)) w.heap.size (.slice (some ⟨w8.heap.size, 0, none⟩) 1 1) [⟨80, po, nx, wa, 16, 1000, ⟨#[]⟩⟩] ∧ Below w.heap.size w (w8.alloc (.cells #[.int .i64 80, .int .i64 po, .int .i64 nx, .int .i64 wa, .int .i64 16, .int .i64 1000, .string ⟨#[]⟩] 27))) := ⟨own1 w8 _ 80 po nx wa 16 1000 ⟨#[]⟩ hz8, F8.out.2.out⟩
              have R9 := R8.below ((Below.refl _ _).alloc (Nat.le_refl _) (.cells #[.int .i64 80, .int .i64 po, .int .i64 nx, .int .i64 wa, .int .i64 16, .int .i64 1000, .string ⟨#[]⟩] 27))
              clear hH6008
              generalize (w8.alloc (.cells #[.int .i64 80, .int .i64 po, .int .i64 nx, .int .i64 wa, .int .i64 16, .int .i64 1000, .string ⟨#[]⟩] 27)) = w9 at O9 R9 ⊢
              go_wp2
              have xx0 : w9.cell? ⟨w.heap.size + 1 + 1, 0, none⟩ = some (.string mc) := R9.cell 0 rfl
              have xx1 : w9.cell? ⟨w.heap.size + 1 + 1, 1, none⟩ = some (.int .i64 ip) := R9.cell 1 rfl
              have xx2 : w9.cell? ⟨w.heap.size + 1 + 1, 2, none⟩ = some (.int .i64 po) := R9.cell 2 rfl
              have xx3 : w9.cell? ⟨w.heap.size + 1 + 1, 3, none⟩ = some (.int .i64 di) := R9.cell 3 rfl
              have xx4 : w9.cell? ⟨w.heap.size + 1 + 1, 4, none⟩ = some (.int .i64 st) := R9.cell 4 rfl
              have xx5 : w9.cell? ⟨w.heap.size + 1 + 1, 5, none⟩ = some (.int .i64 un) := R9.cell 5 rfl
              have xx6 : w9.cell? ⟨w.heap.size + 1 + 1, 6, none⟩ = some (.int .i64 nx) := R9.cell 6 rfl
              have xx7 : w9.cell? ⟨w.heap.size + 1 + 1, 7, none⟩ = some (.int .i64 wa) := R9.cell 7 rfl
              have xx8 : w9.cell? ⟨w.heap.size + 1 + 1, 8, none⟩ = some (.string inn) := R9.cell 8 rfl
              have xx9 : w9.cell? ⟨w.heap.size + 1 + 1, 9, none⟩ = some (.string out) := R9.cell 9 rfl
              have xx10 : w9.cell? ⟨w.heap.size + 1 + 1, 10, none⟩ = some (.bool fin) := R9.cell 10 rfl
              (try simp only [Exit.inBlock, Exit.then])
              refine bodyPost_ret (v := .tuple #[.agg #[.string mc, .int .i64 ip, .int .i64 po, .int .i64 di, .int .i64 st, .int .i64 un, .int .i64 nx, .int .i64 wa, .string inn, .string out, .bool fin], .slice (some ⟨w8.heap.size, 0, none⟩) 1 1]) (by simp [results, Try.results85, go_sem, xx0, xx1, xx2, xx3, xx4, xx5, xx6, xx7, xx8, xx9, xx10]; try rfl) rfl ?_
              exact ⟨_, rfl, O9.out.1, O9.out.2⟩
            exact AllReadyH.nil
          exact AllReadyH.nil
        exact AllReadyH.nil
      · have q1 : (sq == wa) = false := by simp [hs]
        clear hp hs
        have C0 : Bx (((w.alloc (.cells #[.string mc, .int .i64 ip, .int .i64 po, .int .i64 di, .int .i64 st, .int .i64 un, .int .i64 nx, .int .i64 wa, .string inn, .string out, .bool fin] 24)).alloc (.cells #[.int .i64 sp, .int .i64 dp, .int .i64 sq, .int .i64 ac, .int .i64 fl, .int .i64 wi, .string da] 27)).alloc (.cells #[.string ⟨#[]⟩, .int .i64 0, .int .i64 0, .int .i64 0, .int .i64 0, .int .i64 0, .int .i64 0, .int .i64 0, .string ⟨#[]⟩, .string ⟨#[]⟩, .bool false] 24)) w.heap.size [.string mc, .int .i64 ip, .int .i64 po, .int .i64 di, .int .i64 st, .int .i64 un, .int .i64 nx, .int .i64 wa, .string inn, .string out, .bool fin] := ((Bx.new w _ _).below ((Below.refl _ _).alloc (Nat.le_refl _) _)).below ((Below.refl _ _).alloc (Nat.le_refl _) _)
        have G0 : Bx (((w.alloc (.cells #[.string mc, .int .i64 ip, .int .i64 po, .int .i64 di, .int .i64 st, .int .i64 un, .int .i64 nx, .int .i64 wa, .string inn, .string out, .bool fin] 24)).alloc (.cells #[.int .i64 sp, .int .i64 dp, .int .i64 sq, .int .i64 ac, .int .i64 fl, .int .i64 wi, .string da] 27)).alloc (.cells #[.string ⟨#[]⟩, .int .i64 0, .int .i64 0, .int .i64 0, .int .i64 0, .int .i64 0, .int .i64 0, .int .i64 0, .string ⟨#[]⟩, .string ⟨#[]⟩, .bool false] 24)) (w.heap.size + 1) [.int .i64 sp, .int .i64 dp, .int .i64 sq, .int .i64 ac, .int .i64 fl, .int .i64 wi, .string da] := by
          have h := (Bx.new (w.alloc (.cells #[.string mc, .int .i64 ip, .int .i64 po, .int .i64 di, .int .i64 st, .int .i64 un, .int .i64 nx, .int .i64 wa, .string inn, .string out, .bool fin] 24)) #[.int .i64 sp, .int .i64 dp, .int .i64 sq, .int .i64 ac, .int .i64 fl, .int .i64 wi, .string da] 27).below ((Below.refl _ _).alloc (Nat.le_refl _) (.cells #[.string ⟨#[]⟩, .int .i64 0, .int .i64 0, .int .i64 0, .int .i64 0, .int .i64 0, .int .i64 0, .int .i64 0, .string ⟨#[]⟩, .string ⟨#[]⟩, .bool false] 24))
          rw [World.size_alloc] at h
          exact h
        have R0 : Bx (((w.alloc (.cells #[.string mc, .int .i64 ip, .int .i64 po, .int .i64 di, .int .i64 st, .int .i64 un, .int .i64 nx, .int .i64 wa, .string inn, .string out, .bool fin] 24)).alloc (.cells #[.int .i64 sp, .int .i64 dp, .int .i64 sq, .int .i64 ac, .int .i64 fl, .int .i64 wi, .string da] 27)).alloc (.cells #[.string ⟨#[]⟩, .int .i64 0, .int .i64 0, .int .i64 0, .int .i64 0, .int .i64 0, .int .i64 0, .int .i64 0, .string ⟨#[]⟩, .string ⟨#[]⟩, .bool false] 24)) (w.heap.size + 1 + 1) [.string ⟨#[]⟩, .int .i64 0, .int .i64 0, .int .i64 0, .int .i64 0, .int .i64 0, .int .i64 0, .int .i64 0, .string ⟨#[]⟩, .string ⟨#[]⟩, .bool false] := by
          have h := Bx.new ((w.alloc (.cells #[.string mc, .int .i64 ip, .int .i64 po, .int .i64 di, .int .i64 st, .int .i64 un, .int .i64 nx, .int .i64 wa, .string inn, .string out, .bool fin] 24)).alloc (.cells #[.int .i64 sp, .int .i64 dp, .int .i64 sq, .int .i64 ac, .int .i64 fl, .int .i64 wi, .string da] 27)) #[.string ⟨#[]⟩, .int .i64 0, .int .i64 0, .int .i64 0, .int .i64 0, .int .i64 0, .int .i64 0, .int .i64 0, .string ⟨#[]⟩, .string ⟨#[]⟩, .bool false] 24
          rw [World.size_alloc, World.size_alloc] at h
          exact h
        have B0 : Hid (Below w.heap.size w (((w.alloc (.cells #[.string mc, .int .i64 ip, .int .i64 po, .int .i64 di, .int .i64 st, .int .i64 un, .int .i64 nx, .int .i64 wa, .string inn, .string out, .bool fin] 24)).alloc (.cells #[.int .i64 sp, .int .i64 dp, .int .i64 sq, .int .i64 ac, .int .i64 fl, .int .i64 wi, .string da] 27)).alloc (.cells #[.string ⟨#[]⟩, .int .i64 0, .int .i64 0, .int .i64 0, .int .i64 0, .int .i64 0, .int .i64 0, .int .i64 0, .string ⟨#[]⟩, .string ⟨#[]⟩, .bool false] 24))) := ((((Below.refl _ _).alloc (Nat.le_refl _) _).alloc (by simp) _).alloc (by simp; omega) _)
        go_enter Try.func85, Try.ntmps85
        have TA : Hid (∀ w, Calls Try.prog 87 #[.agg #[.string mc, .int .i64 ip, .int .i64 po, .int .i64 di, .int .i64 st, .int .i64 un, .int .i64 nx, .int .i64 wa, .string inn, .string out, .bool fin]] w fun e w' => e = .returned (.agg #[.int .i64 80, .int .i64 po, .int .i64 nx, .int .i64 wa, .int .i64 16, .int .i64 1000, .string ⟨#[]⟩]) ∧ Grw w w') := fun w => acking_any mc ip po di st un nx wa inn out fin w
        go_wp2_with fail
        have C5 := C0
        have R5 := R0
        have B5 := B0
        clear C0 R0 G0 B0
        generalize (((w.alloc (.cells #[.string mc, .int .i64 ip, .int .i64 po, .int .i64 di, .int .i64 st, .int .i64 un, .int .i64 nx, .int .i64 wa, .string inn, .string out, .bool fin] 24)).alloc (.cells #[.int .i64 sp, .int .i64 dp, .int .i64 sq, .int .i64 ac, .int .i64 fl, .int .i64 wi, .string da] 27)).alloc (.cells #[.string ⟨#[]⟩, .int .i64 0, .int .i64 0, .int .i64 0, .int .i64 0, .int .i64 0, .int .i64 0, .int .i64 0, .string ⟨#[]⟩, .string ⟨#[]⟩, .bool false] 24)) = w5 at C5 R5 B5 ⊢
        have hs5 : w.heap.size + 3 ≤ w5.heap.size := by
          have := World.block_lt_of_cell? w5 _ (R5.cell 0 rfl)
          dsimp only at this
          omega
        have SS : Hid (XQ (w.heap.size) [.string mc, .int .i64 ip, .int .i64 po, .int .i64 di, .int .i64 st, .int .i64 un, .int .i64 nx, .int .i64 wa, .string inn, .string out, .bool fin] w w5.drew) := ⟨C5.below ((Below.refl _ _).drew), B5.out.drew⟩
        have RS : Hid (Bx w5.drew (w.heap.size + 1 + 1) [.string ⟨#[]⟩, .int .i64 0, .int .i64 0, .int .i64 0, .int .i64 0, .int .i64 0, .int .i64 0, .int .i64 0, .string ⟨#[]⟩, .string ⟨#[]⟩, .bool false]) := R5.below ((Below.refl _ _).drew)
        clear C5 R5 B5
        refine wp_region_held_drew (S := (fun wx => XQ (w.heap.size) [.string mc, .int .i64 ip, .int .i64 po, .int .i64 di, .int .i64 st, .int .i64 un, .int .i64 nx, .int .i64 wa, .string inn, .string out, .bool fin] w wx)) (by kernel_rfl) ?_ (fun hH0 => ?_)
        · with_reducible exact SS.out
        refine wpAnyH_take (i := 0) (v := .agg #[.string mc, .int .i64 ip, .int .i64 po, .int .i64 di, .int .i64 st, .int .i64 un, .int .i64 nx, .int .i64 wa, .string inn, .string out, .bool fin]) rfl (by kernel_rfl) (by kernel_rfl) (by kernel_rfl) (fun _ _ _ h => h) (yieldsIf_load_mid (by rfl) 24 _ rfl (w.heap.size) 0 rfl [.string mc, .int .i64 ip, .int .i64 po, .int .i64 di, .int .i64 st, .int .i64 un, .int .i64 nx, .int .i64 wa, .string inn, .string out, .bool fin] _ (fun _ h => h.c.cl) Try.underlying24 rfl rfl) (by assumption) ?rest7001
        refine wpAnyH_take (i := 1) (v := .agg #[.string mc, .int .i64 ip, .int .i64 po, .int .i64 di, .int .i64 st, .int .i64 un, .int .i64 nx, .int .i64 wa, .string inn, .string out, .bool fin]) rfl (by kernel_rfl) (by kernel_rfl) (by kernel_rfl) (fun _ _ _ h => h) (yieldsIf_load_mid (by rfl) 24 _ rfl (w.heap.size) 0 rfl [.string mc, .int .i64 ip, .int .i64 po, .int .i64 di, .int .i64 st, .int .i64 un, .int .i64 nx, .int .i64 wa, .string inn, .string out, .bool fin] _ (fun _ h => h.c.cl) Try.underlying24 rfl rfl) (by assumption) ?rest7002
        refine wpAnyH_ready (rs := [2]) (by kernel_rfl) (by simp) ?_
        refine AllReadyH.cons rfl (fun K hK => ?_) ?_
        · go_simp
          go_at_call 87
          with_reducible refine (TA.out _).mono ?_
          rintro e w6 ⟨rfl, g6⟩
          have hs6 : w.heap.size + 3 ≤ w6.heap.size := Nat.le_trans (by simpa using hs5) g6.below.size
          have L6 : Hid (XQ (w.heap.size) [.string mc, .int .i64 ip, .int .i64 po, .int .i64 di, .int .i64 st, .int .i64 un, .int .i64 nx, .int .i64 wa, .string inn, .string out, .bool fin] w w6) := SS.out.below g6.below
          have R6 : Hid (Bx w6 (w.heap.size + 1 + 1) [.string ⟨#[]⟩, .int .i64 0, .int .i64 0, .int .i64 0, .int .i64 0, .int .i64 0, .int .i64 0, .int .i64 0, .string ⟨#[]⟩, .string ⟨#[]⟩, .bool false]) := RS.out.below g6.below
          have LA : Hid (XQ (w.heap.size) [.string mc, .int .i64 ip, .int .i64 po, .int .i64 di, .int .i64 st, .int .i64 un, .int .i64 nx, .int .i64 wa, .string inn, .string out, .bool fin] w (w6.alloc (.cells #[.int .i64 80, .int .i64 po, .int .i64 nx, .int .i64 wa, .int .i64 16, .int .i64 1000, .string ⟨#[]⟩] 27))) := L6.out.below ((Below.refl _ _).alloc (Nat.le_refl _) _)
          clear g6 SS RS
          refine hK.out _ _ ?_ (fun hH7003 => ?_)
          · (try dsimp only)
            first | (with_reducible exact L6.out) | (with_reducible exact LA.out) | (with_reducible exact F8.out.1) | (with_reducible exact F8.out.2)
          clear hK K hH0
          refine wpAnyH_ready (rs := [3, 4]) (by kernel_rfl) (by simp) ?_
          refine AllReadyH.cons rfl (fun K hK => ?_) ?_
          · go_simp
            refine hK.out _ _ ?_ (fun hH7004 => ?_)
            · (try dsimp only)
              first | (with_reducible exact L6.out) | (with_reducible exact LA.out) | (with_reducible exact F8.out.1) | (with_reducible exact F8.out.2)
            clear hK K hH7003
            refine wpAnyH_ready (rs := [4]) (by kernel_rfl) (by simp) ?_
            refine AllReadyH.cons rfl (fun K hK => ?_) ?_
            · skip
              refine wpr_put rfl _ _ rfl (w.heap.size + 1 + 1) _ rfl rfl (R6.out.below ((Below.refl _ _).alloc (Nat.le_refl _) (.cells #[.int .i64 80, .int .i64 po, .int .i64 nx, .int .i64 wa, .int .i64 16, .int .i64 1000, .string ⟨#[]⟩] 27))) rfl rfl rfl ?_
              intro w8 hw8 R8
              have F8 : Hid (XQ (w.heap.size) [.string mc, .int .i64 ip, .int .i64 po, .int .i64 di, .int .i64 st, .int .i64 un, .int .i64 nx, .int .i64 wa, .string inn, .string out, .bool fin] w w8 ∧ OwnS sgG 7 27 w8 w.heap.size (.slice (some ⟨w6.heap.size, 0, none⟩) 1 1) [⟨80, po, nx, wa, 16, 1000, ⟨#[]⟩⟩]) := by
                rw [hw8]
                exact ⟨LA.out.cells (by omega) (by omega), (own_cells (by omega) _ _ _ (own1 w6 (w.heap.size + 3) 80 po nx wa 16 1000 ⟨#[]⟩ hs6)).lower (by omega)⟩
              clear hw8
              refine hK.out _ _ ?_ (fun hH7005 => ?_)
              · (try dsimp only)
                first | (with_reducible exact L6.out) | (with_reducible exact LA.out) | (with_reducible exact F8.out.1) | (with_reducible exact F8.out.2)
              clear hK K hH7004
              refine wpAnyH_take (i := 5) (v := ?v7006) rfl (by kernel_rfl) (by kernel_rfl) (by kernel_rfl) (fun _ _ _ h => h) (Or.inl ⟨by rfl, ?hy7006⟩) (by assumption) ?rest7006
              case hy7006 => (intro w hSw; (try dsimp only at hSw); go_simp; (try with_reducible rfl))
              refine wpAnyH_done (by kernel_rfl) ?_ _
              have O9 : Hid (OwnS sgG 7 27 w8 w.heap.size (.slice (some ⟨w6.heap.size, 0, none⟩) 1 1) [⟨80, po, nx, wa, 16, 1000, ⟨#[]⟩⟩] ∧ Below w.heap.size w w8) := ⟨F8.out.2, F8.out.1.out⟩
              have R9 := R8
              clear hH7005
              go_wp2
              have xx0 : w8.cell? ⟨w.heap.size + 1 + 1, 0, none⟩ = some (.string mc) := R9.cell 0 rfl
              have xx1 : w8.cell? ⟨w.heap.size + 1 + 1, 1, none⟩ = some (.int .i64 ip) := R9.cell 1 rfl
              have xx2 : w8.cell? ⟨w.heap.size + 1 + 1, 2, none⟩ = some (.int .i64 po) := R9.cell 2 rfl
              have xx3 : w8.cell? ⟨w.heap.size + 1 + 1, 3, none⟩ = some (.int .i64 di) := R9.cell 3 rfl
              have xx4 : w8.cell? ⟨w.heap.size + 1 + 1, 4, none⟩ = some (.int .i64 st) := R9.cell 4 rfl
              have xx5 : w8.cell? ⟨w.heap.size + 1 + 1, 5, none⟩ = some (.int .i64 un) := R9.cell 5 rfl
              have xx6 : w8.cell? ⟨w.heap.size + 1 + 1, 6, none⟩ = some (.int .i64 nx) := R9.cell 6 rfl
              have xx7 : w8.cell? ⟨w.heap.size + 1 + 1, 7, none⟩ = some (.int .i64 wa) := R9.cell 7 rfl
              have xx8 : w8.cell? ⟨w.heap.size + 1 + 1, 8, none⟩ = some (.string inn) := R9.cell 8 rfl
              have xx9 : w8.cell? ⟨w.heap.size + 1 + 1, 9, none⟩ = some (.string out) := R9.cell 9 rfl
              have xx10 : w8.cell? ⟨w.heap.size + 1 + 1, 10, none⟩ = some (.bool fin) := R9.cell 10 rfl
              (try simp only [Exit.inBlock, Exit.then])
              refine bodyPost_ret (v := .tuple #[.agg #[.string mc, .int .i64 ip, .int .i64 po, .int .i64 di, .int .i64 st, .int .i64 un, .int .i64 nx, .int .i64 wa, .string inn, .string out, .bool fin], .slice (some ⟨w6.heap.size, 0, none⟩) 1 1]) (by simp [results, Try.results85, go_sem, xx0, xx1, xx2, xx3, xx4, xx5, xx6, xx7, xx8, xx9, xx10]; try rfl) rfl ?_
              exact ⟨_, rfl, O9.out.1, O9.out.2⟩
            exact AllReadyH.nil
          refine AllReadyH.cons rfl (fun K hK => ?_) ?_
          · skip
            refine wpr_put rfl _ _ rfl (w.heap.size + 1 + 1) _ rfl rfl R6.out rfl rfl rfl ?_
            intro w8 hw8 R8
            have hz8 : w.heap.size ≤ w8.heap.size := by
              have := World.block_lt_of_cell? w8 _ (R8.cell 0 rfl)
              dsimp only at this
              omega
            have F8 : Hid (XQ (w.heap.size) [.string mc, .int .i64 ip, .int .i64 po, .int .i64 di, .int .i64 st, .int .i64 un, .int .i64 nx, .int .i64 wa, .string inn, .string out, .bool fin] w w8 ∧ XQ (w.heap.size) [.string mc, .int .i64 ip, .int .i64 po, .int .i64 di, .int .i64 st, .int .i64 un, .int .i64 nx, .int .i64 wa, .string inn, .string out, .bool fin] w (w8.alloc (.cells #[.int .i64 80, .int .i64 po, .int .i64 nx, .int .i64 wa, .int .i64 16, .int .i64 1000, .string ⟨#[]⟩] 27))) := by
              have h : XQ (w.heap.size) [.string mc, .int .i64 ip, .int .i64 po, .int .i64 di, .int .i64 st, .int .i64 un, .int .i64 nx, .int .i64 wa, .string inn, .string out, .bool fin] w w8 := by rw [hw8]; exact L6.out.cells (by omega) (by omega)
              exact ⟨h, h.below ((Below.refl _ _).alloc (Nat.le_refl _) _)⟩
            clear hw8
            refine hK.out _ _ ?_ (fun hH7007 => ?_)
            · (try dsimp only)
              first | (with_reducible exact L6.out) | (with_reducible exact LA.out) | (with_reducible exact F8.out.1) | (with_reducible exact F8.out.2)
            clear hK K hH7003
            refine wpAnyH_ready (rs := [3]) (by kernel_rfl) (by simp) ?_
            refine AllReadyH.cons rfl (fun K hK => ?_) ?_
            · go_simp
              refine hK.out _ _ ?_ (fun hH7008 => ?_)
              · (try dsimp only)
                first | (with_reducible exact L6.out) | (with_reducible exact LA.out) | (with_reducible exact F8.out.1) | (with_reducible exact F8.out.2)
              clear hK K hH7007
              refine wpAnyH_take (i := 5) (v := ?v7009) rfl (by kernel_rfl) (by kernel_rfl) (by kernel_rfl) (fun _ _ _ h => h) (Or.inl ⟨by rfl, ?hy7009⟩) (by assumption) ?rest7009
              case hy7009 => (intro w hSw; (try dsimp only at hSw); go_simp; (try with_reducible rfl))
              refine wpAnyH_done (by kernel_rfl) ?_ _
              have O9 : Hid (OwnS sgG 7 27 (w8.alloc (.cells #[.int .i64 80, .int .i64 po, .int .i64 nx, .int .i64 wa, .int .i64 16, .int .i64 1000, .string ⟨#[]⟩] 27)) w.heap.size (.slice (some ⟨w8.heap.size, 0, none⟩) 1 1) [⟨80, po, nx, wa, 16, 1000, ⟨#[]⟩⟩] ∧ Below w.heap.size w (w8.alloc (.cells #[.int .i64 80, .int .i64 po, .int .i64 nx, .int .i64 wa, .int .i64 16, .int .i64 1000, .string ⟨#[]⟩] 27))) := ⟨own1 w8 _ 80 po nx wa 16 1000 ⟨#[]⟩ hz8, F8.out.2.out⟩
              have R9 := R8.below ((Below.refl _ _).alloc (Nat.le_refl _) (.cells #[.int .i64 80, .int .i64 po, .int .i64 nx, .int .i64 wa, .int .i64 16, .int .i64 1000, .string ⟨#[]⟩] 27))
              clear hH7008
              generalize (w8.alloc (.cells #[.int .i64 80, .int .i64 po, .int .i64 nx, .int .i64 wa, .int .i64 16, .int .i64 1000, .string ⟨#[]⟩] 27)) = w9 at O9 R9 ⊢
              go_wp2
              have xx0 : w9.cell? ⟨w.heap.size + 1 + 1, 0, none⟩ = some (.string mc) := R9.cell 0 rfl
              have xx1 : w9.cell? ⟨w.heap.size + 1 + 1, 1, none⟩ = some (.int .i64 ip) := R9.cell 1 rfl
              have xx2 : w9.cell? ⟨w.heap.size + 1 + 1, 2, none⟩ = some (.int .i64 po) := R9.cell 2 rfl
              have xx3 : w9.cell? ⟨w.heap.size + 1 + 1, 3, none⟩ = some (.int .i64 di) := R9.cell 3 rfl
              have xx4 : w9.cell? ⟨w.heap.size + 1 + 1, 4, none⟩ = some (.int .i64 st) := R9.cell 4 rfl
              have xx5 : w9.cell? ⟨w.heap.size + 1 + 1, 5, none⟩ = some (.int .i64 un) := R9.cell 5 rfl
              have xx6 : w9.cell? ⟨w.heap.size + 1 + 1, 6, none⟩ = some (.int .i64 nx) := R9.cell 6 rfl
              have xx7 : w9.cell? ⟨w.heap.size + 1 + 1, 7, none⟩ = some (.int .i64 wa) := R9.cell 7 rfl
              have xx8 : w9.cell? ⟨w.heap.size + 1 + 1, 8, none⟩ = some (.string inn) := R9.cell 8 rfl
              have xx9 : w9.cell? ⟨w.heap.size + 1 + 1, 9, none⟩ = some (.string out) := R9.cell 9 rfl
              have xx10 : w9.cell? ⟨w.heap.size + 1 + 1, 10, none⟩ = some (.bool fin) := R9.cell 10 rfl
              (try simp only [Exit.inBlock, Exit.then])
              refine bodyPost_ret (v := .tuple #[.agg #[.string mc, .int .i64 ip, .int .i64 po, .int .i64 di, .int .i64 st, .int .i64 un, .int .i64 nx, .int .i64 wa, .string inn, .string out, .bool fin], .slice (some ⟨w8.heap.size, 0, none⟩) 1 1]) (by simp [results, Try.results85, go_sem, xx0, xx1, xx2, xx3, xx4, xx5, xx6, xx7, xx8, xx9, xx10]; try rfl) rfl ?_
              exact ⟨_, rfl, O9.out.1, O9.out.2⟩
            exact AllReadyH.nil
          exact AllReadyH.nil
        exact AllReadyH.nil
end Go.Proofs.Ytfgghffgfefgpaa
