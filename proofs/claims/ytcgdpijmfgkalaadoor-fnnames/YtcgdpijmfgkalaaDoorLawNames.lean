/- The walk of laws.FnNames: what is told of an address, a mac, a number is read back. -/
import Derived.Test.YtcgdpijmfgkalaaDoorDraw
import Derived.Test.YtcgdpijmfgkalaaDoorNamesFacts
namespace Go.Proofs.YtcgdpijmfgkalaaDoor
open Go.RowKit Go.PlainAid
set_option linter.unusedVariables false
set_option maxRecDepth 20000

theorem below_drewN {B : Nat} {a b : World} (h : Below B a b) (n : Nat) : Below B a (b.drewN n) := ⟨h.os, h.tape, h.output, h.size, h.block⟩
theorem lawNames_long (w : World) (a : Option Addr) (len cap : Nat) (a' : Option Addr) (len' cap' : Nat) (h : 1048576 < len ∨ 1048576 < len') :
    Calls Tryd.prog 3 #[.slice a len cap, .slice a' len' cap'] w fun e w' => e = .returned (.bool true) ∧ Below w.heap.size w w' := by
  by_cases h1 : 1048576 < len
  · have t1 : decide ((1048576 : Int) < (len : Int)) = true := by simp; omega
    go_enter Tryd.func3, Tryd.ntmps3
    go_wp2
    go_ret
    exact ⟨rfl, Below.refl _ _⟩
  · have t1 : decide ((1048576 : Int) < (len : Int)) = false := by simp; omega
    have t2 : decide ((1048576 : Int) < (len' : Int)) = true := by simp; omega
    go_enter Tryd.func3, Tryd.ntmps3
    go_wp2
    go_ret
    exact ⟨rfl, Below.refl _ _⟩

set_option maxHeartbeats 4000000 in
theorem lawNames_walk (w : World) (a : Option Addr) (len cap : Nat) (f : Nat → Int) (a' : Option Addr) (len' cap' : Nat) (f' : Nat → Int) (mx : Int)
    (h : Bytes w a len f) (hlt : ∀ b off, 0 < len → a = some ⟨b, off, none⟩ → b < w.heap.size) (hl : len ≤ 1048576)
    (h' : Bytes w a' len' f') (hlt' : ∀ b off, 0 < len' → a' = some ⟨b, off, none⟩ → b < w.heap.size) (hl' : len' ≤ 1048576)
    (ht : Tens w.heap.size w) (hm : w.cell? ⟨1, 0, none⟩ = some (.int .i64 mx)) :
    Calls Tryd.prog 3 #[.slice a len cap, .slice a' len' cap'] w fun e w' => e = .returned (.bool true) ∧ Below w.heap.size w w' := by
  have A1 : Hid (Bytes w a len f ∧ ∀ b off, 0 < len → a = some ⟨b, off, none⟩ → b < w.heap.size) := ⟨h, hlt⟩
  have A2 : Hid (∀ w1, Below w.heap.size w w1 → Bytes w1 a' len' f' ∧ ∀ b off, 0 < len' → a' = some ⟨b, off, none⟩ → b < w1.heap.size) := fun w1 hb => ⟨h'.below hb hlt', fun b off h0 e => Nat.lt_of_lt_of_le (hlt' b off h0 e) hb.size⟩
  have AT : Hid (∀ w1, Below w.heap.size w w1 → Tens w1.heap.size w1) := fun w1 hb => ht.now hb
  have AM : Hid (∀ w1, Below w.heap.size w w1 → w1.cell? ⟨1, 0, none⟩ = some (.int .i64 mx)) := fun w1 hb => by rw [hb.cell (p := ⟨1, 0, none⟩) (World.block_lt_of_cell? _ _ hm)]; exact hm
  clear h hlt h' hlt' ht hm
  have t1 : decide ((1048576 : Int) < (len : Int)) = false := by simp; omega
  have t2 : decide ((1048576 : Int) < (len' : Int)) = false := by simp; omega
  go_enter Tryd.func3, Tryd.ntmps3
  go_wp2_with fail
  refine (WanOf_any w a len cap f A1.out.1 hl A1.out.2).mono ?_
  rintro e w1 ⟨ip, rfl, hip, b1⟩
  have B1 : Hid (Below w.heap.size w w1) := b1
  have FI : Hid (IpText ip (strOfNums (adl ip 4))) := ip_facts ip hip
  have i0 : 0 ≤ ip := by omega
  have i1 : ip ≤ 4294967295 := by omega
  have H1 := addressText_yes ip w1 i0 i1 (AT.out w1 b1)
  have H2 := fun w => specAddressText_yes ip w i0 i1
  obtain ⟨T, hT⟩ : ∃ T, T = strOfNums (adl ip 4) := ⟨_, rfl⟩
  rw [← hT] at H1 H2 FI
  have H1' : Hid (Calls Tryd.prog 6 #[.int .i64 ip] w1 fun e w' => e = .returned (.tuple #[.string T, .int .i64 0]) ∧ Below w1.heap.size w1 w') := H1
  have H2' : Hid (∀ w, Calls Tryd.prog 7 #[.int .i64 ip] w fun e w' => e = .returned (.tuple #[.string T, .int .i64 0]) ∧ Below w.heap.size w w') := H2
  have hTs := FI.out.1
  clear H1 H2 hip b1 hT
  go_wp2_with fail
  refine H1'.out.mono ?_
  rintro e w2 ⟨rfl, b2⟩
  have B2 : Hid (Below w.heap.size w w2) := B1.out.trans (b2.mono B1.out.size)
  clear b2 H1'
  go_wp2_with fail
  refine (H2'.out w2).mono ?_
  rintro e w3 ⟨rfl, b3⟩
  have B3 : Hid (Below w.heap.size w w3) := B2.out.trans (b3.mono B2.out.size)
  clear b3 H2'
  have H4 : Hid (Calls Tryd.prog 8 #[.string T] w3 fun e w' => e = .returned (.tuple #[.int .i64 ip, .int .i64 0]) ∧ Below w3.heap.size w3 w') := by
    have := implReadAddress_any T mx w3 (AM.out w3 B3.out) (by omega)
    rw [FI.out.2.1, FI.out.2.2.1] at this
    exact this
  go_wp2_with fail
  refine H4.out.mono ?_
  rintro e w4 ⟨rfl, b4⟩
  have B4 : Hid (Below w.heap.size w w4) := B3.out.trans (b4.mono B3.out.size)
  clear b4 H4
  go_wp2_with fail
  refine (MacOf_any w4 a' len' cap' f' (A2.out w4 B4.out).1 hl' (A2.out w4 B4.out).2).mono ?_
  rintro e w5 ⟨x, rfl, x0, x1, b5⟩
  have B5 : Hid (Below w.heap.size w w5) := B4.out.trans (b5.mono B4.out.size)
  have FM := mac_facts x x0 x1
  generalize (⟨#[2, 0, 0, 0, 0]⟩ ++ strOfNums [x] : ByteArray) = S at FM ⊢
  have H6 := fun w => macText_yes S w FM.1
  have H7 := fun w => specMacText_yes S w FM.1
  have H8 := fun w => readMac_yes (strOfNums (macl (bt S) 6)) w FM.2.1
  rw [FM.2.2.1, FM.2.2.2] at H8
  have hM := FM.2.1
  generalize strOfNums (macl (bt S) 6) = M at H6 H7 H8 hM
  have H6' : Hid (∀ w, Calls Tryd.prog 10 #[.string S] w fun e w' => e = .returned (.tuple #[.string M, .int .i64 0]) ∧ Below w.heap.size w w') := H6
  have H7' : Hid (∀ w, Calls Tryd.prog 11 #[.string S] w fun e w' => e = .returned (.tuple #[.string M, .int .i64 0]) ∧ Below w.heap.size w w') := H7
  have H8' : Hid (∀ w, Calls Tryd.prog 12 #[.string M] w fun e w' => e = .returned (.tuple #[.string S, .int .i64 0]) ∧ Below w.heap.size w w') := H8
  clear b5 FM H6 H7 H8 x0 x1
  go_wp2_with fail
  refine (H6'.out w5).mono ?_
  rintro e w6 ⟨rfl, b6⟩
  have B6 : Hid (Below w.heap.size w w6) := B5.out.trans (b6.mono B5.out.size)
  clear b6 H6'
  go_wp2_with fail
  refine (H7'.out w6).mono ?_
  rintro e w7 ⟨rfl, b7⟩
  have B7 : Hid (Below w.heap.size w w7) := B6.out.trans (b7.mono B6.out.size)
  clear b7 H7'
  go_wp2_with fail
  refine (H8'.out w7).mono ?_
  rintro e w8 ⟨rfl, b8⟩
  have B8 : Hid (Below w.heap.size w w8) := B7.out.trans (b8.mono B7.out.size)
  clear b8 H8'
  go_wp2_with fail
  refine (at_any w8 a' len' cap' f' 0 60000 (A2.out w8 B8.out).1 hl' (by omega) (by omega) (by omega)).mono ?_
  rintro e w9 ⟨n, rfl, n0, n1, kk, rfl⟩
  have B9 : Hid (Below w.heap.size w (w8.drewN kk)) := below_drewN B8.out kk
  generalize w8.drewN kk = w9 at B9 ⊢
  have H10 : Hid (Calls Tryd.prog 14 #[.int .i64 n, .int .i64 3] w9 fun e w' => e = .returned (.tuple #[.slice (some ⟨w9.heap.size, 0, none⟩) 3 3, .int .i64 0]) ∧ Fill w9 w' 3 3 (nb n 3)) := numberBytes_yes n 3 w9 (by omega) (by omega) n0 (by show n < 16777216; omega) (by omega)
  go_wp2_with fail
  refine H10.out.mono ?_
  rintro e w10 ⟨rfl, hfill⟩
  have B10 : Hid (Below w.heap.size w w10) := B9.out.trans (hfill.1.mono B9.out.size)
  have HF : Hid (Bytes w10 (some ⟨w9.heap.size, 0, none⟩) 3 (nb n 3)) := ⟨fun k => nb_bd n 3 k, fun _ => ⟨_, 0, rfl, fun i hi => by rw [Nat.zero_add]; exact hfill.2.2.2.2 i hi⟩⟩
  clear hfill H10
  have H11 : Hid (Calls Tryd.prog 15 #[.slice (some ⟨w9.heap.size, 0, none⟩) 3 3] w10 fun e w' => e = .returned (.tuple #[.int .i64 n, .int .i64 0]) ∧ w' = w10) := by
    have := numberOf_yes (some ⟨w9.heap.size, 0, none⟩) 3 3 (nb n 3) w10 HF.out (by omega) (by omega)
    rw [num_facts n n0 n1] at this
    exact this
  go_wp2_with fail
  refine H11.out.mono ?_
  rintro e w11 ⟨rfl, rfl⟩
  clear H11
  obtain ⟨U, hU⟩ : ∃ U : ByteArray, U = T ++ ⟨#[46, 49]⟩ := ⟨_, rfl⟩
  obtain ⟨V, hV⟩ : ∃ V : ByteArray, V = M ++ ⟨#[48]⟩ := ⟨_, rfl⟩
  have hadd1 : ∀ wx : World, (Op.stringOp .add T ⟨#[46, 49]⟩).run Tryd.prog wx = .ok (.string U) wx := by
    rw [hU]
    exact fun wx => run_string_add_sum (P := Tryd.prog) (w := wx) _ _ (by show T.size + 2 ≤ 9223372036854775807; omega)
  have hadd2 : ∀ wx : World, (Op.stringOp .add M ⟨#[48]⟩).run Tryd.prog wx = .ok (.string V) wx := by
    rw [hV]
    exact fun wx => run_string_add_sum (P := Tryd.prog) (w := wx) _ _ (by show M.size + 1 ≤ 9223372036854775807; omega)
  have sU : U.size ≤ 1048576 := by
    have e : U.size = T.size + 2 := by rw [hU, ByteArray.size_append]; rfl
    omega
  have sV : V.size = 18 := by
    have e : V.size = M.size + 1 := by rw [hV, ByteArray.size_append]; rfl
    omega
  have hc3 : raC U = 3 := by rw [hU]; exact FI.out.2.2.2
  obtain ⟨rr, hrr⟩ : ∃ rr, rr = raN U := ⟨_, rfl⟩
  have H12 : Hid (∀ w1, Below w.heap.size w w1 → Calls Tryd.prog 8 #[.string U] w1 fun e w' => e = .returned (.tuple #[.int .i64 rr, .int .i64 3]) ∧ Below w1.heap.size w1 w') := by
    intro w1 hb
    have := implReadAddress_any U mx w1 (AM.out w1 hb) sU
    rw [hc3, ← hrr] at this
    exact this
  have H13 : Hid (∀ w1, Calls Tryd.prog 12 #[.string V] w1 fun e w' => e = .returned (.tuple #[.string ⟨#[]⟩, .int .i64 3]) ∧ w' = w1) := fun w1 => readMac_no V w1 (by omega) (by omega)
  clear hU hV hc3 hrr sU sV FI
  go_wp2_with fail
  refine (H12.out _ B10.out).mono ?_
  rintro e w12 ⟨rfl, b12⟩
  have B12 : Hid (Below w.heap.size w w12) := B10.out.trans (b12.mono B10.out.size)
  clear b12
  go_wp2_with fail
  refine (H13.out _).mono ?_
  rintro e w13 ⟨rfl, rfl⟩
  have q1 : (T.toList == T.toList) = true := by simp
  have q2 : (M.toList == M.toList) = true := by simp
  have q3 : (S.toList == S.toList) = true := by simp
  have q4 : (ip == ip) = true := by simp
  have q5 : (n == n) = true := by simp
  go_wp2
  go_ret
  exact ⟨rfl, B12.out⟩
end Go.Proofs.YtcgdpijmfgkalaaDoor
