/- The model: the bytes of segments and datagrams as strings. -/
import Derived.Test.YtfcdobicilediaaSpecWire2
namespace Go.Proofs.Ytfcdobicilediaa
open Go.RowKit Go.PlainAid
set_option linter.unusedVariables false
set_option maxRecDepth 20000

set_option maxHeartbeats 8000000 in
theorem l02SegmentBytes_any (src dst : Int) (sp : Int) (dp : Int) (sq : Int) (ak : Int) (fl : Int) (wn : Int) (data : ByteArray) (w : World) (s0 : 0 ≤ src) (s1 : src ≤ 4294967295) (d0 : 0 ≤ dst) (d1 : dst ≤ 4294967295) (a0 : 0 ≤ sp) (a1 : sp ≤ 65535) (b0 : 0 ≤ dp) (b1 : dp ≤ 65535) (c0 : 0 ≤ sq) (c1 : sq ≤ 4294967295) (e0 : 0 ≤ ak) (e1 : ak ≤ 4294967295) (f0 : 0 ≤ fl) (f1 : fl ≤ 31) (n0 : 0 ≤ wn) (n1 : wn ≤ 65535) (hb : data.size ≤ 360) :
    Calls Try.prog 44 #[.int .i64 src, .int .i64 dst, .agg #[.int .i64 sp, .int .i64 dp, .int .i64 sq, .int .i64 ak, .int .i64 fl, .int .i64 wn, .string data]] w fun e w' => (∃ t, e = .returned (.string t) ∧ nums t = segL src dst sp dp sq ak fl wn data) ∧ Below w.heap.size w w' := by
  obtain ⟨N1, hN1⟩ : ∃ s, s = strOf (nb sp 2) 2 := ⟨_, rfl⟩
  have zN1 : N1.size = 2 := by rw [hN1]; exact strOf_size _ _
  have HN1 : Hid (∀ wx : World, Calls Try.prog 75 #[.int .i64 sp, .int .i64 2] wx fun e w' => e = .returned (.string N1) ∧ Below wx.heap.size wx w') := fun wx => by rw [hN1]; exact l01Number_any sp 2 wx (by omega) a0 (by omega)
  have EN1 : Hid (nums N1 = nbl sp 2) := by show _ = _; rw [hN1]; exact nums_nb _ _
  clear hN1
  obtain ⟨N2, hN2⟩ : ∃ s, s = strOf (nb dp 2) 2 := ⟨_, rfl⟩
  have zN2 : N2.size = 2 := by rw [hN2]; exact strOf_size _ _
  have HN2 : Hid (∀ wx : World, Calls Try.prog 75 #[.int .i64 dp, .int .i64 2] wx fun e w' => e = .returned (.string N2) ∧ Below wx.heap.size wx w') := fun wx => by rw [hN2]; exact l01Number_any dp 2 wx (by omega) b0 (by omega)
  have EN2 : Hid (nums N2 = nbl dp 2) := by show _ = _; rw [hN2]; exact nums_nb _ _
  clear hN2
  obtain ⟨N3, hN3⟩ : ∃ s, s = strOf (nb sq 4) 4 := ⟨_, rfl⟩
  have zN3 : N3.size = 4 := by rw [hN3]; exact strOf_size _ _
  have HN3 : Hid (∀ wx : World, Calls Try.prog 75 #[.int .i64 sq, .int .i64 4] wx fun e w' => e = .returned (.string N3) ∧ Below wx.heap.size wx w') := fun wx => by rw [hN3]; exact l01Number_any sq 4 wx (by omega) c0 (by omega)
  have EN3 : Hid (nums N3 = nbl sq 4) := by show _ = _; rw [hN3]; exact nums_nb _ _
  clear hN3
  obtain ⟨N4, hN4⟩ : ∃ s, s = strOf (nb ak 4) 4 := ⟨_, rfl⟩
  have zN4 : N4.size = 4 := by rw [hN4]; exact strOf_size _ _
  have HN4 : Hid (∀ wx : World, Calls Try.prog 75 #[.int .i64 ak, .int .i64 4] wx fun e w' => e = .returned (.string N4) ∧ Below wx.heap.size wx w') := fun wx => by rw [hN4]; exact l01Number_any ak 4 wx (by omega) e0 (by omega)
  have EN4 : Hid (nums N4 = nbl ak 4) := by show _ = _; rw [hN4]; exact nums_nb _ _
  clear hN4
  obtain ⟨N5, hN5⟩ : ∃ s, s = strOf (nb fl 1) 1 := ⟨_, rfl⟩
  have zN5 : N5.size = 1 := by rw [hN5]; exact strOf_size _ _
  have HN5 : Hid (∀ wx : World, Calls Try.prog 75 #[.int .i64 fl, .int .i64 1] wx fun e w' => e = .returned (.string N5) ∧ Below wx.heap.size wx w') := fun wx => by rw [hN5]; exact l01Number_any fl 1 wx (by omega) f0 (by omega)
  have EN5 : Hid (nums N5 = nbl fl 1) := by show _ = _; rw [hN5]; exact nums_nb _ _
  clear hN5
  obtain ⟨N6, hN6⟩ : ∃ s, s = strOf (nb wn 2) 2 := ⟨_, rfl⟩
  have zN6 : N6.size = 2 := by rw [hN6]; exact strOf_size _ _
  have HN6 : Hid (∀ wx : World, Calls Try.prog 75 #[.int .i64 wn, .int .i64 2] wx fun e w' => e = .returned (.string N6) ∧ Below wx.heap.size wx w') := fun wx => by rw [hN6]; exact l01Number_any wn 2 wx (by omega) n0 (by omega)
  have EN6 : Hid (nums N6 = nbl wn 2) := by show _ = _; rw [hN6]; exact nums_nb _ _
  clear hN6
  have c80 : (⟨#[80]⟩ : ByteArray).size = 1 := rfl
  have c0000 : (⟨#[0, 0, 0, 0]⟩ : ByteArray).size = 4 := rfl
  have c00 : (⟨#[0, 0]⟩ : ByteArray).size = 2 := rfl
  have e80 : nums (⟨#[80]⟩ : ByteArray) = [80] := rfl
  have e00 : nums (⟨#[0, 0]⟩ : ByteArray) = [0, 0] := rfl
  have e4 : nums (⟨#[0, 0, 0, 0]⟩ : ByteArray) = [0, 0, 0, 0] := rfl
  have hwr : IntKind.i64.wrap (20 + (data.size : Int)) = 20 + (data.size : Int) := by rw [IntKind.wrap_i64]; omega
  have ha0 : ∀ wx : World, (Op.stringOp .add (N1) N2).run Try.prog wx = .ok (.string (N1 ++ N2)) wx := fun wx => run_string_add_sum (P := Try.prog) (w := wx) _ _ (by (try simp only [ByteArray.size_append]); omega)
  have ha1 : ∀ wx : World, (Op.stringOp .add (N1 ++ N2) N3).run Try.prog wx = .ok (.string (N1 ++ N2 ++ N3)) wx := fun wx => run_string_add_sum (P := Try.prog) (w := wx) _ _ (by (try simp only [ByteArray.size_append]); omega)
  have ha2 : ∀ wx : World, (Op.stringOp .add (N1 ++ N2 ++ N3) N4).run Try.prog wx = .ok (.string (N1 ++ N2 ++ N3 ++ N4)) wx := fun wx => run_string_add_sum (P := Try.prog) (w := wx) _ _ (by (try simp only [ByteArray.size_append]); omega)
  have ha3 : ∀ wx : World, (Op.stringOp .add (N1 ++ N2 ++ N3 ++ N4) (⟨#[80]⟩ : ByteArray)).run Try.prog wx = .ok (.string (N1 ++ N2 ++ N3 ++ N4 ++ (⟨#[80]⟩ : ByteArray))) wx := fun wx => run_string_add_sum (P := Try.prog) (w := wx) _ _ (by (try simp only [ByteArray.size_append]); omega)
  have ha4 : ∀ wx : World, (Op.stringOp .add (N1 ++ N2 ++ N3 ++ N4 ++ (⟨#[80]⟩ : ByteArray)) N5).run Try.prog wx = .ok (.string (N1 ++ N2 ++ N3 ++ N4 ++ (⟨#[80]⟩ : ByteArray) ++ N5)) wx := fun wx => run_string_add_sum (P := Try.prog) (w := wx) _ _ (by (try simp only [ByteArray.size_append]); omega)
  have ha5 : ∀ wx : World, (Op.stringOp .add (N1 ++ N2 ++ N3 ++ N4 ++ (⟨#[80]⟩ : ByteArray) ++ N5) N6).run Try.prog wx = .ok (.string (N1 ++ N2 ++ N3 ++ N4 ++ (⟨#[80]⟩ : ByteArray) ++ N5 ++ N6)) wx := fun wx => run_string_add_sum (P := Try.prog) (w := wx) _ _ (by (try simp only [ByteArray.size_append]); omega)
  obtain ⟨hd, hhd⟩ : ∃ hd, hd = N1 ++ N2 ++ N3 ++ N4 ++ (⟨#[80]⟩ : ByteArray) ++ N5 ++ N6 := ⟨_, rfl⟩
  have zhd : hd.size = 16 := by rw [hhd]; simp only [ByteArray.size_append]; omega
  have Ehd : Hid (nums hd = segA sp dp sq ak fl wn) := by
    show _ = _
    rw [hhd]
    simp only [nums_append]
    rw [EN1.out, EN2.out, EN3.out, EN4.out, EN5.out, EN6.out, e80, nbl_one fl f0 (by omega), segA]
    simp
  obtain ⟨ps, hps⟩ : ∃ ps, ps = pseudoS src dst 6 (20 + (data.size : Int)) := ⟨_, rfl⟩
  have zps : ps.size = 12 := by rw [hps]; exact pseudoS_size _ _ _ _
  have Eps : Hid (nums ps = pseudoL src dst 6 (20 + (data.size : Int))) := by show _ = _; rw [hps]; exact pseudoS_nums _ _ _ _ (by omega) (by omega)
  have HPS : Hid (∀ wx : World, Calls Try.prog 77 #[.int .i64 src, .int .i64 dst, .int .i64 6, .int .i64 (20 + (data.size : Int))] wx fun e w' => e = .returned (.string ps) ∧ Below wx.heap.size wx w') := fun wx => by rw [hps]; exact l02Pseudo_any _ _ _ _ wx s0 s1 d0 d1 (by omega) (by omega) (by omega) (by omega)
  have hsm := endsL_bd src dst 6 (segA sp dp sq ak fl wn ++ [0, 0] ++ segB data) (by omega) (bdA (bdA (segA_bd sp dp sq ak fl wn ⟨f0, by omega⟩) (two_bd (a := 0) (b := 0) (by omega) (by omega))) (segB_bd data))
  obtain ⟨sm, hsmE⟩ : ∃ sm, sm = segSum src dst sp dp sq ak fl wn data := ⟨_, rfl⟩
  have sm0 : 0 ≤ sm := by rw [hsmE]; exact hsm.1
  have sm1 : sm ≤ 65535 := by rw [hsmE]; exact hsm.2
  have LA := segA_len sp dp sq ak fl wn
  have LB := segB_len data
  have HSUM : Hid (∀ wx : World, Calls Try.prog 76 #[.string (ps ++ hd ++ (⟨#[0, 0, 0, 0]⟩ : ByteArray) ++ data)] wx fun e w' => e = .returned (.int .i64 sm) ∧ w' = wx) := fun wx => by
    have h1 : sm = chkL (pseudoL src dst 6 (20 + (data.size : Int)) ++ (segA sp dp sq ak fl wn ++ [0, 0] ++ segB data)) := by
      have hl : ((segA sp dp sq ak fl wn ++ [0, 0] ++ segB data).length : Int) = 20 + (data.size : Int) := by simp [LA, LB]; omega
      rw [hsmE, segSum, endsL, hl]
    rw [h1]
    refine sum_str _ _ ?_ (by simp only [ByteArray.size_append]; omega) wx
    simp only [nums_append]
    rw [Ehd.out, Eps.out, e4]
    simp [segB]
  have HSM : Hid (sm = segSum src dst sp dp sq ak fl wn data) := hsmE
  have E00 : Hid (nums (⟨#[0, 0]⟩ : ByteArray) = [0, 0]) := e00
  clear hsm hsmE e80 e00 e4 LA LB hps
  obtain ⟨N7, hN7⟩ : ∃ s, s = strOf (nb sm 2) 2 := ⟨_, rfl⟩
  have zN7 : N7.size = 2 := by rw [hN7]; exact strOf_size _ _
  have HN7 : Hid (∀ wx : World, Calls Try.prog 75 #[.int .i64 sm, .int .i64 2] wx fun e w' => e = .returned (.string N7) ∧ Below wx.heap.size wx w') := fun wx => by rw [hN7]; exact l01Number_any sm 2 wx (by omega) sm0 (by omega)
  have EN7 : Hid (nums N7 = nbl sm 2) := by show _ = _; rw [hN7]; exact nums_nb _ _
  clear hN7
  have hc0 : ∀ wx : World, (Op.stringOp .add (ps) hd).run Try.prog wx = .ok (.string (ps ++ hd)) wx := fun wx => run_string_add_sum (P := Try.prog) (w := wx) _ _ (by (try simp only [ByteArray.size_append]); omega)
  have hc1 : ∀ wx : World, (Op.stringOp .add (ps ++ hd) (⟨#[0, 0, 0, 0]⟩ : ByteArray)).run Try.prog wx = .ok (.string (ps ++ hd ++ (⟨#[0, 0, 0, 0]⟩ : ByteArray))) wx := fun wx => run_string_add_sum (P := Try.prog) (w := wx) _ _ (by (try simp only [ByteArray.size_append]); omega)
  have hc2 : ∀ wx : World, (Op.stringOp .add (ps ++ hd ++ (⟨#[0, 0, 0, 0]⟩ : ByteArray)) data).run Try.prog wx = .ok (.string (ps ++ hd ++ (⟨#[0, 0, 0, 0]⟩ : ByteArray) ++ data)) wx := fun wx => run_string_add_sum (P := Try.prog) (w := wx) _ _ (by (try simp only [ByteArray.size_append]); omega)
  have he0 : ∀ wx : World, (Op.stringOp .add (hd) N7).run Try.prog wx = .ok (.string (hd ++ N7)) wx := fun wx => run_string_add_sum (P := Try.prog) (w := wx) _ _ (by (try simp only [ByteArray.size_append]); omega)
  have he1 : ∀ wx : World, (Op.stringOp .add (hd ++ N7) (⟨#[0, 0]⟩ : ByteArray)).run Try.prog wx = .ok (.string (hd ++ N7 ++ (⟨#[0, 0]⟩ : ByteArray))) wx := fun wx => run_string_add_sum (P := Try.prog) (w := wx) _ _ (by (try simp only [ByteArray.size_append]); omega)
  have he2 : ∀ wx : World, (Op.stringOp .add (hd ++ N7 ++ (⟨#[0, 0]⟩ : ByteArray)) data).run Try.prog wx = .ok (.string (hd ++ N7 ++ (⟨#[0, 0]⟩ : ByteArray) ++ data)) wx := fun wx => run_string_add_sum (P := Try.prog) (w := wx) _ _ (by (try simp only [ByteArray.size_append]); omega)
  have Hhd : Hid (hd = N1 ++ N2 ++ N3 ++ N4 ++ (⟨#[80]⟩ : ByteArray) ++ N5 ++ N6) := hhd
  clear hhd
  have K0 : Hid (Boxed (w.alloc (.cells #[.int .i64 sp, .int .i64 dp, .int .i64 sq, .int .i64 ak, .int .i64 fl, .int .i64 wn, .string data] 24)) w.heap.size [.int .i64 sp, .int .i64 dp, .int .i64 sq, .int .i64 ak, .int .i64 fl, .int .i64 wn, .string data]) := Boxed.new w _ _
  go_enter Try.func44, Try.ntmps44
  go_wp2
  go_region_held3 (fun wx => wx.cell? ⟨w.heap.size, 0, none⟩ = some (.int .i64 sp) ∧ wx.cell? ⟨w.heap.size, 1, none⟩ = some (.int .i64 dp) ∧ wx.cell? ⟨w.heap.size, 2, none⟩ = some (.int .i64 sq) ∧ wx.cell? ⟨w.heap.size, 3, none⟩ = some (.int .i64 ak) ∧ wx.cell? ⟨w.heap.size, 4, none⟩ = some (.int .i64 fl) ∧ wx.cell? ⟨w.heap.size, 5, none⟩ = some (.int .i64 wn) ∧ wx.cell? ⟨w.heap.size, 6, none⟩ = some (.string data) ∧ Below w.heap.size w wx ∧ w.heap.size < wx.heap.size)
    (first | exact ⟨K0.out.at 0 _ rfl, K0.out.at 1 _ rfl, K0.out.at 2 _ rfl, K0.out.at 3 _ rfl, K0.out.at 4 _ rfl, K0.out.at 5 _ rfl, K0.out.at 6 _ rfl, ((Below.refl _ _).alloc (Nat.le_refl _) _).drew, by simp⟩ | assumption | exact (And.imp (keep_c hb1) (And.imp (keep_c hb1) (And.imp (keep_c hb1) (And.imp (keep_c hb1) (And.imp (keep_c hb1) (And.imp (keep_c hb1) (And.imp (keep_c hb1) (keep_bs hb1)))))))) (by assumption))
    (first | (go_at_call 75; with_reducible refine (HN1.out _).mono ?_; rintro e w' ⟨rfl, hb1⟩) | (go_at_call 75; with_reducible refine (HN2.out _).mono ?_; rintro e w' ⟨rfl, hb1⟩) | (go_at_call 75; with_reducible refine (HN3.out _).mono ?_; rintro e w' ⟨rfl, hb1⟩) | (go_at_call 75; with_reducible refine (HN4.out _).mono ?_; rintro e w' ⟨rfl, hb1⟩) | (go_at_call 75; with_reducible refine (HN5.out _).mono ?_; rintro e w' ⟨rfl, hb1⟩) | (go_at_call 75; with_reducible refine (HN6.out _).mono ?_; rintro e w' ⟨rfl, hb1⟩))
  rename_i hH
  have X1 : Hid (w'.cell? ⟨w.heap.size, 0, none⟩ = some (.int .i64 sp) ∧ w'.cell? ⟨w.heap.size, 1, none⟩ = some (.int .i64 dp) ∧ w'.cell? ⟨w.heap.size, 2, none⟩ = some (.int .i64 sq) ∧ w'.cell? ⟨w.heap.size, 3, none⟩ = some (.int .i64 ak) ∧ w'.cell? ⟨w.heap.size, 4, none⟩ = some (.int .i64 fl) ∧ w'.cell? ⟨w.heap.size, 5, none⟩ = some (.int .i64 wn) ∧ w'.cell? ⟨w.heap.size, 6, none⟩ = some (.string data) ∧ Below w.heap.size w w' ∧ w.heap.size < w'.heap.size) := hH
  clear hH hb1
  rw [← Hhd.out]
  clear ha0 ha1 ha2 ha3 ha4 ha5
  go_wp2
  go_region_held3 (fun wx => wx.cell? ⟨w.heap.size, 0, none⟩ = some (.int .i64 sp) ∧ wx.cell? ⟨w.heap.size, 1, none⟩ = some (.int .i64 dp) ∧ wx.cell? ⟨w.heap.size, 2, none⟩ = some (.int .i64 sq) ∧ wx.cell? ⟨w.heap.size, 3, none⟩ = some (.int .i64 ak) ∧ wx.cell? ⟨w.heap.size, 4, none⟩ = some (.int .i64 fl) ∧ wx.cell? ⟨w.heap.size, 5, none⟩ = some (.int .i64 wn) ∧ wx.cell? ⟨w.heap.size, 6, none⟩ = some (.string data) ∧ Below w.heap.size w wx ∧ w.heap.size < wx.heap.size)
    (first | exact ⟨X1.out.1, X1.out.2.1, X1.out.2.2.1, X1.out.2.2.2.1, X1.out.2.2.2.2.1, X1.out.2.2.2.2.2.1, X1.out.2.2.2.2.2.2.1, (X1.out.2.2.2.2.2.2.2.1).drew, X1.out.2.2.2.2.2.2.2.2⟩ | assumption | exact (And.imp (keep_c hb1) (And.imp (keep_c hb1) (And.imp (keep_c hb1) (And.imp (keep_c hb1) (And.imp (keep_c hb1) (And.imp (keep_c hb1) (And.imp (keep_c hb1) (keep_bs hb1)))))))) (by assumption))
    (first | (go_at_call 77; with_reducible refine (HPS.out _).mono ?_; rintro e w' ⟨rfl, hb1⟩) | (go_at_call 76; with_reducible refine (HSUM.out _).mono ?_; rintro e w' ⟨rfl, rfl⟩))
  rename_i hH
  have X2 : Hid (w'.cell? ⟨w.heap.size, 0, none⟩ = some (.int .i64 sp) ∧ w'.cell? ⟨w.heap.size, 1, none⟩ = some (.int .i64 dp) ∧ w'.cell? ⟨w.heap.size, 2, none⟩ = some (.int .i64 sq) ∧ w'.cell? ⟨w.heap.size, 3, none⟩ = some (.int .i64 ak) ∧ w'.cell? ⟨w.heap.size, 4, none⟩ = some (.int .i64 fl) ∧ w'.cell? ⟨w.heap.size, 5, none⟩ = some (.int .i64 wn) ∧ w'.cell? ⟨w.heap.size, 6, none⟩ = some (.string data) ∧ Below w.heap.size w w' ∧ w.heap.size < w'.heap.size) := hH
  clear hH hb1
  clear hc0 hc1 hc2
  go_wp2
  go_region_held3 (fun wx => wx.cell? ⟨w.heap.size, 0, none⟩ = some (.int .i64 sp) ∧ wx.cell? ⟨w.heap.size, 1, none⟩ = some (.int .i64 dp) ∧ wx.cell? ⟨w.heap.size, 2, none⟩ = some (.int .i64 sq) ∧ wx.cell? ⟨w.heap.size, 3, none⟩ = some (.int .i64 ak) ∧ wx.cell? ⟨w.heap.size, 4, none⟩ = some (.int .i64 fl) ∧ wx.cell? ⟨w.heap.size, 5, none⟩ = some (.int .i64 wn) ∧ wx.cell? ⟨w.heap.size, 6, none⟩ = some (.string data) ∧ Below w.heap.size w wx ∧ w.heap.size < wx.heap.size)
    (first | exact ⟨X2.out.1, X2.out.2.1, X2.out.2.2.1, X2.out.2.2.2.1, X2.out.2.2.2.2.1, X2.out.2.2.2.2.2.1, X2.out.2.2.2.2.2.2.1, (X2.out.2.2.2.2.2.2.2.1).drew, X2.out.2.2.2.2.2.2.2.2⟩ | assumption | exact (And.imp (keep_c hb1) (And.imp (keep_c hb1) (And.imp (keep_c hb1) (And.imp (keep_c hb1) (And.imp (keep_c hb1) (And.imp (keep_c hb1) (And.imp (keep_c hb1) (keep_bs hb1)))))))) (by assumption))
    (first | (go_at_call 75; with_reducible refine (HN7.out _).mono ?_; rintro e w' ⟨rfl, hb1⟩))
  rename_i hH
  have X3 : Hid (w'.cell? ⟨w.heap.size, 0, none⟩ = some (.int .i64 sp) ∧ w'.cell? ⟨w.heap.size, 1, none⟩ = some (.int .i64 dp) ∧ w'.cell? ⟨w.heap.size, 2, none⟩ = some (.int .i64 sq) ∧ w'.cell? ⟨w.heap.size, 3, none⟩ = some (.int .i64 ak) ∧ w'.cell? ⟨w.heap.size, 4, none⟩ = some (.int .i64 fl) ∧ w'.cell? ⟨w.heap.size, 5, none⟩ = some (.int .i64 wn) ∧ w'.cell? ⟨w.heap.size, 6, none⟩ = some (.string data) ∧ Below w.heap.size w w' ∧ w.heap.size < w'.heap.size) := hH
  clear hH hb1
  go_wp2
  go_ret
  refine ⟨⟨_, rfl, ?_⟩, X3.out.2.2.2.2.2.2.2.1⟩
  simp only [nums_append]
  rw [Ehd.out, EN7.out, HSM.out, E00.out, segL, segB]
  simp

set_option maxHeartbeats 8000000 in
theorem l02DatagramBytes_any (src dst : Int) (sp : Int) (dp : Int) (data : ByteArray) (w : World) (s0 : 0 ≤ src) (s1 : src ≤ 4294967295) (d0 : 0 ≤ dst) (d1 : dst ≤ 4294967295) (a0 : 0 ≤ sp) (a1 : sp ≤ 65535) (b0 : 0 ≤ dp) (b1 : dp ≤ 65535) (hb : data.size ≤ 372) :
    Calls Try.prog 49 #[.int .i64 src, .int .i64 dst, .agg #[.int .i64 sp, .int .i64 dp, .string data]] w fun e w' => (∃ t, e = .returned (.string t) ∧ nums t = dgL src dst sp dp data) ∧ Below w.heap.size w w' := by
  obtain ⟨N1, hN1⟩ : ∃ s, s = strOf (nb sp 2) 2 := ⟨_, rfl⟩
  have zN1 : N1.size = 2 := by rw [hN1]; exact strOf_size _ _
  have HN1 : Hid (∀ wx : World, Calls Try.prog 75 #[.int .i64 sp, .int .i64 2] wx fun e w' => e = .returned (.string N1) ∧ Below wx.heap.size wx w') := fun wx => by rw [hN1]; exact l01Number_any sp 2 wx (by omega) a0 (by omega)
  have EN1 : Hid (nums N1 = nbl sp 2) := by show _ = _; rw [hN1]; exact nums_nb _ _
  clear hN1
  obtain ⟨N2, hN2⟩ : ∃ s, s = strOf (nb dp 2) 2 := ⟨_, rfl⟩
  have zN2 : N2.size = 2 := by rw [hN2]; exact strOf_size _ _
  have HN2 : Hid (∀ wx : World, Calls Try.prog 75 #[.int .i64 dp, .int .i64 2] wx fun e w' => e = .returned (.string N2) ∧ Below wx.heap.size wx w') := fun wx => by rw [hN2]; exact l01Number_any dp 2 wx (by omega) b0 (by omega)
  have EN2 : Hid (nums N2 = nbl dp 2) := by show _ = _; rw [hN2]; exact nums_nb _ _
  clear hN2
  obtain ⟨N3, hN3⟩ : ∃ s, s = strOf (nb (8 + (data.size : Int)) 2) 2 := ⟨_, rfl⟩
  have zN3 : N3.size = 2 := by rw [hN3]; exact strOf_size _ _
  have HN3 : Hid (∀ wx : World, Calls Try.prog 75 #[.int .i64 (8 + (data.size : Int)), .int .i64 2] wx fun e w' => e = .returned (.string N3) ∧ Below wx.heap.size wx w') := fun wx => by rw [hN3]; exact l01Number_any (8 + (data.size : Int)) 2 wx (by omega) (by omega) (by omega)
  have EN3 : Hid (nums N3 = nbl (8 + (data.size : Int)) 2) := by show _ = _; rw [hN3]; exact nums_nb _ _
  clear hN3
  have c00 : (⟨#[0, 0]⟩ : ByteArray).size = 2 := rfl
  have e00 : nums (⟨#[0, 0]⟩ : ByteArray) = [0, 0] := rfl
  have ha0 : ∀ wx : World, (Op.stringOp .add (N1) N2).run Try.prog wx = .ok (.string (N1 ++ N2)) wx := fun wx => run_string_add_sum (P := Try.prog) (w := wx) _ _ (by (try simp only [ByteArray.size_append]); omega)
  have ha1 : ∀ wx : World, (Op.stringOp .add (N1 ++ N2) N3).run Try.prog wx = .ok (.string (N1 ++ N2 ++ N3)) wx := fun wx => run_string_add_sum (P := Try.prog) (w := wx) _ _ (by (try simp only [ByteArray.size_append]); omega)
  obtain ⟨hd, hhd⟩ : ∃ hd, hd = N1 ++ N2 ++ N3 := ⟨_, rfl⟩
  have zhd : hd.size = 6 := by rw [hhd]; simp only [ByteArray.size_append]; omega
  have Ehd : Hid (nums hd = dgA sp dp data) := by
    show _ = _
    rw [hhd]
    simp only [nums_append]
    rw [EN1.out, EN2.out, EN3.out, dgA]
  obtain ⟨ps, hps⟩ : ∃ ps, ps = pseudoS src dst 17 (8 + (data.size : Int)) := ⟨_, rfl⟩
  have zps : ps.size = 12 := by rw [hps]; exact pseudoS_size _ _ _ _
  have Eps : Hid (nums ps = pseudoL src dst 17 (8 + (data.size : Int))) := by show _ = _; rw [hps]; exact pseudoS_nums _ _ _ _ (by omega) (by omega)
  have HPS : Hid (∀ wx : World, Calls Try.prog 77 #[.int .i64 src, .int .i64 dst, .int .i64 17, .int .i64 (8 + (data.size : Int))] wx fun e w' => e = .returned (.string ps) ∧ Below wx.heap.size wx w') := fun wx => by rw [hps]; exact l02Pseudo_any _ _ _ _ wx s0 s1 d0 d1 (by omega) (by omega) (by omega) (by omega)
  have hsm := endsL_bd src dst 17 (dgA sp dp data ++ [0, 0] ++ nums data) (by omega) (bdA (bdA (dgA_bd sp dp data) (two_bd (a := 0) (b := 0) (by omega) (by omega))) (nums_bd data))
  obtain ⟨sm, hsmE⟩ : ∃ sm, sm = endsL src dst 17 (dgA sp dp data ++ [0, 0] ++ nums data) := ⟨_, rfl⟩
  have sm0 : 0 ≤ sm := by rw [hsmE]; exact hsm.1
  have sm1 : sm ≤ 65535 := by rw [hsmE]; exact hsm.2
  have LA := dgA_len sp dp data
  have HSUM : Hid (∀ wx : World, Calls Try.prog 76 #[.string (ps ++ hd ++ (⟨#[0, 0]⟩ : ByteArray) ++ data)] wx fun e w' => e = .returned (.int .i64 sm) ∧ w' = wx) := fun wx => by
    have h1 : sm = chkL (pseudoL src dst 17 (8 + (data.size : Int)) ++ (dgA sp dp data ++ [0, 0] ++ nums data)) := by
      have hl : ((dgA sp dp data ++ [0, 0] ++ nums data).length : Int) = 8 + (data.size : Int) := by simp [LA, nums_len]; omega
      rw [hsmE, endsL, hl]
    rw [h1]
    refine sum_str _ _ ?_ (by simp only [ByteArray.size_append]; omega) wx
    simp only [nums_append]
    rw [Ehd.out, Eps.out, e00]
    simp
  have HSM : Hid (fix0 sm = dgSum src dst sp dp data) := by show _ = _; rw [hsmE, dgSum]
  clear hsm hsmE e00 LA hps
  obtain ⟨sx, hsx⟩ : ∃ sx, sx = fix0 sm := ⟨_, rfl⟩
  have sx0 : 0 ≤ sx := by rw [hsx]; exact (fix0_bd sm0 sm1).1
  have sx1 : sx ≤ 65535 := by rw [hsx]; exact (fix0_bd sm0 sm1).2
  have HSX : Hid (sx = fix0 sm) := hsx
  clear hsx
  obtain ⟨N7, hN7⟩ : ∃ s, s = strOf (nb sx 2) 2 := ⟨_, rfl⟩
  have zN7 : N7.size = 2 := by rw [hN7]; exact strOf_size _ _
  have HN7 : Hid (∀ wx : World, Calls Try.prog 75 #[.int .i64 sx, .int .i64 2] wx fun e w' => e = .returned (.string N7) ∧ Below wx.heap.size wx w') := fun wx => by rw [hN7]; exact l01Number_any sx 2 wx (by omega) sx0 (by omega)
  have EN7 : Hid (nums N7 = nbl sx 2) := by show _ = _; rw [hN7]; exact nums_nb _ _
  clear hN7
  have hc0 : ∀ wx : World, (Op.stringOp .add (ps) hd).run Try.prog wx = .ok (.string (ps ++ hd)) wx := fun wx => run_string_add_sum (P := Try.prog) (w := wx) _ _ (by (try simp only [ByteArray.size_append]); omega)
  have hc1 : ∀ wx : World, (Op.stringOp .add (ps ++ hd) (⟨#[0, 0]⟩ : ByteArray)).run Try.prog wx = .ok (.string (ps ++ hd ++ (⟨#[0, 0]⟩ : ByteArray))) wx := fun wx => run_string_add_sum (P := Try.prog) (w := wx) _ _ (by (try simp only [ByteArray.size_append]); omega)
  have hc2 : ∀ wx : World, (Op.stringOp .add (ps ++ hd ++ (⟨#[0, 0]⟩ : ByteArray)) data).run Try.prog wx = .ok (.string (ps ++ hd ++ (⟨#[0, 0]⟩ : ByteArray) ++ data)) wx := fun wx => run_string_add_sum (P := Try.prog) (w := wx) _ _ (by (try simp only [ByteArray.size_append]); omega)
  have he0 : ∀ wx : World, (Op.stringOp .add (hd) N7).run Try.prog wx = .ok (.string (hd ++ N7)) wx := fun wx => run_string_add_sum (P := Try.prog) (w := wx) _ _ (by (try simp only [ByteArray.size_append]); omega)
  have he1 : ∀ wx : World, (Op.stringOp .add (hd ++ N7) data).run Try.prog wx = .ok (.string (hd ++ N7 ++ data)) wx := fun wx => run_string_add_sum (P := Try.prog) (w := wx) _ _ (by (try simp only [ByteArray.size_append]); omega)
  have Hhd : Hid (hd = N1 ++ N2 ++ N3) := hhd
  clear hhd
  have K0 : Hid (Boxed (w.alloc (.cells #[.int .i64 sp, .int .i64 dp, .string data] 33)) w.heap.size [.int .i64 sp, .int .i64 dp, .string data]) := Boxed.new w _ _
  go_enter Try.func49, Try.ntmps49
  go_wp2
  go_region_held3 (fun wx => wx.cell? ⟨w.heap.size, 0, none⟩ = some (.int .i64 sp) ∧ wx.cell? ⟨w.heap.size, 1, none⟩ = some (.int .i64 dp) ∧ wx.cell? ⟨w.heap.size, 2, none⟩ = some (.string data) ∧ Below w.heap.size w wx ∧ w.heap.size < wx.heap.size)
    (first | exact ⟨K0.out.at 0 _ rfl, K0.out.at 1 _ rfl, K0.out.at 2 _ rfl, ((Below.refl _ _).alloc (Nat.le_refl _) _).drew, by simp⟩ | assumption | exact (And.imp (keep_c hb1) (And.imp (keep_c hb1) (And.imp (keep_c hb1) (keep_bs hb1)))) (by assumption))
    (first | (go_at_call 75; with_reducible refine (HN1.out _).mono ?_; rintro e w' ⟨rfl, hb1⟩) | (go_at_call 75; with_reducible refine (HN2.out _).mono ?_; rintro e w' ⟨rfl, hb1⟩) | (go_at_call 75; with_reducible refine (HN3.out _).mono ?_; rintro e w' ⟨rfl, hb1⟩))
  rename_i hH
  have X1 : Hid (w'.cell? ⟨w.heap.size, 0, none⟩ = some (.int .i64 sp) ∧ w'.cell? ⟨w.heap.size, 1, none⟩ = some (.int .i64 dp) ∧ w'.cell? ⟨w.heap.size, 2, none⟩ = some (.string data) ∧ Below w.heap.size w w' ∧ w.heap.size < w'.heap.size) := hH
  clear hH hb1
  rw [← Hhd.out]
  clear ha0 ha1
  go_wp2
  go_region_held3 (fun wx => wx.cell? ⟨w.heap.size, 0, none⟩ = some (.int .i64 sp) ∧ wx.cell? ⟨w.heap.size, 1, none⟩ = some (.int .i64 dp) ∧ wx.cell? ⟨w.heap.size, 2, none⟩ = some (.string data) ∧ Below w.heap.size w wx ∧ w.heap.size < wx.heap.size)
    (first | exact ⟨X1.out.1, X1.out.2.1, X1.out.2.2.1, (X1.out.2.2.2.1).drew, X1.out.2.2.2.2⟩ | assumption | exact (And.imp (keep_c hb1) (And.imp (keep_c hb1) (And.imp (keep_c hb1) (keep_bs hb1)))) (by assumption))
    (first | (go_at_call 77; with_reducible refine (HPS.out _).mono ?_; rintro e w' ⟨rfl, hb1⟩) | (go_at_call 76; with_reducible refine (HSUM.out _).mono ?_; rintro e w' ⟨rfl, rfl⟩))
  rename_i hH
  have X2 : Hid (w'.cell? ⟨w.heap.size, 0, none⟩ = some (.int .i64 sp) ∧ w'.cell? ⟨w.heap.size, 1, none⟩ = some (.int .i64 dp) ∧ w'.cell? ⟨w.heap.size, 2, none⟩ = some (.string data) ∧ Below w.heap.size w w' ∧ w.heap.size < w'.heap.size) := hH
  clear hH hb1
  clear hc0 hc1 hc2
  by_cases hz : sm = 0
  · have bz : (sm == 0) = true := by simp [hz]
    have hsx : (65535 : Int) = sx := by have := HSX.out; rw [this]; simp [fix0, hz]
    have HSY : Hid ((65535 : Int) = sx) := hsx
    clear hsx
    go_wp2
    rw [HSY.out]
    go_region_held3 (fun wx => wx.cell? ⟨w.heap.size, 0, none⟩ = some (.int .i64 sp) ∧ wx.cell? ⟨w.heap.size, 1, none⟩ = some (.int .i64 dp) ∧ wx.cell? ⟨w.heap.size, 2, none⟩ = some (.string data) ∧ Below w.heap.size w wx ∧ w.heap.size < wx.heap.size)
      (first | exact ⟨X2.out.1, X2.out.2.1, X2.out.2.2.1, (X2.out.2.2.2.1).drew, X2.out.2.2.2.2⟩ | assumption | exact (And.imp (keep_c hb1) (And.imp (keep_c hb1) (And.imp (keep_c hb1) (keep_bs hb1)))) (by assumption))
      (first | (go_at_call 75; with_reducible refine (HN7.out _).mono ?_; rintro e w' ⟨rfl, hb1⟩))
    rename_i hH
    have X3 : Hid (w'.cell? ⟨w.heap.size, 0, none⟩ = some (.int .i64 sp) ∧ w'.cell? ⟨w.heap.size, 1, none⟩ = some (.int .i64 dp) ∧ w'.cell? ⟨w.heap.size, 2, none⟩ = some (.string data) ∧ Below w.heap.size w w' ∧ w.heap.size < w'.heap.size) := hH
    clear hH hb1
    go_wp2
    go_ret
    refine ⟨⟨_, rfl, ?_⟩, X3.out.2.2.2.1⟩
    simp only [nums_append]
    rw [Ehd.out, EN7.out, HSX.out, HSM.out, dgL]
  · have bz : (sm == 0) = false := by simp [hz]
    have hsx : sm = sx := by have := HSX.out; rw [this]; simp [fix0, hz]
    have HSY : Hid (sm = sx) := hsx
    clear hsx
    go_wp2
    rw [HSY.out]
    go_region_held3 (fun wx => wx.cell? ⟨w.heap.size, 0, none⟩ = some (.int .i64 sp) ∧ wx.cell? ⟨w.heap.size, 1, none⟩ = some (.int .i64 dp) ∧ wx.cell? ⟨w.heap.size, 2, none⟩ = some (.string data) ∧ Below w.heap.size w wx ∧ w.heap.size < wx.heap.size)
      (first | exact ⟨X2.out.1, X2.out.2.1, X2.out.2.2.1, (X2.out.2.2.2.1).drew, X2.out.2.2.2.2⟩ | assumption | exact (And.imp (keep_c hb1) (And.imp (keep_c hb1) (And.imp (keep_c hb1) (keep_bs hb1)))) (by assumption))
      (first | (go_at_call 75; with_reducible refine (HN7.out _).mono ?_; rintro e w' ⟨rfl, hb1⟩))
    rename_i hH
    have X3 : Hid (w'.cell? ⟨w.heap.size, 0, none⟩ = some (.int .i64 sp) ∧ w'.cell? ⟨w.heap.size, 1, none⟩ = some (.int .i64 dp) ∧ w'.cell? ⟨w.heap.size, 2, none⟩ = some (.string data) ∧ Below w.heap.size w w' ∧ w.heap.size < w'.heap.size) := hH
    clear hH hb1
    go_wp2
    go_ret
    refine ⟨⟨_, rfl, ?_⟩, X3.out.2.2.2.1⟩
    simp only [nums_append]
    rw [Ehd.out, EN7.out, HSX.out, HSM.out, dgL]
end Go.Proofs.Ytfcdobicilediaa
