/- The model: the bytes of packets, and what a sum has ahead, as strings. -/
import Derived.Test.YtmhlanbmlkidhaaSpecWire
namespace Go.Proofs.Ytmhlanbmlkidhaa
open Go.RowKit Go.PlainAid
set_option linter.unusedVariables false
set_option maxRecDepth 20000

theorem nbl_one (n : Int) (h0 : 0 ≤ n) (h1 : n ≤ 255) : nbl n 1 = [n] := by
  have : nb n 1 0 = n := by unfold nb; simp; omega
  simp [nbl, List.range_succ, this]

def pseudoS (src dst pro n : Int) : ByteArray := strOf (nb src 4) 4 ++ strOf (nb dst 4) 4 ++ (⟨#[0]⟩ : ByteArray) ++ strOf (nb pro 1) 1 ++ strOf (nb n 2) 2
theorem pseudoS_nums (src dst pro n : Int) (p0 : 0 ≤ pro) (p1 : pro ≤ 255) : nums (pseudoS src dst pro n) = pseudoL src dst pro n := by
  have e : nums (⟨#[0]⟩ : ByteArray) = [0] := rfl
  unfold pseudoS pseudoL
  simp only [nums_append, nums_nb]
  rw [e, nbl_one pro p0 p1]
  simp
theorem pseudoS_size (src dst pro n : Int) : (pseudoS src dst pro n).size = 12 := by
  have e : (⟨#[0]⟩ : ByteArray).size = 1 := rfl
  unfold pseudoS
  simp only [ByteArray.size_append, strOf_size, e]
set_option maxHeartbeats 2000000 in
theorem l02Pseudo_any (src dst pro n : Int) (w : World) (s0 : 0 ≤ src) (s1 : src ≤ 4294967295) (d0 : 0 ≤ dst) (d1 : dst ≤ 4294967295) (p0 : 0 ≤ pro) (p1 : pro ≤ 255) (n0 : 0 ≤ n) (n1 : n ≤ 65535) :
    Calls Try.prog 74 #[.int .i64 src, .int .i64 dst, .int .i64 pro, .int .i64 n] w fun e w' => e = .returned (.string (pseudoS src dst pro n)) ∧ Below w.heap.size w w' := by
  have z1 : (strOf (nb src 4) 4).size = 4 := strOf_size _ _
  have z2 : (strOf (nb dst 4) 4).size = 4 := strOf_size _ _
  have z3 : (strOf (nb pro 1) 1).size = 1 := strOf_size _ _
  have z4 : (strOf (nb n 2) 2).size = 2 := strOf_size _ _
  go_enter Try.func74, Try.ntmps74
  go_wp2_with fail
  refine (l01Number_any src 4 _ (by omega) s0 (by omega)).mono ?_
  rintro e w1 ⟨rfl, b1⟩
  have B1 : Hid (Below w.heap.size w w1) := b1
  clear b1
  go_wp2_with fail
  refine (l01Number_any dst 4 _ (by omega) d0 (by omega)).mono ?_
  rintro e w2 ⟨rfl, b2⟩
  have B2 : Hid (Below w.heap.size w w2) := B1.out.trans (b2.mono B1.out.size)
  clear b2
  go_wp2_with fail
  refine (l01Number_any pro 1 _ (by omega) p0 (by omega)).mono ?_
  rintro e w3 ⟨rfl, b3⟩
  have B3 : Hid (Below w.heap.size w w3) := B2.out.trans (b3.mono B2.out.size)
  clear b3
  go_wp2_with fail
  refine (l01Number_any n 2 _ (by omega) n0 (by omega)).mono ?_
  rintro e w4 ⟨rfl, b4⟩
  have B4 : Hid (Below w.heap.size w w4) := B3.out.trans (b4.mono B3.out.size)
  clear b4
  go_wp2
  go_ret
  exact ⟨rfl, B4.out⟩

theorem sum_str (s : ByteArray) (L : List Int) (h : nums s = L) (hs : s.size ≤ 65536) (wx : World) : Calls Try.prog 72 #[.string s] wx fun e w' => e = .returned (.int .i64 (chkL L)) ∧ w' = wx := by
  have := sum16_any s wx hs
  rwa [chk_nums, h] at this

set_option maxHeartbeats 8000000 in
theorem l02PacketBytes_any (src : Int) (dst : Int) (pro : Int) (ttl : Int) (idn : Int) (body : ByteArray) (w : World) (s0 : 0 ≤ src) (s1 : src ≤ 4294967295) (d0 : 0 ≤ dst) (d1 : dst ≤ 4294967295) (p0 : 0 ≤ pro) (p1 : pro ≤ 255) (t0 : 0 ≤ ttl) (t1 : ttl ≤ 255) (i0 : 0 ≤ idn) (i1 : idn ≤ 65535) (hb : body.size ≤ 380) :
    Calls Try.prog 49 #[.agg #[.int .i64 src, .int .i64 dst, .int .i64 pro, .int .i64 ttl, .int .i64 idn, .string body]] w fun e w' => (∃ t, e = .returned (.string t) ∧ nums t = packetL src dst pro ttl idn body) ∧ Below w.heap.size w w' := by
  obtain ⟨N1, hN1⟩ : ∃ s, s = strOf (nb (20 + (body.size : Int)) 2) 2 := ⟨_, rfl⟩
  have zN1 : N1.size = 2 := by rw [hN1]; exact strOf_size _ _
  have HN1 : Hid (∀ wx : World, Calls Try.prog 67 #[.int .i64 (20 + (body.size : Int)), .int .i64 2] wx fun e w' => e = .returned (.string N1) ∧ Below wx.heap.size wx w') := fun wx => by rw [hN1]; exact l01Number_any (20 + (body.size : Int)) 2 wx (by omega) (by omega) (by omega)
  have EN1 : Hid (nums N1 = nbl (20 + (body.size : Int)) 2) := by show _ = _; rw [hN1]; exact nums_nb _ _
  clear hN1
  obtain ⟨N2, hN2⟩ : ∃ s, s = strOf (nb idn 2) 2 := ⟨_, rfl⟩
  have zN2 : N2.size = 2 := by rw [hN2]; exact strOf_size _ _
  have HN2 : Hid (∀ wx : World, Calls Try.prog 67 #[.int .i64 idn, .int .i64 2] wx fun e w' => e = .returned (.string N2) ∧ Below wx.heap.size wx w') := fun wx => by rw [hN2]; exact l01Number_any idn 2 wx (by omega) i0 (by omega)
  have EN2 : Hid (nums N2 = nbl idn 2) := by show _ = _; rw [hN2]; exact nums_nb _ _
  clear hN2
  obtain ⟨N3, hN3⟩ : ∃ s, s = strOf (nb ttl 1) 1 := ⟨_, rfl⟩
  have zN3 : N3.size = 1 := by rw [hN3]; exact strOf_size _ _
  have HN3 : Hid (∀ wx : World, Calls Try.prog 67 #[.int .i64 ttl, .int .i64 1] wx fun e w' => e = .returned (.string N3) ∧ Below wx.heap.size wx w') := fun wx => by rw [hN3]; exact l01Number_any ttl 1 wx (by omega) t0 (by omega)
  have EN3 : Hid (nums N3 = nbl ttl 1) := by show _ = _; rw [hN3]; exact nums_nb _ _
  clear hN3
  obtain ⟨N4, hN4⟩ : ∃ s, s = strOf (nb pro 1) 1 := ⟨_, rfl⟩
  have zN4 : N4.size = 1 := by rw [hN4]; exact strOf_size _ _
  have HN4 : Hid (∀ wx : World, Calls Try.prog 67 #[.int .i64 pro, .int .i64 1] wx fun e w' => e = .returned (.string N4) ∧ Below wx.heap.size wx w') := fun wx => by rw [hN4]; exact l01Number_any pro 1 wx (by omega) p0 (by omega)
  have EN4 : Hid (nums N4 = nbl pro 1) := by show _ = _; rw [hN4]; exact nums_nb _ _
  clear hN4
  obtain ⟨N5, hN5⟩ : ∃ s, s = strOf (nb src 4) 4 := ⟨_, rfl⟩
  have zN5 : N5.size = 4 := by rw [hN5]; exact strOf_size _ _
  have HN5 : Hid (∀ wx : World, Calls Try.prog 67 #[.int .i64 src, .int .i64 4] wx fun e w' => e = .returned (.string N5) ∧ Below wx.heap.size wx w') := fun wx => by rw [hN5]; exact l01Number_any src 4 wx (by omega) s0 (by omega)
  have EN5 : Hid (nums N5 = nbl src 4) := by show _ = _; rw [hN5]; exact nums_nb _ _
  clear hN5
  obtain ⟨N6, hN6⟩ : ∃ s, s = strOf (nb dst 4) 4 := ⟨_, rfl⟩
  have zN6 : N6.size = 4 := by rw [hN6]; exact strOf_size _ _
  have HN6 : Hid (∀ wx : World, Calls Try.prog 67 #[.int .i64 dst, .int .i64 4] wx fun e w' => e = .returned (.string N6) ∧ Below wx.heap.size wx w') := fun wx => by rw [hN6]; exact l01Number_any dst 4 wx (by omega) d0 (by omega)
  have EN6 : Hid (nums N6 = nbl dst 4) := by show _ = _; rw [hN6]; exact nums_nb _ _
  clear hN6
  have c690 : (⟨#[69, 0]⟩ : ByteArray).size = 2 := rfl
  have c00 : (⟨#[0, 0]⟩ : ByteArray).size = 2 := rfl
  have e690 : nums (⟨#[69, 0]⟩ : ByteArray) = [69, 0] := rfl
  have e00 : nums (⟨#[0, 0]⟩ : ByteArray) = [0, 0] := rfl
  have hwr : IntKind.i64.wrap (20 + (body.size : Int)) = 20 + (body.size : Int) := by rw [IntKind.wrap_i64]; omega
  have ha0 : ∀ wx : World, (Op.stringOp .add ((⟨#[69, 0]⟩ : ByteArray)) N1).run Try.prog wx = .ok (.string ((⟨#[69, 0]⟩ : ByteArray) ++ N1)) wx := fun wx => run_string_add_sum (P := Try.prog) (w := wx) _ _ (by (try simp only [ByteArray.size_append]); omega)
  have ha1 : ∀ wx : World, (Op.stringOp .add ((⟨#[69, 0]⟩ : ByteArray) ++ N1) N2).run Try.prog wx = .ok (.string ((⟨#[69, 0]⟩ : ByteArray) ++ N1 ++ N2)) wx := fun wx => run_string_add_sum (P := Try.prog) (w := wx) _ _ (by (try simp only [ByteArray.size_append]); omega)
  have ha2 : ∀ wx : World, (Op.stringOp .add ((⟨#[69, 0]⟩ : ByteArray) ++ N1 ++ N2) (⟨#[0, 0]⟩ : ByteArray)).run Try.prog wx = .ok (.string ((⟨#[69, 0]⟩ : ByteArray) ++ N1 ++ N2 ++ (⟨#[0, 0]⟩ : ByteArray))) wx := fun wx => run_string_add_sum (P := Try.prog) (w := wx) _ _ (by (try simp only [ByteArray.size_append]); omega)
  have ha3 : ∀ wx : World, (Op.stringOp .add ((⟨#[69, 0]⟩ : ByteArray) ++ N1 ++ N2 ++ (⟨#[0, 0]⟩ : ByteArray)) N3).run Try.prog wx = .ok (.string ((⟨#[69, 0]⟩ : ByteArray) ++ N1 ++ N2 ++ (⟨#[0, 0]⟩ : ByteArray) ++ N3)) wx := fun wx => run_string_add_sum (P := Try.prog) (w := wx) _ _ (by (try simp only [ByteArray.size_append]); omega)
  have ha4 : ∀ wx : World, (Op.stringOp .add ((⟨#[69, 0]⟩ : ByteArray) ++ N1 ++ N2 ++ (⟨#[0, 0]⟩ : ByteArray) ++ N3) N4).run Try.prog wx = .ok (.string ((⟨#[69, 0]⟩ : ByteArray) ++ N1 ++ N2 ++ (⟨#[0, 0]⟩ : ByteArray) ++ N3 ++ N4)) wx := fun wx => run_string_add_sum (P := Try.prog) (w := wx) _ _ (by (try simp only [ByteArray.size_append]); omega)
  have hb0 : ∀ wx : World, (Op.stringOp .add (N5) N6).run Try.prog wx = .ok (.string (N5 ++ N6)) wx := fun wx => run_string_add_sum (P := Try.prog) (w := wx) _ _ (by (try simp only [ByteArray.size_append]); omega)
  obtain ⟨hd, hhd⟩ : ∃ hd, hd = (⟨#[69, 0]⟩ : ByteArray) ++ N1 ++ N2 ++ (⟨#[0, 0]⟩ : ByteArray) ++ N3 ++ N4 := ⟨_, rfl⟩
  obtain ⟨rs, hrs⟩ : ∃ rs, rs = N5 ++ N6 := ⟨_, rfl⟩
  have zhd : hd.size = 10 := by rw [hhd]; simp only [ByteArray.size_append]; omega
  have zrs : rs.size = 8 := by rw [hrs]; simp only [ByteArray.size_append]; omega
  have Ehd : Hid (nums hd = packetA pro ttl idn body) := by
    show _ = _
    rw [hhd]
    simp only [nums_append]
    rw [EN1.out, EN2.out, EN3.out, EN4.out, e690, e00, nbl_one ttl t0 t1, nbl_one pro p0 p1, packetA]
    simp
  have Ers : Hid (nums rs = packetB src dst) := by
    show _ = _
    rw [hrs]
    simp only [nums_append]
    rw [EN5.out, EN6.out, packetB]
  have hsm := chkL_bd _ (bdA (bdA (packetA_bd pro ttl idn body ⟨p0, p1⟩ ⟨t0, t1⟩) (two_bd (a := 0) (b := 0) (by omega) (by omega))) (packetB_bd src dst))
  obtain ⟨sm, hsmE⟩ : ∃ sm, sm = packetSum src dst pro ttl idn body := ⟨_, rfl⟩
  have sm0 : 0 ≤ sm := by rw [hsmE]; exact hsm.1
  have sm1 : sm ≤ 65535 := by rw [hsmE]; exact hsm.2
  have HSUM : Hid (∀ wx : World, Calls Try.prog 72 #[.string (hd ++ (⟨#[0, 0]⟩ : ByteArray) ++ rs)] wx fun e w' => e = .returned (.int .i64 sm) ∧ w' = wx) := fun wx => by
    rw [hsmE]
    exact sum_str _ _ (by simp only [nums_append]; rw [Ehd.out, Ers.out, e00]) (by simp only [ByteArray.size_append]; omega) wx
  have HSM : Hid (sm = packetSum src dst pro ttl idn body) := hsmE
  clear hsm hsmE e690 e00
  obtain ⟨N7, hN7⟩ : ∃ s, s = strOf (nb sm 2) 2 := ⟨_, rfl⟩
  have zN7 : N7.size = 2 := by rw [hN7]; exact strOf_size _ _
  have HN7 : Hid (∀ wx : World, Calls Try.prog 67 #[.int .i64 sm, .int .i64 2] wx fun e w' => e = .returned (.string N7) ∧ Below wx.heap.size wx w') := fun wx => by rw [hN7]; exact l01Number_any sm 2 wx (by omega) sm0 (by omega)
  have EN7 : Hid (nums N7 = nbl sm 2) := by show _ = _; rw [hN7]; exact nums_nb _ _
  clear hN7
  have hc0 : ∀ wx : World, (Op.stringOp .add (hd) (⟨#[0, 0]⟩ : ByteArray)).run Try.prog wx = .ok (.string (hd ++ (⟨#[0, 0]⟩ : ByteArray))) wx := fun wx => run_string_add_sum (P := Try.prog) (w := wx) _ _ (by (try simp only [ByteArray.size_append]); omega)
  have hc1 : ∀ wx : World, (Op.stringOp .add (hd ++ (⟨#[0, 0]⟩ : ByteArray)) rs).run Try.prog wx = .ok (.string (hd ++ (⟨#[0, 0]⟩ : ByteArray) ++ rs)) wx := fun wx => run_string_add_sum (P := Try.prog) (w := wx) _ _ (by (try simp only [ByteArray.size_append]); omega)
  have he0 : ∀ wx : World, (Op.stringOp .add (hd) N7).run Try.prog wx = .ok (.string (hd ++ N7)) wx := fun wx => run_string_add_sum (P := Try.prog) (w := wx) _ _ (by (try simp only [ByteArray.size_append]); omega)
  have he1 : ∀ wx : World, (Op.stringOp .add (hd ++ N7) rs).run Try.prog wx = .ok (.string (hd ++ N7 ++ rs)) wx := fun wx => run_string_add_sum (P := Try.prog) (w := wx) _ _ (by (try simp only [ByteArray.size_append]); omega)
  have he2 : ∀ wx : World, (Op.stringOp .add (hd ++ N7 ++ rs) body).run Try.prog wx = .ok (.string (hd ++ N7 ++ rs ++ body)) wx := fun wx => run_string_add_sum (P := Try.prog) (w := wx) _ _ (by (try simp only [ByteArray.size_append]); omega)
  have Hhd : Hid (hd = (⟨#[69, 0]⟩ : ByteArray) ++ N1 ++ N2 ++ (⟨#[0, 0]⟩ : ByteArray) ++ N3 ++ N4) := hhd
  have Hrs : Hid (rs = N5 ++ N6) := hrs
  clear hhd hrs
  have K0 : Hid (Boxed (w.alloc (.cells #[.int .i64 src, .int .i64 dst, .int .i64 pro, .int .i64 ttl, .int .i64 idn, .string body] 39)) w.heap.size [.int .i64 src, .int .i64 dst, .int .i64 pro, .int .i64 ttl, .int .i64 idn, .string body]) := Boxed.new w _ _
  go_enter Try.func49, Try.ntmps49
  go_wp2
  go_region_held3 (fun wx => wx.cell? ⟨w.heap.size, 0, none⟩ = some (.int .i64 src) ∧ wx.cell? ⟨w.heap.size, 1, none⟩ = some (.int .i64 dst) ∧ wx.cell? ⟨w.heap.size, 2, none⟩ = some (.int .i64 pro) ∧ wx.cell? ⟨w.heap.size, 3, none⟩ = some (.int .i64 ttl) ∧ wx.cell? ⟨w.heap.size, 4, none⟩ = some (.int .i64 idn) ∧ wx.cell? ⟨w.heap.size, 5, none⟩ = some (.string body) ∧ Below w.heap.size w wx ∧ w.heap.size < wx.heap.size)
    (first | exact ⟨K0.out.at 0 _ rfl, K0.out.at 1 _ rfl, K0.out.at 2 _ rfl, K0.out.at 3 _ rfl, K0.out.at 4 _ rfl, K0.out.at 5 _ rfl, ((Below.refl _ _).alloc (Nat.le_refl _) _).drew, by simp⟩ | assumption | exact (And.imp (keep_c hb1) (And.imp (keep_c hb1) (And.imp (keep_c hb1) (And.imp (keep_c hb1) (And.imp (keep_c hb1) (And.imp (keep_c hb1) (keep_bs hb1))))))) (by assumption))
    (first | (go_at_call 67; with_reducible refine (HN1.out _).mono ?_; rintro e w' ⟨rfl, hb1⟩) | (go_at_call 67; with_reducible refine (HN2.out _).mono ?_; rintro e w' ⟨rfl, hb1⟩) | (go_at_call 67; with_reducible refine (HN3.out _).mono ?_; rintro e w' ⟨rfl, hb1⟩) | (go_at_call 67; with_reducible refine (HN4.out _).mono ?_; rintro e w' ⟨rfl, hb1⟩))
  rename_i hH
  have X1 : Hid (w'.cell? ⟨w.heap.size, 0, none⟩ = some (.int .i64 src) ∧ w'.cell? ⟨w.heap.size, 1, none⟩ = some (.int .i64 dst) ∧ w'.cell? ⟨w.heap.size, 2, none⟩ = some (.int .i64 pro) ∧ w'.cell? ⟨w.heap.size, 3, none⟩ = some (.int .i64 ttl) ∧ w'.cell? ⟨w.heap.size, 4, none⟩ = some (.int .i64 idn) ∧ w'.cell? ⟨w.heap.size, 5, none⟩ = some (.string body) ∧ Below w.heap.size w w' ∧ w.heap.size < w'.heap.size) := hH
  clear hH hb1
  rw [← Hhd.out]
  clear ha0 ha1 ha2 ha3 ha4
  go_wp2
  go_region_held3 (fun wx => wx.cell? ⟨w.heap.size, 0, none⟩ = some (.int .i64 src) ∧ wx.cell? ⟨w.heap.size, 1, none⟩ = some (.int .i64 dst) ∧ wx.cell? ⟨w.heap.size, 2, none⟩ = some (.int .i64 pro) ∧ wx.cell? ⟨w.heap.size, 3, none⟩ = some (.int .i64 ttl) ∧ wx.cell? ⟨w.heap.size, 4, none⟩ = some (.int .i64 idn) ∧ wx.cell? ⟨w.heap.size, 5, none⟩ = some (.string body) ∧ Below w.heap.size w wx ∧ w.heap.size < wx.heap.size)
    (first | exact ⟨X1.out.1, X1.out.2.1, X1.out.2.2.1, X1.out.2.2.2.1, X1.out.2.2.2.2.1, X1.out.2.2.2.2.2.1, (X1.out.2.2.2.2.2.2.1).drew, X1.out.2.2.2.2.2.2.2⟩ | assumption | exact (And.imp (keep_c hb1) (And.imp (keep_c hb1) (And.imp (keep_c hb1) (And.imp (keep_c hb1) (And.imp (keep_c hb1) (And.imp (keep_c hb1) (keep_bs hb1))))))) (by assumption))
    (first | (go_at_call 67; with_reducible refine (HN5.out _).mono ?_; rintro e w' ⟨rfl, hb1⟩) | (go_at_call 67; with_reducible refine (HN6.out _).mono ?_; rintro e w' ⟨rfl, hb1⟩))
  rename_i hH
  have X2 : Hid (w'.cell? ⟨w.heap.size, 0, none⟩ = some (.int .i64 src) ∧ w'.cell? ⟨w.heap.size, 1, none⟩ = some (.int .i64 dst) ∧ w'.cell? ⟨w.heap.size, 2, none⟩ = some (.int .i64 pro) ∧ w'.cell? ⟨w.heap.size, 3, none⟩ = some (.int .i64 ttl) ∧ w'.cell? ⟨w.heap.size, 4, none⟩ = some (.int .i64 idn) ∧ w'.cell? ⟨w.heap.size, 5, none⟩ = some (.string body) ∧ Below w.heap.size w w' ∧ w.heap.size < w'.heap.size) := hH
  clear hH hb1
  rw [← Hrs.out]
  clear hb0
  go_wp2
  go_region_held3 (fun wx => wx.cell? ⟨w.heap.size, 0, none⟩ = some (.int .i64 src) ∧ wx.cell? ⟨w.heap.size, 1, none⟩ = some (.int .i64 dst) ∧ wx.cell? ⟨w.heap.size, 2, none⟩ = some (.int .i64 pro) ∧ wx.cell? ⟨w.heap.size, 3, none⟩ = some (.int .i64 ttl) ∧ wx.cell? ⟨w.heap.size, 4, none⟩ = some (.int .i64 idn) ∧ wx.cell? ⟨w.heap.size, 5, none⟩ = some (.string body) ∧ Below w.heap.size w wx ∧ w.heap.size < wx.heap.size)
    (first | exact ⟨X2.out.1, X2.out.2.1, X2.out.2.2.1, X2.out.2.2.2.1, X2.out.2.2.2.2.1, X2.out.2.2.2.2.2.1, (X2.out.2.2.2.2.2.2.1).drew, X2.out.2.2.2.2.2.2.2⟩ | assumption | exact (And.imp (keep_c hb1) (And.imp (keep_c hb1) (And.imp (keep_c hb1) (And.imp (keep_c hb1) (And.imp (keep_c hb1) (And.imp (keep_c hb1) (keep_bs hb1))))))) (by assumption))
    (first | (go_at_call 72; with_reducible refine (HSUM.out _).mono ?_; rintro e w' ⟨rfl, rfl⟩) | (go_at_call 67; with_reducible refine (HN7.out _).mono ?_; rintro e w' ⟨rfl, hb1⟩))
  rename_i hH
  have X3 : Hid (w'.cell? ⟨w.heap.size, 0, none⟩ = some (.int .i64 src) ∧ w'.cell? ⟨w.heap.size, 1, none⟩ = some (.int .i64 dst) ∧ w'.cell? ⟨w.heap.size, 2, none⟩ = some (.int .i64 pro) ∧ w'.cell? ⟨w.heap.size, 3, none⟩ = some (.int .i64 ttl) ∧ w'.cell? ⟨w.heap.size, 4, none⟩ = some (.int .i64 idn) ∧ w'.cell? ⟨w.heap.size, 5, none⟩ = some (.string body) ∧ Below w.heap.size w w' ∧ w.heap.size < w'.heap.size) := hH
  clear hH hb1
  go_wp2
  go_ret
  refine ⟨⟨_, rfl, ?_⟩, X3.out.2.2.2.2.2.2.1⟩
  simp only [nums_append]
  rw [Ehd.out, Ers.out, EN7.out, HSM.out, packetL]
end Go.Proofs.Ytmhlanbmlkidhaa
