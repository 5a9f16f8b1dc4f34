/- The model: the bytes of a question for a mac, of packets, segments and datagrams as strings. -/
import Derived.Test.YtcgdpijmfgkalaaArpB
import Derived.Test.YtcgdpijmfgkalaaEndsB
import Derived.Test.YtcgdpijmfgkalaaNumBytes
import Derived.Deep.RegionHeld3
namespace Go.Proofs.Ytcgdpijmfgkalaa
open Go.RowKit Go.PlainAid
set_option linter.unusedVariables false
set_option maxRecDepth 20000

set_option maxHeartbeats 4000000 in
theorem l02ArpBytes_any (op : Int) (sm : ByteArray) (dm : ByteArray) (si : Int) (di : Int) (w : World) (hs : sm.size = 6) (hd : dm.size = 6) (o0 : 0 ≤ op) (o1 : op ≤ 2) (s0 : 0 ≤ si) (s1 : si ≤ 4294967295) (d0 : 0 ≤ di) (d1 : di ≤ 4294967295) :
    Calls Try.prog 38 #[.agg #[.int .i64 op, .string sm, .string dm, .int .i64 si, .int .i64 di]] w fun e w' => (∃ t, e = .returned (.string t) ∧ nums t = arpL op sm dm si di) ∧ Below w.heap.size w w' := by
  obtain ⟨N1, hN1⟩ : ∃ s, s = strOf (nb op 2) 2 := ⟨_, rfl⟩
  have zN1 : N1.size = 2 := by rw [hN1]; exact strOf_size _ _
  have HN1 : Hid (∀ wx : World, Calls Try.prog 47 #[.int .i64 op, .int .i64 2] wx fun e w' => e = .returned (.string N1) ∧ Below wx.heap.size wx w') := fun wx => by rw [hN1]; exact l01Number_any op 2 wx (by omega) o0 (by omega)
  have EN1 : Hid (nums N1 = nbl op 2) := by show _ = _; rw [hN1]; exact nums_nb _ _
  clear hN1
  obtain ⟨N2, hN2⟩ : ∃ s, s = strOf (nb si 4) 4 := ⟨_, rfl⟩
  have zN2 : N2.size = 4 := by rw [hN2]; exact strOf_size _ _
  have HN2 : Hid (∀ wx : World, Calls Try.prog 47 #[.int .i64 si, .int .i64 4] wx fun e w' => e = .returned (.string N2) ∧ Below wx.heap.size wx w') := fun wx => by rw [hN2]; exact l01Number_any si 4 wx (by omega) s0 (by omega)
  have EN2 : Hid (nums N2 = nbl si 4) := by show _ = _; rw [hN2]; exact nums_nb _ _
  clear hN2
  obtain ⟨N3, hN3⟩ : ∃ s, s = strOf (nb di 4) 4 := ⟨_, rfl⟩
  have zN3 : N3.size = 4 := by rw [hN3]; exact strOf_size _ _
  have HN3 : Hid (∀ wx : World, Calls Try.prog 47 #[.int .i64 di, .int .i64 4] wx fun e w' => e = .returned (.string N3) ∧ Below wx.heap.size wx w') := fun wx => by rw [hN3]; exact l01Number_any di 4 wx (by omega) d0 (by omega)
  have EN3 : Hid (nums N3 = nbl di 4) := by show _ = _; rw [hN3]; exact nums_nb _ _
  clear hN3
  have c018064 : (⟨#[0, 1, 8, 0, 6, 4]⟩ : ByteArray).size = 6 := rfl
  have ha0 : ∀ wx : World, (Op.stringOp .add ((⟨#[0, 1, 8, 0, 6, 4]⟩ : ByteArray)) N1).run Try.prog wx = .ok (.string ((⟨#[0, 1, 8, 0, 6, 4]⟩ : ByteArray) ++ N1)) wx := fun wx => run_string_add_sum (P := Try.prog) (w := wx) _ _ (by (try simp only [ByteArray.size_append]); omega)
  have ha1 : ∀ wx : World, (Op.stringOp .add ((⟨#[0, 1, 8, 0, 6, 4]⟩ : ByteArray) ++ N1) sm).run Try.prog wx = .ok (.string ((⟨#[0, 1, 8, 0, 6, 4]⟩ : ByteArray) ++ N1 ++ sm)) wx := fun wx => run_string_add_sum (P := Try.prog) (w := wx) _ _ (by (try simp only [ByteArray.size_append]); omega)
  have ha2 : ∀ wx : World, (Op.stringOp .add ((⟨#[0, 1, 8, 0, 6, 4]⟩ : ByteArray) ++ N1 ++ sm) N2).run Try.prog wx = .ok (.string ((⟨#[0, 1, 8, 0, 6, 4]⟩ : ByteArray) ++ N1 ++ sm ++ N2)) wx := fun wx => run_string_add_sum (P := Try.prog) (w := wx) _ _ (by (try simp only [ByteArray.size_append]); omega)
  have ha3 : ∀ wx : World, (Op.stringOp .add ((⟨#[0, 1, 8, 0, 6, 4]⟩ : ByteArray) ++ N1 ++ sm ++ N2) dm).run Try.prog wx = .ok (.string ((⟨#[0, 1, 8, 0, 6, 4]⟩ : ByteArray) ++ N1 ++ sm ++ N2 ++ dm)) wx := fun wx => run_string_add_sum (P := Try.prog) (w := wx) _ _ (by (try simp only [ByteArray.size_append]); omega)
  have ha4 : ∀ wx : World, (Op.stringOp .add ((⟨#[0, 1, 8, 0, 6, 4]⟩ : ByteArray) ++ N1 ++ sm ++ N2 ++ dm) N3).run Try.prog wx = .ok (.string ((⟨#[0, 1, 8, 0, 6, 4]⟩ : ByteArray) ++ N1 ++ sm ++ N2 ++ dm ++ N3)) wx := fun wx => run_string_add_sum (P := Try.prog) (w := wx) _ _ (by (try simp only [ByteArray.size_append]); omega)
  have K0 : Hid (Boxed (w.alloc (.cells #[.int .i64 op, .string sm, .string dm, .int .i64 si, .int .i64 di] 31)) w.heap.size [.int .i64 op, .string sm, .string dm, .int .i64 si, .int .i64 di]) := Boxed.new w _ _
  go_enter Try.func38, Try.ntmps38
  go_wp2
  go_region_held3 (fun wx => wx.cell? ⟨w.heap.size, 0, none⟩ = some (.int .i64 op) ∧ wx.cell? ⟨w.heap.size, 1, none⟩ = some (.string sm) ∧ wx.cell? ⟨w.heap.size, 2, none⟩ = some (.string dm) ∧ wx.cell? ⟨w.heap.size, 3, none⟩ = some (.int .i64 si) ∧ wx.cell? ⟨w.heap.size, 4, none⟩ = some (.int .i64 di) ∧ Below w.heap.size w wx ∧ w.heap.size < wx.heap.size)
    (first | exact ⟨K0.out.at 0 _ rfl, K0.out.at 1 _ rfl, K0.out.at 2 _ rfl, K0.out.at 3 _ rfl, K0.out.at 4 _ rfl, ((Below.refl _ _).alloc (Nat.le_refl _) _).drew, by simp⟩ | assumption | exact (And.imp (keep_c hb1) (And.imp (keep_c hb1) (And.imp (keep_c hb1) (And.imp (keep_c hb1) (And.imp (keep_c hb1) (keep_bs hb1)))))) (by assumption))
    (first | (go_at_call 47; with_reducible refine (HN1.out _).mono ?_; rintro e w' ⟨rfl, hb1⟩) | (go_at_call 47; with_reducible refine (HN2.out _).mono ?_; rintro e w' ⟨rfl, hb1⟩) | (go_at_call 47; with_reducible refine (HN3.out _).mono ?_; rintro e w' ⟨rfl, hb1⟩))
  rename_i hH
  have X1 : Hid (w'.cell? ⟨w.heap.size, 0, none⟩ = some (.int .i64 op) ∧ w'.cell? ⟨w.heap.size, 1, none⟩ = some (.string sm) ∧ w'.cell? ⟨w.heap.size, 2, none⟩ = some (.string dm) ∧ w'.cell? ⟨w.heap.size, 3, none⟩ = some (.int .i64 si) ∧ w'.cell? ⟨w.heap.size, 4, none⟩ = some (.int .i64 di) ∧ Below w.heap.size w w' ∧ w.heap.size < w'.heap.size) := hH
  clear hH hb1
  go_wp2
  go_ret
  refine ⟨⟨_, rfl, ?_⟩, X1.out.2.2.2.2.2.1⟩
  simp only [nums_append]
  rw [EN1.out, EN2.out, EN3.out, arpH_nums, arpL]
end Go.Proofs.Ytcgdpijmfgkalaa
