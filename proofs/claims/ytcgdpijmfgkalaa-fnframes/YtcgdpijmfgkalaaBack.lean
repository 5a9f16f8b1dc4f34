/- Frames and questions for macs are read back from their bytes, as lists of numbers; what is drawn of a code. -/
import Derived.Test.YtcgdpijmfgkalaaReadF2
import Derived.Test.YtcgdpijmfgkalaaReadA
import Derived.Test.YtcgdpijmfgkalaaSpecTops
import Derived.Test.YtcgdpijmfgkalaaDrawF
import Derived.Test.YtcgdpijmfgkalaaLists2
namespace Go.Proofs.Ytcgdpijmfgkalaa
open Go.RowKit Go.PlainAid
set_option linter.unusedVariables false
set_option maxRecDepth 20000

/-! ### Frames -/
theorem frameL_len (d s b : ByteArray) (k : Int) (hd : d.size = 6) (hs : s.size = 6) : (frameL d s k b).length = 14 + b.size := by simp [frameL, nums_len, nbl_len, hd, hs]; omega
theorem frameL_bd (d s b : ByteArray) (k : Int) : ∀ x ∈ frameL d s k b, 0 ≤ x ∧ x ≤ 255 := by
  intro x hx
  simp only [frameL, List.mem_append] at hx
  rcases hx with ((h | h) | h) | h
  · exact nums_bd _ x h
  · exact nums_bd _ x h
  · exact nbl_bd _ _ x h
  · exact nums_bd _ x h
theorem frame_parts (d s b : ByteArray) (k : Int) (hd : d.size = 6) (hs : s.size = 6) (hk : k = 2048 ∨ k = 2054) :
    ps (fun j => (frameL d s k b).getD j 0) 0 6 = d ∧ ps (fun j => (frameL d s k b).getD j 0) 6 6 = s ∧ pn (fun j => (frameL d s k b).getD j 0) 12 2 = k ∧ ps (fun j => (frameL d s k b).getD j 0) 14 b.size = b := by
  have hl := frameL_len d s b k hd hs
  have hb := frameL_bd d s b k
  have ld : (nums d).length = 6 := by rw [nums_len, hd]
  have ls : (nums s).length = 6 := by rw [nums_len, hs]
  have lk : (nbl k 2).length = 2 := nbl_len _ _
  have lb : (nums b).length = b.size := nums_len _
  refine ⟨ps_list _ hb 0 6 (by omega) d ?_, ps_list _ hb 6 6 (by omega) s ?_, ?_, ps_list _ hb 14 b.size (by omega) b ?_⟩
  · unfold frameL
    rw [List.drop_zero, List.append_assoc, List.append_assoc, List.take_left' ld]
  · unfold frameL
    rw [List.append_assoc, List.append_assoc, List.drop_left' ld, List.take_left' ls]
  · rw [pn_list _ 12 2 (by omega) k ?_, num2 k (by omega) (by omega)]
    unfold frameL
    rw [List.append_assoc, List.drop_left' (by simp [ld, ls]), List.take_left' lk]
  · unfold frameL
    rw [List.drop_left' (by simp [ld, ls, lk]), List.take_of_length_le (by omega)]

/-! ### Questions for macs -/
theorem arp_parts (op : Int) (sm dm : ByteArray) (si di : Int) (ho : 1 ≤ op ∧ op ≤ 2) (hsm : sm.size = 6) (hdm : dm.size = 6) (hsi : 0 ≤ si ∧ si ≤ 4294967295) (hdi : 0 ≤ di ∧ di ≤ 4294967295) :
    pn (fun j => (arpL op sm dm si di).getD j 0) 6 2 = op ∧ ps (fun j => (arpL op sm dm si di).getD j 0) 8 6 = sm ∧ ps (fun j => (arpL op sm dm si di).getD j 0) 18 6 = dm ∧ pn (fun j => (arpL op sm dm si di).getD j 0) 14 4 = si ∧ pn (fun j => (arpL op sm dm si di).getD j 0) 24 4 = di := by
  have hl := arpL_len op sm dm si di hsm hdm
  have hb := arpL_bd op sm dm si di
  have lh : arpH.length = 6 := rfl
  have lo : (nbl op 2).length = 2 := nbl_len _ _
  have lsm : (nums sm).length = 6 := by rw [nums_len, hsm]
  have lsi : (nbl si 4).length = 4 := nbl_len _ _
  have ldm : (nums dm).length = 6 := by rw [nums_len, hdm]
  have ldi : (nbl di 4).length = 4 := nbl_len _ _
  refine ⟨?_, ps_list _ hb 8 6 (by omega) sm ?_, ps_list _ hb 18 6 (by omega) dm ?_, ?_, ?_⟩
  · rw [pn_list _ 6 2 (by omega) op ?_, num2 op (by omega) (by omega)]
    unfold arpL
    rw [List.append_assoc, List.append_assoc, List.append_assoc, List.append_assoc, List.drop_left' lh, List.take_left' lo]
  · unfold arpL
    rw [List.append_assoc, List.append_assoc, List.append_assoc, List.drop_left' (by simp [lh, lo]), List.take_left' lsm]
  · unfold arpL
    rw [List.append_assoc, List.drop_left' (by simp [lh, lo, lsm, lsi]), List.take_left' ldm]
  · rw [pn_list _ 14 4 (by omega) si ?_, num4 si hsi.1 hsi.2]
    unfold arpL
    rw [List.append_assoc, List.append_assoc, List.drop_left' (by simp [lh, lo, lsm]), List.take_left' lsi]
  · rw [pn_list _ 24 4 (by omega) di ?_, num4 di hdi.1 hdi.2]
    unfold arpL
    rw [List.drop_left' (by simp [lh, lo, lsm, lsi, ldm]), List.take_of_length_le (by omega)]
theorem arp_begins (op : Int) (sm dm : ByteArray) (si di : Int) (hsm : sm.size = 6) (hdm : dm.size = 6) : arpBegins (fun j => (arpL op sm dm si di).getD j 0) = true := by
  have hl := arpL_len op sm dm si di hsm hdm
  have e : ps (fun j => (arpL op sm dm si di).getD j 0) 0 6 = ⟨#[0, 1, 8, 0, 6, 4]⟩ := ps_list _ (arpL_bd op sm dm si di) 0 6 (by omega) _ (by
    unfold arpL
    rw [List.drop_zero, List.append_assoc, List.append_assoc, List.append_assoc, List.append_assoc, List.take_left' (show arpH.length = 6 from rfl), arpH_nums])
  unfold arpBegins
  rw [e, ByteArray.toList_eq]
  rfl

/-! ### What is drawn of a code -/
theorem gr_below {w w1 w2 : World} (h : w.grownBy w1 none) (z : w1.heap.size = w.heap.size + 1) (g : w1.grownBy w2 (some w.heap.size)) : Below w.heap.size w w2 :=
  ((Below.refl w.heap.size w).grown h (Nat.le_refl _) (by simp)).grown g (by omega) (by intro k hk; cases hk; exact Nat.le_refl _)

set_option maxHeartbeats 400000 in
theorem FrameOf_any (w : World) (a : Option Addr) (len cap : Nat) (f : Nat → Int) (h : Bytes w a len f) (hl : len ≤ 1048576) (hlt : ∀ b off, 0 < len → a = some ⟨b, off, none⟩ → b < w.heap.size) :
    Calls Try.prog 7 #[.slice a len cap] w fun e w' => ∃ (d s : ByteArray) (k : Int) (b : ByteArray), e = .returned (.agg #[.string d, .string s, .int .i64 k, .string b]) ∧ Hid (d.size = 6 ∧ s.size = 6 ∧ (k = 2048 ∨ k = 2054) ∧ b.size ≤ 4) ∧ Hid (Below w.heap.size w w') := by
  obtain ⟨W, hW⟩ : ∃ W, W = w.alloc (.cells #[.string ⟨#[]⟩, .string ⟨#[]⟩, .int .i64 0, .string ⟨#[]⟩] 24) := ⟨_, rfl⟩
  have bW : Below w.heap.size w W := by rw [hW]; exact (Below.refl _ _).alloc (Nat.le_refl _) _
  have zW : Hid (W.heap.size = w.heap.size + 1) := by rw [hW]; show _ = _; simp
  have KS : Hid (Slots W w.heap.size [.string ⟨#[]⟩, .string ⟨#[]⟩, .int .i64 0, .string ⟨#[]⟩]) := by rw [hW]; exact Slots.new w _ _
  have HS : Hid (Calls Try.prog 25 #[.slice a len cap] W fun e w' => e = .returned (.pointer (some ⟨W.heap.size, 0, none⟩)) ∧ Src w' W.heap.size a len cap f 0 ∧ W.grownBy w' none ∧ w'.heap.size = W.heap.size + 1) := l00Source_any W a len cap f (h.below bW hlt) hl (fun b off h0 e => Nat.lt_of_lt_of_le (hlt b off h0 e) bW.size)
  have BW : Hid (Below w.heap.size w W) := bW
  clear h hlt bW
  go_enter Try.func7, Try.ntmps7
  go_wp2_with fail
  rw [← hW]
  refine HS.out.mono ?_
  rintro e w1 ⟨rfl, s1, g1, z1⟩
  have X : Hid (Src w1 W.heap.size a len cap f 0 ∧ W.grownBy w1 none ∧ w1.heap.size = W.heap.size + 1) := ⟨s1, g1, z1⟩
  clear s1 g1 z1 HS hW
  go_wp2_with fail
  refine (frameD w1 W.heap.size a len cap f X.out.1).mono ?_
  rintro e w2 ⟨d, s, k, b, rfl, hd, hs, hk, hb, g2⟩
  have HF : Hid (d.size = 6 ∧ s.size = 6 ∧ (k = 2048 ∨ k = 2054) ∧ b.size ≤ 4) := ⟨hd, hs, hk, hb⟩
  have B2 : Hid (Below W.heap.size W w2) := gr_below X.out.2.1 X.out.2.2 g2
  have K2 : Hid (Slots w2 w.heap.size [.string ⟨#[]⟩, .string ⟨#[]⟩, .int .i64 0, .string ⟨#[]⟩]) := KS.out.below B2.out (by have := zW.out; omega)
  have B3 : Hid (Below w.heap.size w w2) := BW.out.trans (B2.out.mono (by have := zW.out; omega))
  clear hd hs hk hb g2 X B2 KS
  have k0 := K2.out.1.at 0 _ rfl
  have y0 := K2.out.2 0
  have k1 := K2.out.1.at 1 _ rfl
  have y1 := K2.out.2 1
  have k2 := K2.out.1.at 2 _ rfl
  have y2 := K2.out.2 2
  have k3 := K2.out.1.at 3 _ rfl
  have y3 := K2.out.2 3
  go_wp2
  (try simp only [Exit.inBlock, Exit.then])
  refine bodyPost_ret (v := .agg #[.string d, .string s, .int .i64 k, .string b]) (by simp [results, Try.results7, go_sem, *]; try rfl) rfl ?_
  exact ⟨d, s, k, b, rfl, HF, (((B3.out.setCell (by simp) _).setCell (by simp) _).setCell (by simp) _).setCell (by simp) _⟩

set_option maxHeartbeats 400000 in
theorem ArpOf_any (w : World) (a : Option Addr) (len cap : Nat) (f : Nat → Int) (h : Bytes w a len f) (hl : len ≤ 1048576) (hlt : ∀ b off, 0 < len → a = some ⟨b, off, none⟩ → b < w.heap.size) :
    Calls Try.prog 11 #[.slice a len cap] w fun e w' => ∃ (op : Int) (sm dm : ByteArray) (si di : Int), e = .returned (.agg #[.int .i64 op, .string sm, .string dm, .int .i64 si, .int .i64 di]) ∧ Hid ((1 ≤ op ∧ op ≤ 2) ∧ sm.size = 6 ∧ dm.size = 6 ∧ (0 ≤ si ∧ si ≤ 4294967295) ∧ (0 ≤ di ∧ di ≤ 4294967295)) ∧ Hid (Below w.heap.size w w') := by
  obtain ⟨W, hW⟩ : ∃ W, W = w.alloc (.cells #[.int .i64 0, .string ⟨#[]⟩, .string ⟨#[]⟩, .int .i64 0, .int .i64 0] 31) := ⟨_, rfl⟩
  have bW : Below w.heap.size w W := by rw [hW]; exact (Below.refl _ _).alloc (Nat.le_refl _) _
  have zW : Hid (W.heap.size = w.heap.size + 1) := by rw [hW]; show _ = _; simp
  have KS : Hid (Slots W w.heap.size [.int .i64 0, .string ⟨#[]⟩, .string ⟨#[]⟩, .int .i64 0, .int .i64 0]) := by rw [hW]; exact Slots.new w _ _
  have HS : Hid (Calls Try.prog 25 #[.slice a len cap] W fun e w' => e = .returned (.pointer (some ⟨W.heap.size, 0, none⟩)) ∧ Src w' W.heap.size a len cap f 0 ∧ W.grownBy w' none ∧ w'.heap.size = W.heap.size + 1) := l00Source_any W a len cap f (h.below bW hlt) hl (fun b off h0 e => Nat.lt_of_lt_of_le (hlt b off h0 e) bW.size)
  have BW : Hid (Below w.heap.size w W) := bW
  clear h hlt bW
  go_enter Try.func11, Try.ntmps11
  go_wp2_with fail
  rw [← hW]
  refine HS.out.mono ?_
  rintro e w1 ⟨rfl, s1, g1, z1⟩
  have X : Hid (Src w1 W.heap.size a len cap f 0 ∧ W.grownBy w1 none ∧ w1.heap.size = W.heap.size + 1) := ⟨s1, g1, z1⟩
  clear s1 g1 z1 HS hW
  go_wp2_with fail
  refine (arpD w1 W.heap.size a len cap f X.out.1).mono ?_
  rintro e w2 ⟨op, sm, dm, si, di, rfl, ho, hsm, hdm, hsi, hdi, g2⟩
  have HF : Hid ((1 ≤ op ∧ op ≤ 2) ∧ sm.size = 6 ∧ dm.size = 6 ∧ (0 ≤ si ∧ si ≤ 4294967295) ∧ (0 ≤ di ∧ di ≤ 4294967295)) := ⟨ho, hsm, hdm, hsi, hdi⟩
  have B2 : Hid (Below W.heap.size W w2) := gr_below X.out.2.1 X.out.2.2 g2
  have K2 : Hid (Slots w2 w.heap.size [.int .i64 0, .string ⟨#[]⟩, .string ⟨#[]⟩, .int .i64 0, .int .i64 0]) := KS.out.below B2.out (by have := zW.out; omega)
  have B3 : Hid (Below w.heap.size w w2) := BW.out.trans (B2.out.mono (by have := zW.out; omega))
  clear ho hsm hdm hsi hdi g2 X B2 KS
  have k0 := K2.out.1.at 0 _ rfl
  have y0 := K2.out.2 0
  have k1 := K2.out.1.at 1 _ rfl
  have y1 := K2.out.2 1
  have k2 := K2.out.1.at 2 _ rfl
  have y2 := K2.out.2 2
  have k3 := K2.out.1.at 3 _ rfl
  have y3 := K2.out.2 3
  have k4 := K2.out.1.at 4 _ rfl
  have y4 := K2.out.2 4
  go_wp2
  (try simp only [Exit.inBlock, Exit.then])
  refine bodyPost_ret (v := .agg #[.int .i64 op, .string sm, .string dm, .int .i64 si, .int .i64 di]) (by simp [results, Try.results11, go_sem, *]; try rfl) rfl ?_
  exact ⟨op, sm, dm, si, di, rfl, HF, ((((B3.out.setCell (by simp) _).setCell (by simp) _).setCell (by simp) _).setCell (by simp) _).setCell (by simp) _⟩
end Go.Proofs.Ytcgdpijmfgkalaa
