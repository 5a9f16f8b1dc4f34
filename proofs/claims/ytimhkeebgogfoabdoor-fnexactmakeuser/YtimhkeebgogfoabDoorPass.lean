/- PassHash, the program's and the model's; the walk of its law. -/
import Derived.Test.YtimhkeebgogfoabDoorLawHash
namespace Go.Proofs.YtimhkeebgogfoabDoor
open Go.RowKit Go.PlainAid
set_option linter.unusedVariables false
set_option maxRecDepth 20000

/-- A text's hash. -/
def hashS (s : ByteArray) : ByteArray := hashF (bt s) s.size
theorem hashS_size (s : ByteArray) : (hashS s).size = 32 := hashF_size _ _
/-- The hash of a word by a salt, hashed again k times. -/
def passS (salt word : ByteArray) : Nat → ByteArray
  | 0 => hashS (salt ++ ⟨#[0]⟩ ++ word)
  | k + 1 => hashS (salt ++ passS salt word k)
theorem passS_size (salt word : ByteArray) : ∀ k, (passS salt word k).size = 32
  | 0 => hashS_size _
  | k + 1 => hashS_size _
theorem conv_b (w : World) (s : ByteArray) (hs : s.size ≤ 1000000) : ∃ cap w', (convert 9 37 (.string s)).run Tryd.prog w = .ok (.slice (some ⟨w.heap.size, 0, none⟩) s.size cap) w' ∧ Below w.heap.size w w' ∧ w'.heap.size = w.heap.size + 1 ∧ Bytes w' (some ⟨w.heap.size, 0, none⟩) s.size (bt s) ∧ s.size ≤ cap ∧ cap ≤ 9223372036854775807 := by
  have r := Go.Lib.run_convert_string_bytes (P := Tryd.prog) w 9 37 5 s Tryd.underlying9 Tryd.underlying37 Tryd.underlying5
  obtain ⟨cap, w', h1, h2, h3, -, h5⟩ := conv_bytes (P := Tryd.prog) w 9 37 5 s Tryd.underlying9 Tryd.underlying37 Tryd.underlying5
  have e := h1.symm.trans r
  injection e with e1 e2
  injection e1 with _ _ e3
  have g1 := grownCap_ge w s.size 0 5
  have g2 := grownCap_le_maxLen w s.size 0 5 (by unfold maxLen; omega)
  unfold maxLen at g2
  exact ⟨cap, w', h1, h2, h3, ⟨fun k => ⟨bt_nonneg s k, bt_le s k⟩, fun _ => ⟨w.heap.size, 0, rfl, fun i hi => by rw [Nat.zero_add]; exact h5 i hi⟩⟩, by omega, by omega⟩
set_option maxHeartbeats 1000000 in
theorem l04Pass_any (salt word : ByteArray) (n : Nat) (w : World) (hs : salt.size ≤ 40) (hw : word.size ≤ 40) (hn : n ≤ 20) :
    Calls Tryd.prog 14 #[.string salt, .string word, .int .i64 n] w fun e w' => e = .returned (.string (passS salt word n)) ∧ Below w.heap.size w w' := by
  have HC : Hid (∀ (s : ByteArray) (cap b : Nat) (wx : World), s.size ≤ 200 → Bytes wx (some ⟨b, 0, none⟩) s.size (bt s) → b < wx.heap.size → s.size ≤ cap → cap ≤ 9223372036854775807 → Below w.heap.size w wx → Calls Tryd.prog 20 #[.slice (some ⟨b, 0, none⟩) s.size cap] wx fun e w' => e = .returned (.string (hashS s)) ∧ Below wx.heap.size wx w') := fun s cap b wx h1 h2 h3 h4 h5 h6 => l04Hash_any (some ⟨b, 0, none⟩) s.size cap (bt s) wx h2 (by omega) (fun h => by cases h) (fun b' o' _ hy => by cases hy; exact h3)
  obtain ⟨U, hU⟩ : ∃ U, U = salt ++ ⟨#[0]⟩ ++ word := ⟨_, rfl⟩
  have su : U.size ≤ 81 := by rw [hU, ByteArray.size_append, ByteArray.size_append]; show salt.size + 1 + word.size ≤ 81; omega
  obtain ⟨cap0, w0, hc0, b0, z0, y0, p0, q0⟩ := conv_b w U (by omega)
  have B0 : Hid (Below w.heap.size w w0) := b0
  have Y0 : Hid (Bytes w0 (some ⟨w.heap.size, 0, none⟩) U.size (bt U)) := y0
  have HU : Hid (hashS U = passS salt word 0) := by show _ = _; rw [hU]; rfl
  clear b0 y0
  have lz : w.heap.size < w0.heap.size := by omega
  have HX : Hid (Calls Tryd.prog 20 #[.slice (some ⟨w.heap.size, 0, none⟩) U.size cap0] w0 fun e w' => e = .returned (.string (passS salt word 0)) ∧ Below w0.heap.size w0 w') := by rw [← HU.out]; exact HC.out U cap0 w.heap.size w0 (by omega) Y0.out lz p0 q0 B0.out
  obtain ⟨m0, hm0⟩ : ∃ m, m = U.size := ⟨_, rfl⟩
  rw [← hm0] at hc0 HX
  rw [hU] at hc0
  clear hm0 p0
  clear hU Y0
  go_enter Tryd.func14, Tryd.ntmps14
  go_wp2_with (go_at_call 20; (refine HX.out.mono ?_); rintro e w1 ⟨rfl, b1⟩; have B1 : Hid (Below w.heap.size w w1) := B0.out.trans (b1.mono B0.out.size); clear b1 B0 HX hc0)
  obtain ⟨S1, hS1⟩ : ∃ S, S = salt ++ ⟨#[0]⟩ := ⟨_, rfl⟩
  rw [← hS1]
  obtain ⟨S2, hS2⟩ : ∃ S, S = S1 ++ word := ⟨_, rfl⟩
  rw [← hS2]
  clear hS1 hS2
  go_loopw [7, 8] (fun h i wr => ∃ k : Nat, k ≤ n ∧ i = .int .i64 k ∧ h = .string (passS salt word k) ∧ Hid (Below w.heap.size w wr)) (fun _ i _ => n - (intOf i).toNat)
  case atStart => exact ⟨0, Nat.zero_le _, rfl, rfl, B1⟩
  case round =>
    clear B1
    obtain ⟨k, hk, rfl, rfl, B⟩ := hrel
    by_cases hlt : k < n
    · obtain ⟨P, hP⟩ : ∃ P, P = passS salt word k := ⟨_, rfl⟩
      have sp : P.size ≤ 32 := by rw [hP]; exact Nat.le_of_eq (passS_size _ _ _)
      have HQ : Hid (hashS (salt ++ P) = passS salt word (k + 1)) := by show _ = _; rw [hP]; rfl
      rw [← hP]
      obtain ⟨U, hU⟩ : ∃ U, U = salt ++ P := ⟨_, rfl⟩
      have su : U.size ≤ 81 := by rw [hU, ByteArray.size_append]; omega
      obtain ⟨cap2, w2, hc2, b2, z2, y2, p2, q2⟩ := conv_b wr U (by omega)
      have B2 : Hid (Below w.heap.size w w2) := B.out.trans (b2.mono B.out.size)
      have HX : Hid (Calls Tryd.prog 20 #[.slice (some ⟨wr.heap.size, 0, none⟩) U.size cap2] w2 fun e w' => e = .returned (.string (passS salt word (k + 1))) ∧ Below w2.heap.size w2 w') := by rw [← HQ.out, ← hU]; exact HC.out U cap2 wr.heap.size w2 (by omega) y2 (by omega) p2 q2 B2.out
      obtain ⟨m2, hm2⟩ : ∃ m, m = U.size := ⟨_, rfl⟩
      rw [← hm2] at hc2 HX
      rw [hU] at hc2
      clear hm2 p2
      clear hU b2 y2 B su hP HQ
      go_wp2_with (go_at_call 20; (refine HX.out.mono ?_); rintro e w3 ⟨rfl, b3⟩; have B3 : Hid (Below w.heap.size w w3) := B2.out.trans (b3.mono B2.out.size); clear b3 B2 HX hc2)
      go_roundw
      case rel => exact ⟨k + 1, by omega, by go_num, rfl, B3⟩
      case measure => (simp [intOf]; try omega)
    · have ek : k = n := by omega
      subst ek
      go_wp2
      go_ret
      exact ⟨rfl, B.out⟩

set_option maxHeartbeats 1000000 in
theorem passHash_yes (salt word : ByteArray) (n : Nat) (w : World) (hK : KTab w) (hH : HTab w) (hs : salt.size ≤ 40) (hw : word.size ≤ 40) (hn : n ≤ 20) :
    Calls Tryd.prog 12 #[.string salt, .string word, .int .i64 n] w fun e w' => e = .returned (.tuple #[.string (passS salt word n), .int .i64 0]) ∧ Below w.heap.size w w' := by
  have HT : Hid (KTab w ∧ HTab w) := ⟨hK, hH⟩
  clear hK hH
  have HC : Hid (∀ (s : ByteArray) (cap b : Nat) (wx : World), s.size ≤ 200 → Bytes wx (some ⟨b, 0, none⟩) s.size (bt s) → b < wx.heap.size → s.size ≤ cap → cap ≤ 9223372036854775807 → Below w.heap.size w wx → Calls Tryd.prog 18 #[.slice (some ⟨b, 0, none⟩) s.size cap] wx fun e w' => e = .returned (.string (hashS s)) ∧ Below wx.heap.size wx w') := fun s cap b wx h1 h2 h3 h4 h5 h6 => hash_some b 0 s.size cap (bt s) wx (HT.out.1.below h6) (HT.out.2.below h6) h2 h3 (by omega) h4 h5
  obtain ⟨U, hU⟩ : ∃ U, U = salt ++ ⟨#[0]⟩ ++ word := ⟨_, rfl⟩
  have su : U.size ≤ 81 := by rw [hU, ByteArray.size_append, ByteArray.size_append]; show salt.size + 1 + word.size ≤ 81; omega
  obtain ⟨cap0, w0, hc0, b0, z0, y0, p0, q0⟩ := conv_b w U (by omega)
  have B0 : Hid (Below w.heap.size w w0) := b0
  have Y0 : Hid (Bytes w0 (some ⟨w.heap.size, 0, none⟩) U.size (bt U)) := y0
  have HU : Hid (hashS U = passS salt word 0) := by show _ = _; rw [hU]; rfl
  clear b0 y0
  have lz : w.heap.size < w0.heap.size := by omega
  have HX : Hid (Calls Tryd.prog 18 #[.slice (some ⟨w.heap.size, 0, none⟩) U.size cap0] w0 fun e w' => e = .returned (.string (passS salt word 0)) ∧ Below w0.heap.size w0 w') := by rw [← HU.out]; exact HC.out U cap0 w.heap.size w0 (by omega) Y0.out lz p0 q0 B0.out
  obtain ⟨m0, hm0⟩ : ∃ m, m = U.size := ⟨_, rfl⟩
  rw [← hm0] at hc0 HX
  rw [hU] at hc0
  clear hm0 p0
  clear hU Y0
  go_enter Tryd.func12, Tryd.ntmps12
  go_wp2_with (go_at_call 18; (refine HX.out.mono ?_); rintro e w1 ⟨rfl, b1⟩; have B1 : Hid (Below w.heap.size w w1) := B0.out.trans (b1.mono B0.out.size); clear b1 B0 HX hc0)
  obtain ⟨S1, hS1⟩ : ∃ S, S = salt ++ ⟨#[0]⟩ := ⟨_, rfl⟩
  rw [← hS1]
  obtain ⟨S2, hS2⟩ : ∃ S, S = S1 ++ word := ⟨_, rfl⟩
  rw [← hS2]
  clear hS1 hS2
  go_loopw [8, 40] (fun h i wr => ∃ k : Nat, k ≤ n ∧ i = .int .i64 k ∧ h = .string (passS salt word k) ∧ Hid (Below w.heap.size w wr)) (fun _ i _ => n - (intOf i).toNat)
  case atStart => exact ⟨0, Nat.zero_le _, rfl, rfl, B1⟩
  case round =>
    clear B1
    obtain ⟨k, hk, rfl, rfl, B⟩ := hrel
    by_cases hlt : k < n
    · obtain ⟨P, hP⟩ : ∃ P, P = passS salt word k := ⟨_, rfl⟩
      have sp : P.size ≤ 32 := by rw [hP]; exact Nat.le_of_eq (passS_size _ _ _)
      have HQ : Hid (hashS (salt ++ P) = passS salt word (k + 1)) := by show _ = _; rw [hP]; rfl
      rw [← hP]
      obtain ⟨U, hU⟩ : ∃ U, U = salt ++ P := ⟨_, rfl⟩
      have su : U.size ≤ 81 := by rw [hU, ByteArray.size_append]; omega
      obtain ⟨cap2, w2, hc2, b2, z2, y2, p2, q2⟩ := conv_b wr U (by omega)
      have B2 : Hid (Below w.heap.size w w2) := B.out.trans (b2.mono B.out.size)
      have HX : Hid (Calls Tryd.prog 18 #[.slice (some ⟨wr.heap.size, 0, none⟩) U.size cap2] w2 fun e w' => e = .returned (.string (passS salt word (k + 1))) ∧ Below w2.heap.size w2 w') := by rw [← HQ.out, ← hU]; exact HC.out U cap2 wr.heap.size w2 (by omega) y2 (by omega) p2 q2 B2.out
      obtain ⟨m2, hm2⟩ : ∃ m, m = U.size := ⟨_, rfl⟩
      rw [← hm2] at hc2 HX
      rw [hU] at hc2
      clear hm2 p2
      clear hU b2 y2 B su hP HQ
      go_wp2_with (go_at_call 18; (refine HX.out.mono ?_); rintro e w3 ⟨rfl, b3⟩; have B3 : Hid (Below w.heap.size w w3) := B2.out.trans (b3.mono B2.out.size); clear b3 B2 HX hc2)
      go_roundw
      case rel => exact ⟨k + 1, by omega, by go_num, rfl, B3⟩
      case measure => (simp [intOf]; try omega)
    · have ek : k = n := by omega
      subst ek
      go_wp2
      go_ret2
      exact ⟨rfl, B.out⟩

theorem passHash_long (salt word : ByteArray) (n : Int) (w : World) (h : 65536 < salt.size ∨ 65536 < word.size) (h1 : salt.size ≤ 9223372036854775807) (h2 : word.size ≤ 9223372036854775807) :
    Calls Tryd.prog 12 #[.string salt, .string word, .int .i64 n] w fun e w' => e = .returned (.tuple #[.string ⟨#[]⟩, .int .i64 2]) ∧ w' = w := by
  by_cases hs : 65536 < salt.size
  · go_enter Tryd.func12, Tryd.ntmps12
    go_wp2
    go_ret2
    exact ⟨rfl, rfl⟩
  · have hw : 65536 < word.size := by omega
    go_enter Tryd.func12, Tryd.ntmps12
    go_wp2
    go_ret2
    exact ⟨rfl, rfl⟩
theorem passHash_no (salt word : ByteArray) (n : Int) (w : World) (h1 : salt.size ≤ 65536) (h2 : word.size ≤ 65536) (h : 40 < salt.size ∨ 40 < word.size ∨ n < 0 ∨ 20 < n) :
    Calls Tryd.prog 12 #[.string salt, .string word, .int .i64 n] w fun e w' => e = .returned (.tuple #[.string ⟨#[]⟩, .int .i64 4]) ∧ w' = w := by
  by_cases hs : 40 < salt.size
  · go_enter Tryd.func12, Tryd.ntmps12
    go_wp2
    go_ret2
    exact ⟨rfl, rfl⟩
  by_cases hw : 40 < word.size
  · go_enter Tryd.func12, Tryd.ntmps12
    go_wp2
    go_ret2
    exact ⟨rfl, rfl⟩
  by_cases hn : n < 0
  · go_enter Tryd.func12, Tryd.ntmps12
    go_wp2
    go_ret2
    exact ⟨rfl, rfl⟩
  · have hm : 20 < n := by omega
    go_enter Tryd.func12, Tryd.ntmps12
    go_wp2
    go_ret2
    exact ⟨rfl, rfl⟩
end Go.Proofs.YtimhkeebgogfoabDoor
