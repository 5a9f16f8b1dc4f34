/- Check32, the program's and the model's: the sum of zip files; the walk of its law, where the table lies in its variable. -/
import Derived.Test.YtmhlanbmlkidhaaDoorProg
import Derived.Test.YtmhlanbmlkidhaaDoorCrcM
import Derived.Test.YtmhlanbmlkidhaaDoorBits
import Derived.Test.YtmhlanbmlkidhaaDoorLawCheck16
namespace Go.Proofs.YtmhlanbmlkidhaaDoor
open Go.RowKit Go.PlainAid
set_option linter.unusedVariables false
set_option maxRecDepth 20000

/-- The table lies in its variable. -/
def CTab (w : World) : Prop := ∀ i, i < 16 → w.cell? ⟨1, i, none⟩ = some (.int .u32 ((ctab.getD i 0 : Nat) : Int))

theorem l04Check_any (a : Option Addr) (len cap : Nat) (f : Nat → Int) (w : World) (h : Bytes w a len f) (hlen : len ≤ 1048576) :
    Calls Tryd.prog 65 #[.slice a len cap] w fun e w' => e = .returned (.int .i64 (crcOf f len)) ∧ w' = w := by
  have hB : Hid (Bytes w a len f) := h
  have hf : Hid (∀ k, 0 ≤ f k ∧ f k ≤ 255) := h.1
  clear h
  go_enter Tryd.func65, Tryd.ntmps65
  go_wp2
  go_loopw [3, 4] (fun n i wr => ∃ k : Nat, k ≤ len ∧ i = .int .i64 k ∧ n = .int .i64 (crc f k : Nat) ∧ w = wr) (fun _ i _ => len - (intOf i).toNat)
  case atStart => exact ⟨0, Nat.zero_le _, rfl, rfl, rfl⟩
  case round =>
    obtain ⟨k, hk, rfl, rfl, hw⟩ := hrel
    subst hw
    have c0 := crc_lt f hf.out k
    by_cases hlt : k < len
    · obtain ⟨b, off, ha, hc⟩ := hB.out.2 (by omega)
      have hcell := hc k hlt
      clear hc
      have f0 := hf.out k
      obtain ⟨x, hx⟩ := Int.eq_ofNat_of_zero_le f0.1
      have hx1 : x < 256 := by omega
      have HX : Hid ((f k).toNat = x) := by show (f k).toNat = x; omega
      rw [hx] at hcell
      have e1 := Bt.xor_nat (crc f k) x (by omega) (by omega)
      obtain ⟨y, hy⟩ : ∃ y, y = crc f k ^^^ x := ⟨_, rfl⟩
      have y0 : y < 4294967296 := by rw [hy]; exact xor_lt32 c0 (by omega)
      have HY : Hid (crc f (k + 1) = cbs 8 y) := by
        show crc f (k + 1) = cbs 8 y
        rw [hy, crc, HX.out]
      rw [← hy] at e1
      subst ha
      clear hx f0 hy
      go_wp2
      go_loopw [3, 5] (fun n j wr => ∃ m : Nat, m ≤ 8 ∧ j = .int .i64 m ∧ n = .int .i64 (cbs m y : Nat) ∧ w = wr) (fun _ j _ => 8 - (intOf j).toNat)
      case atStart => exact ⟨0, Nat.zero_le _, rfl, rfl, rfl⟩
      case round =>
        obtain ⟨m, hm, rfl, rfl, hw⟩ := hrel
        subst hw
        clear e1
        have z0 := cbs_lt y0 m
        by_cases hm8 : m < 8
        · obtain ⟨z, hz⟩ : ∃ z, z = cbs m y := ⟨_, rfl⟩
          have HZ : Hid (cbs (m + 1) y = cb z) := by show cbs (m + 1) y = cb z; rw [cbs, hz]
          rw [← hz] at z0
          rw [← hz]
          clear hz
          by_cases hp : z % 2 = 1
          · have HC : Hid (cb z = z / 2 ^^^ 3988292384) := by show cb z = _; rw [cb, if_pos hp]
            have t1 : ((z : Int) % 2 == 1) = true := by simp; omega
            have t2 : Int.tmod (z : Int) 2 = (z : Int) % 2 := Int.tmod_eq_emod_of_nonneg (by omega)
            obtain ⟨q, hq⟩ : ∃ q, q = z / 2 := ⟨_, rfl⟩
            have t3 : Int.tdiv (z : Int) 2 = (q : Int) := by rw [Int.tdiv_eq_ediv_of_nonneg (by omega)]; omega
            have t4 : (z : Int) / 2 = (q : Int) := by omega
            rw [← hq] at HC
            have e2 : bits .xor .i64 (q : Int) 3988292384 = ((q ^^^ 3988292384 : Nat) : Int) := Bt.xor_nat q 3988292384 (by omega) (by omega)
            clear hp hq
            go_wp2
            go_roundw
            case rel => exact ⟨m + 1, by omega, by go_num, by rw [HZ.out, HC.out], by first | rfl | trivial⟩
            case measure => (simp [intOf]; try omega)
          · have HC : Hid (cb z = z / 2) := by show cb z = _; rw [cb, if_neg hp]
            have t1 : ((z : Int) % 2 == 1) = false := by simp; omega
            have t2 : Int.tmod (z : Int) 2 = (z : Int) % 2 := Int.tmod_eq_emod_of_nonneg (by omega)
            obtain ⟨q, hq⟩ : ∃ q, q = z / 2 := ⟨_, rfl⟩
            have t3 : Int.tdiv (z : Int) 2 = (q : Int) := by rw [Int.tdiv_eq_ediv_of_nonneg (by omega)]; omega
            have t4 : (z : Int) / 2 = (q : Int) := by omega
            rw [← hq] at HC
            clear hp hq
            go_wp2
            go_roundw
            case rel => exact ⟨m + 1, by omega, by go_num, by rw [HZ.out, HC.out], by first | rfl | trivial⟩
            case measure => (simp [intOf]; try omega)
        · have em : m = 8 := by omega
          subst em
          go_wp2
          go_roundw
          case rel => exact ⟨k + 1, by omega, by go_num, by rw [HY.out], by first | rfl | trivial⟩
          case measure => (simp [intOf]; try omega)
    · have ek : k = len := by omega
      subst ek
      have e1 : bits .xor .i64 ((crc f k : Nat) : Int) 4294967295 = ((crc f k ^^^ 4294967295 : Nat) : Int) := Bt.xor_nat (crc f k) 4294967295 (by omega) (by omega)
      have HE : Hid (crcOf f k = ((crc f k ^^^ 4294967295 : Nat) : Int)) := rfl
      go_wp2
      go_ret
      exact ⟨by rw [HE.out]; rfl, rfl⟩

theorem specCheck32_any (a : Option Addr) (len cap : Nat) (f : Nat → Int) (w : World) (h : Bytes w a len f) (hlen : len ≤ 65536) :
    Calls Tryd.prog 27 #[.slice a len cap] w fun e w' => e = .returned (.int .i64 (crcOf f len)) ∧ w' = w := by
  have hB : Hid (Bytes w a len f) := h
  clear h
  go_enter Tryd.func27, Tryd.ntmps27
  go_wp2_with fail
  refine (l04Check_any _ _ _ _ _ hB.out (by omega)).mono ?_
  rintro e w' ⟨rfl, hw⟩
  subst hw
  go_wp2
  go_ret
  exact ⟨rfl, rfl⟩
theorem specCheck32_long (a : Option Addr) (len cap : Nat) (w : World) (hlen : 65536 < len) :
    Calls Tryd.prog 27 #[.slice a len cap] w fun e w' => e = .returned (.int .i64 0) ∧ w' = w := by
  go_enter Tryd.func27, Tryd.ntmps27
  go_wp2
  go_ret
  exact ⟨rfl, rfl⟩
theorem check32_long (a : Option Addr) (len cap : Nat) (w : World) (hlen : 65536 < len) :
    Calls Tryd.prog 17 #[.slice a len cap] w fun e w' => e = .returned (.int .i64 0) ∧ w' = w := by
  go_enter Tryd.func17, Tryd.ntmps17
  go_wp2
  go_ret
  exact ⟨rfl, rfl⟩

/-- A step of four bits, as the program takes it. -/
theorem four (x : Nat) (h : x < 4294967296) : bits .xor .u32 ((x / 16 : Nat) : Int) ((ctab.getD (x % 16) 0 : Nat) : Int) = ((cbs 4 x : Nat) : Int) := by
  have ht : ∀ l : Fin 16, ctab.getD l.val 0 < 4294967296 := by decide
  rw [xor_u32 _ _ (by omega) (ht ⟨x % 16, Nat.mod_lt _ (by omega)⟩), cbs4_tab]

set_option maxHeartbeats 400000 in
theorem check32_any (a : Option Addr) (len cap : Nat) (f : Nat → Int) (w : World) (h : Bytes w a len f) (hlen : len ≤ 65536) (hT : CTab w) :
    Calls Tryd.prog 17 #[.slice a len cap] w fun e w' => e = .returned (.int .i64 (crcOf f len)) ∧ w' = w := by
  have hB : Hid (Bytes w a len f) := h
  have HT : Hid (CTab w) := hT
  have hf : Hid (∀ k, 0 ≤ f k ∧ f k ≤ 255) := h.1
  clear h hT
  go_enter Tryd.func17, Tryd.ntmps17
  go_wp2
  go_loopw [3, 10] (fun n i wr => ∃ k : Nat, k ≤ len ∧ i = .int .i64 k ∧ n = .int .u32 (crc f k : Nat) ∧ w = wr) (fun _ i _ => len - (intOf i).toNat)
  case atStart => exact ⟨0, Nat.zero_le _, rfl, rfl, rfl⟩
  case round =>
    obtain ⟨k, hk, rfl, rfl, hw⟩ := hrel
    subst hw
    have c0 := crc_lt f hf.out k
    by_cases hlt : k < len
    · obtain ⟨b, off, ha, hc⟩ := hB.out.2 (by omega)
      have hcell := hc k hlt
      clear hc
      have f0 := hf.out k
      obtain ⟨x, hx⟩ := Int.eq_ofNat_of_zero_le f0.1
      have hx1 : x < 256 := by omega
      have HX : Hid ((f k).toNat = x) := by show (f k).toNat = x; omega
      rw [hx] at hcell
      have e0 : IntKind.u32.wrap (x : Int) = x := by rw [IntKind.wrap_u32]; omega
      have e1 := xor_u32 (crc f k) x (by omega) (by omega)
      obtain ⟨y, hy⟩ : ∃ y, y = crc f k ^^^ x := ⟨_, rfl⟩
      have y0 : y < 4294967296 := by rw [hy]; exact xor_lt32 c0 (by omega)
      obtain ⟨z, hz⟩ : ∃ z, z = cbs 4 y := ⟨_, rfl⟩
      have z0 : z < 4294967296 := by rw [hz]; exact cbs_lt y0 4
      have HY : Hid (crc f (k + 1) = cbs 4 z) := by
        show crc f (k + 1) = cbs 4 z
        rw [hz, crc, HX.out, ← hy, ← cbs_add]
      rw [← hy] at e1
      have g1 := and15_u32 y y0
      have g3 := four y y0
      have g4 := HT.out (y % 16) (Nat.mod_lt _ (by omega))
      obtain ⟨qy, hqy⟩ : ∃ q, q = y / 16 := ⟨_, rfl⟩
      obtain ⟨ry, hry⟩ : ∃ r, r = y % 16 := ⟨_, rfl⟩
      have g2 : (y : Int) / 16 = (qy : Int) := by omega
      have g5 : ry < 16 := by omega
      rw [← hry] at g1 g3 g4
      rw [← hqy] at g3
      obtain ⟨ty, hty⟩ : ∃ t, t = ctab.getD ry 0 := ⟨_, rfl⟩
      rw [← hty] at g3 g4
      have k1 := and15_u32 z z0
      have k3 := four z z0
      have k4 := HT.out (z % 16) (Nat.mod_lt _ (by omega))
      obtain ⟨qz, hqz⟩ : ∃ q, q = z / 16 := ⟨_, rfl⟩
      obtain ⟨rz, hrz⟩ : ∃ r, r = z % 16 := ⟨_, rfl⟩
      have k2 : (z : Int) / 16 = (qz : Int) := by omega
      have k5 : rz < 16 := by omega
      rw [← hrz] at k1 k3 k4
      rw [← hqz] at k3
      obtain ⟨tz, htz⟩ : ∃ t, t = ctab.getD rz 0 := ⟨_, rfl⟩
      rw [← htz] at k3 k4
      rw [← hz] at g3
      subst ha
      clear hx f0 hy hz hqy hry hqz hrz hty htz
      go_wp2
      go_roundw
      case rel => exact ⟨k + 1, by omega, by go_num, by rw [HY.out], by first | rfl | trivial⟩
      case measure => (simp [intOf]; try omega)
    · have ek : k = len := by omega
      subst ek
      have e1 : bits .xor .u32 ((crc f k : Nat) : Int) 4294967295 = ((crc f k ^^^ 4294967295 : Nat) : Int) := xor_u32 (crc f k) 4294967295 (by omega) (by omega)
      have e2 : IntKind.i64.wrap ((crc f k ^^^ 4294967295 : Nat) : Int) = ((crc f k ^^^ 4294967295 : Nat) : Int) := by
        have := xor_lt32 c0 (show 4294967295 < 4294967296 by omega)
        rw [IntKind.wrap_i64]; omega
      have HE : Hid (crcOf f k = ((crc f k ^^^ 4294967295 : Nat) : Int)) := rfl
      go_wp2
      go_ret
      exact ⟨by rw [HE.out]; rfl, rfl⟩
end Go.Proofs.YtmhlanbmlkidhaaDoor
