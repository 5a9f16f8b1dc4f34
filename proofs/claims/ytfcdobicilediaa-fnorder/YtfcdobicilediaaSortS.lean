/- SortWords, the model's: too long a list, a wrong word, too many. -/
import Derived.Test.YtfcdobicilediaaSortN
import Derived.Test.YtfcdobicilediaaWordS
namespace Go.Proofs.Ytfcdobicilediaa
open Go.Shelf Go.RowKit Go.PlainAid Go.Lib Go.Sort Go.Proofs Go.Proofs.Ytfcdobicilediaa.Fo
set_option linter.unusedVariables false
set_option maxRecDepth 20000

theorem sSort_long (a : Option Addr) (len cap : Nat) (w : World) (hbig : 4096 < len) (hlm : len ≤ 1048576) :
    Calls Try.prog 20 #[.slice a len cap] w fun e w' => ∃ v, e = .returned (.tuple #[v, .int .i64 2]) ∧ OwnP 48 w' w.heap.size v [] ∧ Below w.heap.size w w' := by
  go_enter Try.func20, Try.ntmps20
  go_wp2
  go_ret2
  exact ⟨_, rfl, World.ownsRow_lit w #[] 0 (Nat.le_refl _) (Nat.zero_le _) rfl, (Below.refl _ _).alloc (Nat.le_refl _) _⟩

set_option maxHeartbeats 2000000 in
theorem sSort_wrong (a : Option Addr) (cap m : Nat) (zs : List (Int × Int)) (w : World) (h : Prs w a zs) (hl : zs.length ≤ 4096) (hm : m < zs.length) (hok : okTo zs m) (hno : ¬ okW (zs.getD m (0, 0)).1 (zs.getD m (0, 0)).2) :
    Calls Try.prog 20 #[.slice a zs.length cap] w fun e w' => ∃ v, e = .returned (.tuple #[v, .int .i64 1]) ∧ OwnP 48 w' w.heap.size v [] ∧ Below w.heap.size w w' := by
  have H : Hid (Prs w a zs) := h
  have HO : Hid (okTo zs m) := hok
  have HX : Hid (¬ okW (zs.getD m (0, 0)).1 (zs.getD m (0, 0)).2) := hno
  have HW : Hid (∀ x y wx, Calls Try.prog 56 #[.agg #[.int .i64 x, .int .i64 y]] wx fun e w' => e = .returned (.bool (dec (okW x y))) ∧ Grw wx w') := fun x y wx => sWord_any x y wx
  clear h hok hno
  obtain ⟨n, hn⟩ : ∃ n, n = zs.length := ⟨_, rfl⟩
  have HN : Hid (n = zs.length) := hn
  rw [← hn] at hl hm ⊢
  clear hn
  go_enter Try.func20, Try.ntmps20
  go_wp2
  go_loopw [4] (fun i wr => ∃ k : Nat, k ≤ m ∧ i = .int .i64 k ∧ Hid (Grw w wr)) (fun i _ => n - (intOf i).toNat)
  case atStart => exact ⟨0, Nat.zero_le _, rfl, Grw.refl w⟩
  case round =>
    obtain ⟨k, hk, rfl, HG⟩ := hrel
    obtain ⟨b, off, rfl, hb, p0, p1⟩ := H.out.cells HG.out.below (k := k) (by rw [← HN.out]; omega)
    have hltz : (k : Int) < (n : Int) := by omega
    by_cases hlt : k < m
    · have hokk := HO.out k hlt
      generalize (zs.getD k (0, 0)).1 = x0 at p0 hokk
      generalize (zs.getD k (0, 0)).2 = x1 at p1 hokk
      have HW1 : Hid (∀ wx, Calls Try.prog 56 #[.agg #[.int .i64 x0, .int .i64 x1]] wx fun e w' => e = .returned (.bool true) ∧ Grw wx w') := fun wx => by
        have := HW.out x0 x1 wx
        rw [dec_y hokk] at this
        exact this
      clear hokk
      go_wp2_with fail
      refine (HW1.out _).mono ?_
      rintro e w1 ⟨rfl, g1⟩
      have HG2 : Hid (Grw w w1) := HG.out.trans g1
      clear g1 p0 p1 HG HW1
      go_wp2
      go_roundw
      case rel => exact ⟨k + 1, by omega, by go_num, HG2⟩
      case measure => simp [intOf]; omega
    · obtain rfl : k = m := by omega
      have hokk := HX.out
      generalize (zs.getD k (0, 0)).1 = x0 at p0 hokk
      generalize (zs.getD k (0, 0)).2 = x1 at p1 hokk
      have HW1 : Hid (∀ wx, Calls Try.prog 56 #[.agg #[.int .i64 x0, .int .i64 x1]] wx fun e w' => e = .returned (.bool false) ∧ Grw wx w') := fun wx => by
        have := HW.out x0 x1 wx
        rw [dec_n hokk] at this
        exact this
      clear hokk HX
      go_wp2_with fail
      refine (HW1.out _).mono ?_
      rintro e w1 ⟨rfl, g1⟩
      have HG2 : Hid (Grw w w1) := HG.out.trans g1
      clear g1 p0 p1 HG HW1
      go_wp2
      go_ret2
      exact ⟨_, rfl, World.ownsRow_lit w1 #[] 0 HG2.out.below.size (Nat.zero_le _) rfl, HG2.out.below.alloc HG2.out.below.size _⟩

set_option maxHeartbeats 2000000 in
theorem sSort_many (a : Option Addr) (cap : Nat) (zs : List (Int × Int)) (w : World) (h : Prs w a zs) (hl : zs.length ≤ 4096) (h1 : 100 < zs.length) (hok : okTo zs zs.length) :
    Calls Try.prog 20 #[.slice a zs.length cap] w fun e w' => ∃ v, e = .returned (.tuple #[v, .int .i64 6]) ∧ OwnP 48 w' w.heap.size v [] ∧ Below w.heap.size w w' := by
  have H : Hid (Prs w a zs) := h
  have HO : Hid (okTo zs zs.length) := hok
  have HW : Hid (∀ x y wx, Calls Try.prog 56 #[.agg #[.int .i64 x, .int .i64 y]] wx fun e w' => e = .returned (.bool (dec (okW x y))) ∧ Grw wx w') := fun x y wx => sWord_any x y wx
  clear h hok
  obtain ⟨n, hn⟩ : ∃ n, n = zs.length := ⟨_, rfl⟩
  have HN : Hid (n = zs.length) := hn
  rw [← hn] at hl h1 ⊢
  clear hn
  go_enter Try.func20, Try.ntmps20
  go_wp2
  go_loopw [4] (fun i wr => ∃ k : Nat, k ≤ n ∧ i = .int .i64 k ∧ Hid (Grw w wr)) (fun i _ => n - (intOf i).toNat)
  case atStart => exact ⟨0, Nat.zero_le _, rfl, Grw.refl w⟩
  case round =>
    obtain ⟨k, hk, rfl, HG⟩ := hrel
    by_cases hlt : k < n
    · obtain ⟨b, off, rfl, hb, p0, p1⟩ := H.out.cells HG.out.below (k := k) (by rw [← HN.out]; exact hlt)
      have hltz : (k : Int) < (n : Int) := by omega
      have hokk := HO.out k (by rw [← HN.out]; exact hlt)
      generalize (zs.getD k (0, 0)).1 = x0 at p0 hokk
      generalize (zs.getD k (0, 0)).2 = x1 at p1 hokk
      have HW1 : Hid (∀ wx, Calls Try.prog 56 #[.agg #[.int .i64 x0, .int .i64 x1]] wx fun e w' => e = .returned (.bool true) ∧ Grw wx w') := fun wx => by
        have := HW.out x0 x1 wx
        rw [dec_y hokk] at this
        exact this
      clear hokk
      go_wp2_with fail
      refine (HW1.out _).mono ?_
      rintro e w1 ⟨rfl, g1⟩
      have HG2 : Hid (Grw w w1) := HG.out.trans g1
      clear g1 p0 p1 HG HW1
      go_wp2
      go_roundw
      case rel => exact ⟨k + 1, by omega, by go_num, HG2⟩
      case measure => simp [intOf]; omega
    · obtain rfl : k = n := by omega
      go_wp2
      go_ret2
      exact ⟨_, rfl, World.ownsRow_lit wr #[] 0 HG.out.below.size (Nat.zero_le _) rfl, HG.out.below.alloc HG.out.below.size _⟩
end Go.Proofs.Ytfcdobicilediaa
