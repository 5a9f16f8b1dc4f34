/- slices.SortStableFunc of fewer than 20 words by compareWords: the library's insertion sort. -/
import Derived.Test.YtfcdobicilediaaWordA
import Derived.Test.YtfcdobicilediaaStableO
import Derived.Test.YtfcdobicilediaaPairs2
import Derived.Shelf.SlSortCmp.PdqK
import Derived.Shelf.SlGeneric
import Derived.Ground.SlsfProg
namespace Go.Proofs.Ytfcdobicilediaa
open Go.Shelf Go.RowKit Go.PlainAid Go.Lib Go.Sort Go.Proofs Go.Proofs.Ytfcdobicilediaa.Fo
set_option linter.unusedVariables false
set_option maxRecDepth 20000
shelf_lay_g SlLaysF0.n20 Slsf 20 at Try 92 as Try.insWords

def encW (x : Int × Int) : List Value := [.int .i64 x.1, .int .i64 x.2]
theorem insWords_any (g cap a b : Nat) (d : Array (Int × Int)) (w : World) (hH : HoldsK encW 2 w g 0 d) (hg : g < w.heap.size) (hab : a ≤ b) (hb : b ≤ d.size) (hsz : d.size ≤ 5000) :
    Calls Try.prog 92 #[.slice (some ⟨g, 0, none⟩) d.size cap, .int .i64 a, .int .i64 b, .func (.func 55) #[] #[]] w fun e w' => e = .returned (.tuple #[]) ∧ ∃ n os, w' = sortWorldK encW 2 w g 0 n (Sort.insertionSort (ltOf cmpA) d a b) os := by
  have eg : ∀ args w, (callFunc 55 args).run Try.prog w = .ok (.enter 55 args) w := enters_of Try.func55 (by kernel_rfl) rfl
  have hcon := AnyQ.insertionSortCmpFunc Try.insWords 2 Try.isAgg48 Try.sizeOf48 encW (fun _ => rfl) (fun x v hv => by simp [encW] at hv; rcases hv with rfl | rfl <;> rfl) cmpA 55 #[] g 0 cap a b d w eg (fun _ _ _ _ x y => compareWords_all x y _) hH hg hab hb (by omega)
  exact hcon
set_option maxHeartbeats 1000000 in
theorem stable_small (g cap : Nat) (d : Array (Int × Int)) (w : World) (hH : HoldsK encW 2 w g 0 d) (hg : g < w.heap.size) (hsz : d.size < 20) :
    Calls Try.prog 80 #[.slice (some ⟨g, 0, none⟩) d.size cap, .int .i64 d.size, .func (.func 55) #[] #[]] w fun e w' => e = .returned (.tuple #[]) ∧ ∃ n os, w' = sortWorldK encW 2 w g 0 n (Sort.insertionSort (ltOf cmpA) d 0 d.size) os := by
  have H : Hid (Calls Try.prog 92 #[.slice (some ⟨g, 0, none⟩) d.size cap, .int .i64 0, .int .i64 d.size, .func (.func 55) #[] #[]] w fun e w' => e = .returned (.tuple #[]) ∧ ∃ n os, w' = sortWorldK encW 2 w g 0 n (Sort.insertionSort (ltOf cmpA) d 0 d.size) os) := insWords_any g cap 0 d.size d w hH hg (Nat.zero_le _) (Nat.le_refl _) (by omega)
  clear hH
  obtain ⟨n, hn⟩ : ∃ n, n = d.size := ⟨_, rfl⟩
  rw [← hn] at H hsz ⊢
  clear hn
  have hz : ¬ ((20 : Int) ≤ (n : Int)) := by omega
  have hz2 : ¬ ((20 : Int) < (n : Int)) := by omega
  go_enter Try.func80, Try.ntmps80
  go_wp2
  go_loopw [7, 8] (fun a b wr => a = .int .i64 0 ∧ b = .int .i64 20 ∧ wr = w) (fun _ _ _ => 0)
  case atStart => exact ⟨rfl, rfl, rfl⟩
  case round =>
    obtain ⟨rfl, rfl, hw⟩ := hrel
    subst hw
    go_wp2_with fail
    refine H.out.mono ?_
    rintro e w1 ⟨rfl, m, os, hw1⟩
    have HW : Hid (∃ m os, w1 = sortWorldK encW 2 wr g 0 m (Sort.insertionSort (ltOf cmpA) d 0 n) os) := ⟨m, os, hw1⟩
    clear hw1
    go_wp2
    go_loopw [6] (fun b wx => b = .int .i64 20 ∧ wx = w1) (fun _ _ => 0)
    case atStart => exact ⟨rfl, rfl⟩
    case round =>
      obtain ⟨rfl, hw⟩ := hrel
      subst hw
      go_wp2
      go_end0
      exact ⟨rfl, HW.out⟩
theorem sortStable_small (g cap : Nat) (d : Array (Int × Int)) (w : World) (hH : HoldsK encW 2 w g 0 d) (hg : g < w.heap.size) (hsz : d.size < 20) :
    Calls Try.prog 54 #[.slice (some ⟨g, 0, none⟩) d.size cap, .func (.func 55) #[] #[]] w fun e w' => e = .returned (.tuple #[]) ∧ ∃ n os, w' = sortWorldK encW 2 w g 0 n (Sort.insertionSort (ltOf cmpA) d 0 d.size) os := by
  have H : Hid (Calls Try.prog 80 #[.slice (some ⟨g, 0, none⟩) d.size cap, .int .i64 d.size, .func (.func 55) #[] #[]] w fun e w' => e = .returned (.tuple #[]) ∧ ∃ n os, w' = sortWorldK encW 2 w g 0 n (Sort.insertionSort (ltOf cmpA) d 0 d.size) os) := stable_small g cap d w hH hg hsz
  clear hH
  obtain ⟨n, hn⟩ : ∃ n, n = d.size := ⟨_, rfl⟩
  rw [← hn] at H ⊢
  clear hn
  go_enter Try.func54, Try.ntmps54
  go_wp2_with fail
  refine H.out.mono ?_
  rintro e w1 ⟨rfl, m, os, hw1⟩
  have HW : Hid (∃ m os, w1 = sortWorldK encW 2 w g 0 m (Sort.insertionSort (ltOf cmpA) d 0 n) os) := ⟨m, os, hw1⟩
  clear hw1
  go_wp2
  go_end0
  exact ⟨rfl, HW.out⟩
end Go.Proofs.Ytfcdobicilediaa
