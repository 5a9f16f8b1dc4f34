/- MacText, the program's and the model's: two hexadecimal digits a byte, colons between; the walk of its law. -/
import Derived.Test.YtlebblmlbhnppaaGreatProg
import Derived.Test.YtlebblmlbhnppaaGreatCopy
import Derived.Test.YtlebblmlbhnppaaGreatOwn
import Derived.Deep.RegionHeld3
import Derived.Deep.AppendLies
import Derived.Laws.BitsAllLaws
namespace Go.Proofs.YtlebblmlbhnppaaGreat
open Go.RowKit Go.PlainAid
set_option linter.unusedVariables false

/-- The sixteen digits. -/
def hexs : ByteArray := ⟨#[48, 49, 50, 51, 52, 53, 54, 55, 56, 57, 97, 98, 99, 100, 101, 102]⟩
theorem hexs_size : hexs.size = 16 := rfl
def hx (n : Int) : Int := bt hexs n.toNat
theorem hx_bd (n : Int) : 0 ≤ hx n ∧ hx n ≤ 255 := ⟨bt_nonneg _ _, bt_le _ _⟩

/-- The digits of the first k bytes, with colons between. -/
def macl (f : Nat → Int) : Nat → List Int
  | 0 => []
  | k + 1 => macl f k ++ ((if k = 0 then [] else [58]) ++ [hx (f k / 16), hx (f k % 16)])

theorem macl_len (f : Nat → Int) : ∀ k : Nat, (macl f k).length ≤ 3 * k
  | 0 => by simp [macl]
  | k + 1 => by
    have := macl_len f k
    unfold macl
    split <;> simp <;> omega
theorem macl_bd (f : Nat → Int) : ∀ k : Nat, ∀ x ∈ macl f k, 0 ≤ x ∧ x ≤ 255
  | 0 => by simp [macl]
  | k + 1 => by
    have := macl_bd f k
    intro x hx'
    unfold macl at hx'
    split at hx' <;> simp at hx' <;> rcases hx' with h | h | h <;> first | exact this x h | (subst h; exact hx_bd _) | skip
    all_goals (first | (subst h; omega) | (rcases h with h | h <;> (subst h; exact hx_bd _)))
theorem macl_first (f : Nat → Int) : macl f 1 = [hx (f 0 / 16), hx (f 0 % 16)] := rfl
theorem macl_next (f : Nat → Int) (k : Nat) (h : 0 < k) : macl f (k + 1) = macl f k ++ [58] ++ [hx (f k / 16), hx (f k % 16)] := by
  rw [macl, if_neg (by omega), List.append_assoc]

theorem u8_and15 (n : Int) (h0 : 0 ≤ n) (h1 : n ≤ 255) : bits BinOp.and IntKind.u8 n 15 = n % 16 := by
  rw [u8_and n 15 h0 (by omega) (by omega) (by omega)]
  show ((n.toNat &&& 15 : Nat) : Int) = _
  rw [nat_mask4]
  omega

theorem isMac_a (s : ByteArray) (q : Bool) (hq : ((s.size : Int) == 6) = q) (w : World) : Calls Tryz.prog 185 #[.string s] w fun e w' => e = .returned (.bool q) ∧ w' = w := by
  go_enter Tryz.func185, Tryz.ntmps185
  go_wp2
  go_ret
  exact ⟨rfl, rfl⟩
theorem l01Mac_any (s : ByteArray) (w : World) : Calls Tryz.prog 110 #[.string s] w fun e w' => e = .returned (.bool ((s.size : Int) == 6)) ∧ w' = w := by
  go_enter Tryz.func110, Tryz.ntmps110
  go_wp2
  go_ret
  exact ⟨rfl, rfl⟩

end Go.Proofs.YtlebblmlbhnppaaGreat
