/- A hash as plain numbers: words of 32 bits, turned, added, mixed; blocks; the text behind which a mark, noughts and its length stand. Nothing of the program is imported. -/
import Derived.Test.YtimhkeebgogfoabDoorCrcM
import Derived.Test.YtimhkeebgogfoabDoorNumOf
namespace Go.Proofs.YtimhkeebgogfoabDoor
open Go.RowKit
set_option linter.unusedVariables false

/-- A word turned to the right. -/
def rot (x n : Int) : Int := bits .or .u32 (x / 2 ^ n.toNat) (IntKind.u32.wrap (x * 2 ^ (32 - n).toNat))
theorem or_comm32 (a b : Int) : bits .or .u32 a b = bits .or .u32 b a := by
  show IntKind.u32.wrap ((BitVec.ofInt 32 a ||| BitVec.ofInt 32 b).toNat : Int) = IntKind.u32.wrap ((BitVec.ofInt 32 b ||| BitVec.ofInt 32 a).toNat : Int)
  rw [BitVec.or_comm]
theorem bits_bd (o : BinOp) (a b : Int) : 0 ≤ IntKind.u32.wrap a ∧ IntKind.u32.wrap a ≤ 4294967295 := by rw [IntKind.wrap_u32]; omega
theorem neg_and_all : ∀ n : Fin 32, 0 < n.val → bits .and .u64 (IntKind.u64.wrap (-(n.val : Int))) 31 = 32 - (n.val : Int) := by decide +kernel
theorem neg_and (n : Int) (h1 : 1 ≤ n) (h2 : n ≤ 31) : bits .and .u64 (IntKind.u64.wrap (-n)) 31 = 32 - n := by
  obtain ⟨m, rfl⟩ := Int.eq_ofNat_of_zero_le (show 0 ≤ n by omega)
  exact neg_and_all ⟨m, by omega⟩ (by show 0 < m; omega)
/-- A word against itself, turned three ways. -/
def rot3 (x a b c : Int) : Int := bits .xor .u32 (bits .xor .u32 (rot x a) (rot x b)) (rot x c)
def sg0 (x : Int) : Int := bits .xor .u32 (bits .xor .u32 (rot x 7) (rot x 18)) (x / 8)
def sg1 (x : Int) : Int := bits .xor .u32 (bits .xor .u32 (rot x 17) (rot x 19)) (x / 1024)
/-- A word of the block. -/
def wordB (f : Nat → Int) (i : Nat) : Int := numOf (fun j => f (4 * i + j)) 4
theorem wordB_bd (f : Nat → Int) (h : ∀ k, 0 ≤ f k ∧ f k ≤ 255) (i : Nat) : 0 ≤ wordB f i ∧ wordB f i ≤ 4294967295 := by
  have := numOf_bd (fun j => f (4 * i + j)) (fun k => h _) 4
  unfold wordB
  omega
/-- The spread block. -/
def sch (f : Nat → Int) (i : Nat) : Int :=
  if h : i < 16 then wordB f i
  else IntKind.u32.wrap (IntKind.u32.wrap (IntKind.u32.wrap (sch f (i - 16) + sch f (i - 7)) + sg0 (sch f (i - 15))) + sg1 (sch f (i - 2)))
termination_by i
decreasing_by all_goals omega
theorem sch_low (f : Nat → Int) (i : Nat) (h : i < 16) : sch f i = wordB f i := by rw [sch, dif_pos h]
theorem sch_high (f : Nat → Int) (i : Nat) (h : 16 ≤ i) : sch f i = IntKind.u32.wrap (IntKind.u32.wrap (IntKind.u32.wrap (sch f (i - 16) + sch f (i - 7)) + sg0 (sch f (i - 15))) + sg1 (sch f (i - 2))) := by
  rw [sch, dif_neg (by omega)]
theorem wrap_swap (a b c d : Int) : IntKind.u32.wrap (IntKind.u32.wrap (IntKind.u32.wrap (a + b) + c) + d) = IntKind.u32.wrap (IntKind.u32.wrap (IntKind.u32.wrap (a + c) + b) + d) := by
  simp only [IntKind.wrap_u32]; omega
/-- The words of the rounds, and those of the beginning. -/
def kks : List Int := [1116352408, 1899447441, 3049323471, 3921009573, 961987163, 1508970993, 2453635748, 2870763221, 3624381080, 310598401, 607225278, 1426881987, 1925078388, 2162078206, 2614888103, 3248222580, 3835390401, 4022224774, 264347078, 604807628, 770255983, 1249150122, 1555081692, 1996064986, 2554220882, 2821834349, 2952996808, 3210313671, 3336571891, 3584528711, 113926993, 338241895, 666307205, 773529912, 1294757372, 1396182291, 1695183700, 1986661051, 2177026350, 2456956037, 2730485921, 2820302411, 3259730800, 3345764771, 3516065817, 3600352804, 4094571909, 275423344, 430227734, 506948616, 659060556, 883997877, 958139571, 1322822218, 1537002063, 1747873779, 1955562222, 2024104815, 2227730452, 2361852424, 2428436474, 2756734187, 3204031479, 3329325298]
def KK (i : Nat) : Int := kks.getD i 0
def hbs : List Int := [1779033703, 3144134277, 1013904242, 2773480762, 1359893119, 2600822924, 528734635, 1541459225]
def HB (i : Nat) : Int := hbs.getD i 0
def chm (e f g : Int) : Int := bits .xor .u32 (bits .and .u32 e f) (bits .and .u32 (bits .xor .u32 IntKind.u32.max e) g)
def mjm (a b c : Int) : Int := bits .xor .u32 (bits .xor .u32 (bits .and .u32 a b) (bits .and .u32 a c)) (bits .and .u32 b c)
def dnm (e f g h k w : Int) : Int := (h + rot3 e 6 11 25 + chm e f g + k + w) % 4294967296
def upm (a b c : Int) : Int := (rot3 a 2 13 22 + mjm a b c) % 4294967296
/-- A round. -/
def rnd (k w : Int) (s : Nat → Int) : Nat → Int
  | 0 => (dnm (s 4) (s 5) (s 6) (s 7) k w + upm (s 0) (s 1) (s 2)) % 4294967296
  | 1 => s 0
  | 2 => s 1
  | 3 => s 2
  | 4 => (s 3 + dnm (s 4) (s 5) (s 6) (s 7) k w) % 4294967296
  | 5 => s 4
  | 6 => s 5
  | 7 => s 6
  | _ => 0
/-- Behind k rounds. -/
def stR (f s0 : Nat → Int) : Nat → Nat → Int
  | 0 => s0
  | k + 1 => rnd (KK k) (sch f k) (stR f s0 k)
/-- Behind a block. -/
def blk (f s0 : Nat → Int) (i : Nat) : Int := (stR f s0 64 i + s0 i) % 4294967296
/-- The state that was added to, up to k. -/
def fin8 (c s0 : Nat → Int) (k : Nat) (j : Nat) : Int := if j < k then (c j + s0 j) % 4294967296 else c j
/-- Behind k blocks. -/
def stB (f s0 : Nat → Int) : Nat → Nat → Int
  | 0 => s0
  | k + 1 => blk (fun j => f (64 * k + j)) (stB f s0 k)
/-- Words as cells. -/
def words (g : Nat → Int) (n : Nat) : List Value := (List.range n).map fun i => Value.int .u32 (g i)
theorem words_len (g : Nat → Int) (n : Nat) : (words g n).length = n := by simp [words]
theorem words_size (g : Nat → Int) (n : Nat) : (words g n).toArray.size = n := by rw [List.size_toArray, words_len]
theorem words_at (g : Nat → Int) (n i : Nat) (h : i < n) : (words g n)[i]? = some (.int .u32 (g i)) := by simp [words, h]
theorem words_get {g : Nat → Int} {n j : Nat} {v : Value} (h : (words g n)[j]? = some v) : j < n ∧ v = .int .u32 (g j) := by
  have hj : j < n := by rw [← words_len g n]; exact (List.getElem?_eq_some_iff.1 h).1
  rw [words_at g n j hj] at h
  exact ⟨hj, (Option.some.inj h).symm⟩
theorem words_congr {g h : Nat → Int} {n : Nat} (e : ∀ i, i < n → g i = h i) : words g n = words h n := by
  unfold words
  exact List.map_congr_left fun i hi => by rw [e i (by simpa using hi)]
theorem words8 {g : Nat → Int} {e0 e1 e2 e3 e4 e5 e6 e7 : Int} (h0 : e0 = g 0) (h1 : e1 = g 1) (h2 : e2 = g 2) (h3 : e3 = g 3) (h4 : e4 = g 4) (h5 : e5 = g 5) (h6 : e6 = g 6) (h7 : e7 = g 7) :
    [Value.int .u32 e0, .int .u32 e1, .int .u32 e2, .int .u32 e3, .int .u32 e4, .int .u32 e5, .int .u32 e6, .int .u32 e7] = words g 8 := by
  subst h0 h1 h2 h3 h4 h5 h6 h7; rfl
end Go.Proofs.YtimhkeebgogfoabDoor
