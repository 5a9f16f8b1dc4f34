/- The program DhcpBytes. -/
import Derived.Test.YtdhjbbnggeamhacMacs
import Derived.Test.YtdhjbbnggeamhacApp
import Derived.Test.YtdhjbbnggeamhacTests
import Derived.Lib.BufferWrite
import Derived.Deep.RegionHeld3
namespace Go.Proofs.Ytdhjbbnggeamhac
open Go.RowKit Go.PlainAid
set_option linter.unusedVariables false
set_option maxRecDepth 20000

theorem leaseKindOK_any (n : Int) (w : World) : Calls Try.prog 13 #[.int .i64 n] w fun e w' => e = .returned (.bool (dec (1 ≤ n ∧ n ≤ 8))) ∧ w' = w := by
  by_cases h0 : 1 ≤ n
  · go_enter Try.func13, Try.ntmps13
    go_wp2
    go_ret
    exact ⟨congrArg (fun b => Ending.returned (.bool b)) (by simp [dec, h0]), rfl⟩
  · have b : decide (1 ≤ n) = false := by simp; omega
    go_enter Try.func13, Try.ntmps13
    go_wp2
    go_ret
    exact ⟨congrArg (fun b => Ending.returned (.bool b)) (by rw [dec_n]; omega), rfl⟩

/-- A part of a row of the call's own laid anew. -/
theorem own_over {w : World} {B g cap : Nat} {L : List Int} {cur : Array Value} (h : OwnL 5 w B (.slice (some ⟨g, 0, none⟩) L.length cap) L) (hg : w.heap[g]? = some (.cells cur 5 (0, 0))) (hcap : L.length ≤ cap) (hmax : cap ≤ maxLen) (hsz : cur.size = cap) (htk : cur.toList.take L.length = L.map (Value.int .u8)) (hB : B ≤ g)
    (at_ : Nat) (M : List Int) (hat : at_ + M.length ≤ L.length) :
    Laid w (w.setRow g (cur.toList.take at_ ++ M.map (Value.int .u8) ++ cur.toList.drop (at_ + M.length)).toArray) B (.slice (some ⟨g, 0, none⟩) L.length cap) (over L at_ M) := by
  refine ⟨⟨by simp [over_len L at_ M hat], .inr ⟨g, cap, _, ?_, hB, setRow_heap w g cur _ 5 _ hg, ?_, hmax, ?_, ?_⟩⟩, ⟨rfl, rfl, rfl, by simp [World.setRow], fun k hk => setRow_other w g k _ (by omega)⟩⟩
  · rw [over_len L at_ M hat]
  · rw [over_len L at_ M hat]; exact hcap
  · simp; omega
  · have e1 : cur.toList = L.map (Value.int .u8) ++ cur.toList.drop L.length := by rw [← htk, List.take_append_drop]
    rw [over_len L at_ M hat]
    show List.take (L.length * 1) (List.take at_ cur.toList ++ _ ++ List.drop (at_ + M.length) cur.toList) = _
    unfold over
    rw [List.map_append, List.map_append, List.map_take, List.map_drop, e1, Nat.mul_one]
    exact take_over _ _ _ at_ M.length L.length (by simp) (by simp) hat

/-- 'copy(b[at:], s)'. -/
theorem copy_str {w : World} {B g cap : Nat} {L : List Int} (h : OwnL 5 w B (.slice (some ⟨g, 0, none⟩) L.length cap) L) (at_ d c : Nat) (s : ByteArray) (hat : at_ + s.size ≤ L.length) (h0 : 0 < L.length) (hd : s.size ≤ d) :
    ∃ w', (Builtin.copy_ #[22, 9] 3 #[.slice (some ⟨g, at_, none⟩) d c, .string s]).run Try.prog w = .ok (goInt s.size) w' ∧ Laid w w' B (.slice (some ⟨g, 0, none⟩) L.length cap) (over L at_ (nums s)) := by
  obtain ⟨i0, hi, hz0, hz1, hz2⟩ := info_parts Try.infoB
  obtain ⟨g', cap', cur, e, hB, hg, hcap, hmax, hsz, htk⟩ := h.form h0
  cases e
  have hl : (nums s).length = s.size := nums_len s
  refine ⟨_, Lib.run_copy_row_string w 22 9 3 5 g at_ d c s cur 5 Try.underlying22 (by rw [hi]; simp [hz1]) hg hd (by omega), ?_⟩
  have := own_over h hg hcap hmax hsz htk hB at_ (nums s) (by omega)
  rw [hl] at this
  have e : (nums s).map (Value.int .u8) = Lib.byteCells s.data.toList := by simp [nums, Lib.byteCells, Function.comp_def]
  rw [e] at this
  exact this

/-- 'copy(b[at:], m)', m a row elsewhere. -/
theorem copy_row {w : World} {B g cap : Nat} {L : List Int} (h : OwnL 5 w B (.slice (some ⟨g, 0, none⟩) L.length cap) L) (at_ d c : Nat) (q m cm : Nat) (M : List Int) (hm : M.length = m) (hM : Boxed w q (M.map (Value.int .u8))) (hat : at_ + m ≤ L.length) (h0 : 0 < L.length) (hd : m ≤ d) :
    ∃ w', (Builtin.copy_ #[22, 22] 3 #[.slice (some ⟨g, at_, none⟩) d c, .slice (some ⟨q, 0, none⟩) m cm]).run Try.prog w = .ok (goInt m) w' ∧ Laid w w' B (.slice (some ⟨g, 0, none⟩) L.length cap) (over L at_ M) := by
  obtain ⟨i0, hi, hz0, hz1, hz2⟩ := info_parts Try.infoB
  obtain ⟨g', cap', cur, e, hB, hg, hcap, hmax, hsz, htk⟩ := h.form h0
  cases e
  have hr := run_copy_row (P := Try.prog) w 22 22 3 5 g at_ d c ⟨q, 0, none⟩ m cm cur 5 (M.map (Value.int .u8)) Try.underlying22 (by rw [hi]; simp [hz1]) hg (by simp [hm, Nat.min_eq_left hd]) (news_row hM) (by simp; omega) (by intro u hu; obtain ⟨j, -, rfl⟩ := List.mem_map.1 hu; rfl)
  have hl : (M.map (Value.int .u8)).length = m := by simp [hm]
  rw [hl] at hr
  refine ⟨_, hr, ?_⟩
  have := own_over h hg hcap hmax hsz htk hB at_ M (by omega)
  rw [hm] at this
  exact this

/-- 'make([]byte, n, c)'. -/
theorem make_zeros (n c : Nat) (hn : n ≤ c) (hc : c ≤ 1000000) : ∃ MC : Array Value, ∀ w : World,
    (Instr.makeSlice 22 (.int .i64 (n : Int)) (.int .i64 (c : Int))).run Try.prog w = .ok (.slice (some ⟨w.heap.size, 0, none⟩) n c) (w.alloc (.cells MC 5)) ∧
      OwnL 5 (w.alloc (.cells MC 5)) w.heap.size (.slice (some ⟨w.heap.size, 0, none⟩) n c) (List.replicate n 0) := by
  obtain ⟨i0, hi, hz0, hz1, hz2⟩ := info_parts Try.infoB
  refine ⟨madeCells (Value.int .u8 0).cells (c * i0.size), fun w => ⟨?_, ?_⟩⟩
  · exact run_make (P := Try.prog) w 22 5 i0 (.int .u8 0) Try.underlying22 hi hz0 .i64 .i64 n c (by omega) (by omega) (by rw [hz2]; omega) (by omega)
  · refine ⟨by simp, .inr ⟨w.heap.size, c, madeCells (Value.int .u8 0).cells (c * i0.size), by simp, Nat.le_refl _, by show (w.heap.push _)[w.heap.size]? = some _; simp, by simpa using hn, by unfold maxLen; omega, by rw [size_madeCells, hz1], ?_⟩⟩
    rw [hz1]
    apply List.ext_getElem?
    intro i
    simp [madeCells, List.getElem?_take, List.getElem?_replicate]
    by_cases hi' : i < n
    · simp [hi', show i < c by omega, Value.cells, Nat.mod_one]
    · simp [hi']

/-- A byte of a row of the call's own set. -/
theorem own_set {w : World} {B g cap : Nat} {L : List Int} (h : OwnL 5 w B (.slice (some ⟨g, 0, none⟩) L.length cap) L) (hB : B ≤ g) (i : Nat) (x : Int) : Laid w (w.setCell ⟨g, i, none⟩ (.int .u8 x)) B (.slice (some ⟨g, 0, none⟩) L.length cap) (L.set i x) := by
  refine ⟨?_, (Below.refl _ _).setCell hB _⟩
  have := (World.ownsRow.stored h i (.int .u8 x)).1
  unfold OwnL
  rw [List.length_set]
  simpa [List.map_set] using this

/-- A message of leases. -/
def dhcpL (xid yours kind : Int) (rep : Bool) (mac : ByteArray) : List Int := [if rep then 2 else 1, 1, 6, 0] ++ nbl xid 4 ++ List.replicate 8 0 ++ nbl yours 4 ++ List.replicate 8 0 ++ nums mac ++ List.replicate 202 0 ++ [99, 130, 83, 99] ++ [53, 1, kind, 255]

end Go.Proofs.Ytdhjbbnggeamhac
