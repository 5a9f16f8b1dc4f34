/- The program's wordsOf: strings.Split at blanks, then slices.DeleteFunc of what is empty. -/
import Derived.Test.YtimhkeebgogfoaaDoorBlk
import Derived.Test.YtimhkeebgogfoaaDoorShelf
import Derived.Test.YtimhkeebgogfoaaDoorProg
import Derived.Shelf.SlicesE.DeleteFunc
import Derived.Shelf.SlGeneric
import Derived.Ground.SlgfProg
import Derived.Lib.SliceRun
import Derived.Lib.SplitLaws
namespace Go.Proofs.YtimhkeebgogfoaaDoor.Bl
open Go.Shelf Go.RowKit Go.PlainAid Go.Sort Go.Proofs Go.Proofs.YtimhkeebgogfoaaDoor
set_option linter.unusedVariables false
set_option maxRecDepth 20000
shelf_lay_g SlLaysH.n10 Slgf 10 at Tryd 76 as Tryd.delWords

def emp (x : ByteArray) : Bool := x.toList.isEmpty
theorem gives_emp (x : ByteArray) (W : World) : FnGives Tryd.prog 77 #[] #[.string x] (.bool (emp x)) W := by
  show Calls Tryd.prog 77 #[.string x] W _
  unfold emp
  go_enter Tryd.func77, Tryd.ntmps77
  go_wp2
  go_ret
  exact ⟨rfl, 0, rfl⟩
theorem emp_is (x : ByteArray) : emp x = x.data.toList.isEmpty := by
  unfold emp
  rw [ByteArray.toList_eq]
theorem nz_map (l : List ByteArray) : (l.filter fun x => !emp x).map (·.data.toList) = nz (l.map (·.data.toList)) := by
  induction l with
  | nil => rfl
  | cons x l ih =>
    rw [List.filter_cons, List.map_cons]
    unfold nz at *
    rw [List.filter_cons, emp_is]
    cases h : x.data.toList.isEmpty
    · simp only [Bool.not_false, if_true, List.map_cons]
      rw [ih]
    · simp only [Bool.not_true, Bool.false_eq_true, if_false]
      exact ih
theorem pc_len : ∀ l : List UInt8, (pc l).length ≤ l.length + 1
  | [] => by simp [pc]
  | c :: l => by
    have := pc_len l
    rw [pc]
    split
    · simp; omega
    · cases h : pc l with
      | nil => simp
      | cons p ps => rw [h] at this; simp at this ⊢; omega
theorem one_str : OneCell (Value.string) := fun _ => rfl
theorem holds_new (w : World) (d : Array ByteArray) (t : TypeId) (hd : d.size ≤ maxLen) : Holds Value.string (w.alloc (.cells (d.toList.map Value.string).toArray t)) w.heap.size 0 d := by
  intro j hj
  have o := World.ownsRow_lit (base := 0) (e := t) (size := 1) w (d.toList.map Value.string).toArray d.size (Nat.zero_le _) hd (by simp)
  rw [Nat.zero_add]
  refine ⟨?_, World.ownsRow.frozenAt o _⟩
  rw [World.ownsRow.cellAt o j (by omega)]
  simp [hj]
theorem grown_put {w : World} {g q : Nat} (d : Array ByteArray) : w.grownBy (putRow Value.string (Sort.ahead w q) g 0 d) (some g) := by
  refine ⟨rfl, rfl, rfl, by simp [Sort.ahead], fun k hk hne => ?_⟩
  have : g ≠ k := fun e => hne (by rw [e])
  simp [putRow, mapBlock, Sort.ahead, Array.getElem?_modify, this]
set_option maxHeartbeats 1000000 in
theorem wordsOf_any (t : ByteArray) (m : Int) (w : World) (ht : t.size ≤ 65536) (hm : w.cell? ⟨0, 0, none⟩ = some (.int .i64 m)) :
    Calls Tryd.prog 42 #[.string t] w fun e w' => ∃ (c : Nat) (ps : List ByteArray), e = .returned (.slice (some ⟨w.heap.size, 0, none⟩) ps.length c) ∧ ps.map (·.data.toList) = wb t.data.toList ∧ (∀ j x, ps[j]? = some x → w'.cell? ⟨w.heap.size, j, none⟩ = some (.string x)) ∧ Below w.heap.size w w' := by
  obtain ⟨d, hd⟩ : ∃ d : Array ByteArray, d = (Lib.splitB dot 0 (Lib.countB t dot) t).toArray := ⟨_, rfl⟩
  have hlen : d.size = Lib.countB t dot + 1 := by rw [hd]; simpa using Lib.splitB_all dot (by decide) 0 _ t rfl
  have hmp : d.toList.map (·.data.toList) = pc t.data.toList := by rw [hd]; exact splitB_pc _ t rfl
  have hcb : Lib.countB t dot ≤ t.size := by
    have := congrArg List.length hmp
    rw [List.length_map] at this
    have h2 := pc_len t.data.toList
    simp at this h2
    have hs : t.data.size = t.size := rfl
    omega
  have HS : Hid (Calls Tryd.prog 22 #[.string t, .string ⟨#[32]⟩] w fun e w' => e = .returned (.slice (some ⟨w.heap.size, 0, none⟩) d.size d.size) ∧ w' = w.alloc (.cells (d.toList.map Value.string).toArray 9)) := by
    have := Tryd.strings_Split t dot m w (by omega) hm (by decide)
    rw [← hlen] at this
    rw [hd]
    rw [hd] at this
    exact this
  have eg : ∀ args w, (callFunc 77 args).run Tryd.prog w = .ok (.enter 77 args) w := enters_of Tryd.func77 (by kernel_rfl) rfl
  have hcon := AnyE.slices_DeleteFunc Tryd.delWords Value.string one_str emp 77 #[] eg ⟨#[]⟩ Tryd.zeroValue9 w.heap.size 0 d.size d (w.alloc (.cells (d.toList.map Value.string).toArray 9))
    (fun W x _ => gives_emp x W) (fun n os dk x _ => gives_emp x _) (holds_new w d _ (by unfold maxLen; omega)) (by omega) (Nat.le_refl _)
  change Calls Tryd.prog 76 _ _ _ at hcon
  have hH := holds_new w d 9 (by unfold maxLen; omega)
  have hps : (d.toList.filter fun x => !emp x).map (·.data.toList) = wb t.data.toList := by rw [nz_map, hmp]; rfl
  have hle : (d.toList.filter fun x => !emp x).length ≤ d.size := by simpa using List.length_filter_le (fun x => !emp x) d.toList
  generalize (d.toList.filter fun x => !emp x) = ps at hcon hps hle
  have HD : Hid (Calls Tryd.prog 76 #[.slice (some ⟨w.heap.size, 0, none⟩) d.size d.size, .func (.func 77) #[] #[]] (w.alloc (.cells (d.toList.map Value.string).toArray 9)) fun e w' => e = .returned (.slice (some ⟨w.heap.size, 0, none⟩) ps.length d.size) ∧ (∀ j x, ps[j]? = some x → w'.cell? ⟨w.heap.size, j, none⟩ = some (.string x)) ∧ Below w.heap.size w w') := by
    refine hcon.mono ?_
    rintro e w' ⟨rfl, q, rfl⟩
    refine ⟨rfl, fun j x hx => ?_, ((Below.refl _ _).alloc (Nat.le_refl _) _).grown (grown_put _) (by simp) (fun k hk => by cases hk; exact Nat.le_refl _)⟩
    have hj := (List.getElem?_eq_some_iff.1 hx).1
    have hsz : (ps ++ List.replicate (d.size - ps.length) (⟨#[]⟩ : ByteArray)).toArray.size = d.size := by simp; omega
    have := cell?_putRow Value.string (Sort.ahead (w.alloc (.cells (d.toList.map Value.string).toArray 9)) q) w.heap.size 0 d _ (holds_ahead Value.string _ q _ _ d hH) hsz j (by omega)
    rw [Nat.zero_add] at this
    rw [this, getElem!_pos _ j (by omega)]
    congr 2
    have e1 : (ps ++ List.replicate (d.size - ps.length) (⟨#[]⟩ : ByteArray))[j]? = some x := by rw [List.getElem?_append_left hj]; exact hx
    have e2 := (List.getElem?_eq_some_iff.1 e1).2
    simpa using e2
  clear hcon hH hd hlen hmp hcb
  go_enter Tryd.func42, Tryd.ntmps42
  go_wp2_with fail
  refine HS.out.mono ?_
  rintro e w1 ⟨rfl, rfl⟩
  go_wp2_with fail
  refine HD.out.mono ?_
  rintro e w2 ⟨rfl, hc, hb⟩
  have XC : Hid ((∀ j x, ps[j]? = some x → w2.cell? ⟨w.heap.size, j, none⟩ = some (.string x)) ∧ Below w.heap.size w w2) := ⟨hc, hb⟩
  clear hc hb
  go_wp2
  go_ret
  exact ⟨d.size, ps, rfl, hps, XC.out.1, XC.out.2⟩
end Go.Proofs.YtimhkeebgogfoaaDoor.Bl
