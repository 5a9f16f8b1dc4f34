/- SessionAt, the program's and the model's. -/
import Derived.Test.YtimhkeebgogfoacLawGu
namespace Go.Proofs.Ytimhkeebgogfoac
open Go.RowKit Go.PlainAid Go.Proofs.Ytimhkeebgogfoac.Bt Go.Sort
set_option linter.unusedVariables false
set_option maxRecDepth 20000

def saP (mac : ByteArray) (q : Int) (s : SessV) : Bool := (s.mc.toList == mac.toList) && (s.ip == q)
def saC (ss : List SessV) (mac : ByteArray) (q : Int) : Int := if 65536 < mac.size then 2 else if 3 < ss.length then 1 else match ss.find? (saP mac q) with | some _ => 0 | none => 5
def saI (ss : List SessV) (mac : ByteArray) (q : Int) : Int := if 65536 < mac.size then 0 else if 3 < ss.length then 0 else match ss.find? (saP mac q) with | some s => s.id | none => 0
theorem find_no {α : Type} {p : α → Bool} {xs : List α} {k : Nat} {x : α} (hx : xs[k]? = some x) (h : (xs.take k).find? p = none) (hp : p x = false) : (xs.take (k + 1)).find? p = none := by
  rw [List.take_add_one, hx, List.find?_append, h]
  simp [hp]
theorem find_yes {α : Type} {p : α → Bool} {xs : List α} {k : Nat} {x : α} (hx : xs[k]? = some x) (h : (xs.take k).find? p = none) (hp : p x = true) : xs.find? p = some x := by
  have e : xs = xs.take (k + 1) ++ xs.drop (k + 1) := (List.take_append_drop _ _).symm
  rw [e, List.find?_append, List.take_add_one, hx, List.find?_append, h]
  simp [hp]
theorem find_end {α : Type} {p : α → Bool} {xs : List α} {k : Nat} (hk : xs.length = k) (h : (xs.take k).find? p = none) : xs.find? p = none := by
  rw [List.take_of_length_le (by omega)] at h
  exact h
set_option maxHeartbeats 2000000 in
theorem l08At_any (ua sa fa ra : Option Addr) (ul uc sl sc fl fc rl rc : Nat) (nx : Int) (ss : List SessV) (mac : ByteArray) (q : Int) (w : World) (h : Rw SeR 10 w sa ss) (hl : ss.length = sl) (hs3 : sl ≤ 3) :
    Calls Try.prog 18 #[.agg #[.slice ua ul uc, .slice sa sl sc, .slice fa fl fc, .slice ra rl rc, .int .i64 nx], .string mac, .int .i64 q] w fun e w' => ∃ r : Int, e = .returned (.int .i64 r) ∧ ((r = -1 ∧ ss.find? (saP mac q) = none) ∨ ∃ (k : Nat) (s : SessV), r = k ∧ ss[k]? = some s ∧ ss.find? (saP mac q) = some s) ∧ Grw w w' := by
  have RW : Hid (Rw SeR 10 w sa ss) := h
  clear h
  have hmix : Try.prog.follows .mixedOrders = true := by kernel_rfl
  go_enter Try.func18, Try.ntmps18
  go_wp2
  go_loopw [7] (fun x wr => ∃ k : Nat, k ≤ sl ∧ x = .int .i64 k ∧ Hid ((ss.take k).find? (saP mac q) = none) ∧ Hid (Grw w wr ∧ wr.cell? ⟨w.heap.size, 1, none⟩ = some (.slice sa sl sc))) (fun x _ => sl - (intOf x).toNat)
  case atStart => exact ⟨0, Nat.zero_le _, rfl, rfl, (Grw.refl _).alloc _, by simp [go_sem]⟩
  case round =>
    obtain ⟨k, hk, rfl, HO, HG⟩ := hrel
    have gs := HG.out.2
    by_cases hlt : k < sl
    · obtain ⟨x, hx⟩ := at_of hl hlt
      obtain ⟨b, off, vs, rfl, hb, hvl, hR, hc⟩ := RW.out.at SeR.kp HG.out.1.below hx
      have HY : Hid (saP mac q x = true → ss.find? (saP mac q) = some x) := fun h => find_yes hx HO.out h
      have HN : Hid (saP mac q x = false → (ss.take (k + 1)).find? (saP mac q) = none) := fun h => find_no hx HO.out h
      have HX : Hid (ss[k]? = some x) := hx
      clear hx
      obtain ⟨id, us, mc, ip, be, la, ud, qu, un, il⟩ := x
      obtain ⟨rfl, -⟩ := hR
      have q2 : wr.cell? ⟨b, off + k * 10 + 2, none⟩ = some (.string mc) := hc 2 _ rfl
      have q3 : wr.cell? ⟨b, off + k * 10 + 3, none⟩ = some (.int .i64 ip) := hc 3 _ rfl
      have hltz : (k : Int) < (sl : Int) := by omega
      have hsap : saP mac q ⟨id, us, mc, ip, be, la, ud, qu, un, il⟩ = ((mc.toList == mac.toList) && (ip == q)) := rfl
      rw [hsap] at HY HN
      obtain ⟨u, hu⟩ : ∃ u, (mc.toList == mac.toList) = u := ⟨_, rfl⟩
      obtain ⟨v, hv⟩ : ∃ v, (ip == q) = v := ⟨_, rfl⟩
      rw [hu, hv] at HY HN
      clear hc hvl hsap
      cases u with
      | false =>
        have HN' : Hid ((ss.take (k + 1)).find? (saP mac q) = none) := HN.out rfl
        clear HY HN
        go_wp2
        go_roundw
        case rel => exact ⟨k + 1, by omega, by go_num, HN', HG⟩
        case measure => simp [intOf]; omega
      | true =>
        cases v with
        | false =>
          have HN' : Hid ((ss.take (k + 1)).find? (saP mac q) = none) := HN.out rfl
          clear HY HN
          go_wp2
          go_roundw
          case rel => exact ⟨k + 1, by omega, by go_num, HN', HG⟩
          case measure => simp [intOf]; omega
        | true =>
          have HY' : Hid (ss.find? (saP mac q) = some ⟨id, us, mc, ip, be, la, ud, qu, un, il⟩) := HY.out rfl
          clear HY HN
          go_wp2
          go_ret
          exact ⟨k, rfl, .inr ⟨k, _, rfl, HX.out, HY'.out⟩, HG.out.1⟩
    · obtain rfl : k = sl := by omega
      have hd : Hid (ss.find? (saP mac q) = none) := find_end hl HO.out
      go_wp2
      go_ret
      exact ⟨-1, rfl, .inl ⟨rfl, hd.out⟩, HG.out.1⟩
set_option maxHeartbeats 2000000 in
theorem specSessionAt_any (ua sa fa ra : Option Addr) (ul uc sl sc fl fc rl rc : Nat) (nx : Int) (ss : List SessV) (mac : ByteArray) (q : Int) (w : World) (h : Rw SeR 10 w sa ss) (hl : ss.length = sl) (hm : mac.size ≤ 1048576) :
    Calls Try.prog 6 #[.agg #[.slice ua ul uc, .slice sa sl sc, .slice fa fl fc, .slice ra rl rc, .int .i64 nx], .string mac, .int .i64 q] w fun e w' => e = .returned (.tuple #[.int .i64 (saI ss mac q), .int .i64 (saC ss mac q)]) ∧ Grw w w' := by
  have RW : Hid (Rw SeR 10 w sa ss) := h
  by_cases h1 : 65536 < mac.size
  · have ei : saI ss mac q = 0 := by unfold saI; rw [if_pos h1]
    have ec : saC ss mac q = 2 := by unfold saC; rw [if_pos h1]
    rw [ei, ec]
    have h1z : (65536 : Int) < (mac.size : Int) := by omega
    go_enter Try.func6, Try.ntmps6
    go_wp2
    go_ret2
    exact ⟨rfl, (Grw.refl _).alloc _⟩
  by_cases h2 : 3 < ss.length
  · have ei : saI ss mac q = 0 := by unfold saI; rw [if_neg h1, if_pos h2]
    have ec : saC ss mac q = 1 := by unfold saC; rw [if_neg h1, if_pos h2]
    rw [ei, ec]
    have h1z : (mac.size : Int) ≤ 65536 := by omega
    have h2z : (3 : Int) < (sl : Int) := by omega
    go_enter Try.func6, Try.ntmps6
    go_wp2
    go_ret2
    exact ⟨rfl, (Grw.refl _).alloc _⟩
  have h1z : (mac.size : Int) ≤ 65536 := by omega
  have h2z : (sl : Int) ≤ 3 := by omega
  have HA : Hid (∀ w, Rw SeR 10 w sa ss → Calls Try.prog 18 #[.agg #[.slice ua ul uc, .slice sa sl sc, .slice fa fl fc, .slice ra rl rc, .int .i64 nx], .string mac, .int .i64 q] w fun e w' => ∃ r : Int, e = .returned (.int .i64 r) ∧ ((r = -1 ∧ ss.find? (saP mac q) = none) ∨ ∃ (k : Nat) (s : SessV), r = k ∧ ss[k]? = some s ∧ ss.find? (saP mac q) = some s) ∧ Grw w w') := fun w h => l08At_any ua sa fa ra ul uc sl sc fl fc rl rc nx ss mac q w h hl (by omega)
  have NF : Hid (ss.find? (saP mac q) = none → saI ss mac q = 0 ∧ saC ss mac q = 5) := fun hf => by
    unfold saI saC
    rw [if_neg h1, if_neg h1, if_neg h2, if_neg h2, hf]
    exact ⟨rfl, rfl⟩
  have YF : Hid (∀ s, ss.find? (saP mac q) = some s → saI ss mac q = s.id ∧ saC ss mac q = 0) := fun s hf => by
    unfold saI saC
    rw [if_neg h1, if_neg h1, if_neg h2, if_neg h2, hf]
    exact ⟨rfl, rfl⟩
  generalize saI ss mac q = zi at NF YF ⊢
  generalize saC ss mac q = zc at NF YF ⊢
  clear h
  go_enter Try.func6, Try.ntmps6
  go_wp2_with fail
  refine (HA.out _ (RW.out.keep SeR.kp ((Grw.refl w).alloc _).below)).mono ?_
  rintro e w1 ⟨r, rfl, hr, g1⟩
  have k1 : w1.cell? ⟨w.heap.size, 1, none⟩ = some (.slice sa sl sc) := g1.keep (a := ⟨w.heap.size, 1, none⟩) (v := .slice sa sl sc) (by simp [go_sem])
  have BX : Hid (Grw w w1) := ((Grw.refl _).alloc _).trans g1
  clear g1 HA
  rcases hr with ⟨rfl, hf⟩ | ⟨k, s, rfl, hs, hf⟩
  · have hd : Hid (zi = 0 ∧ zc = 5) := NF.out hf
    clear hf NF YF
    go_wp2
    go_ret2
    exact ⟨by rw [hd.out.1, hd.out.2]; rfl, BX.out⟩
  · have hd : Hid (zi = s.id ∧ zc = 0) := YF.out s hf
    clear NF YF
    have hks : k < sl := by have := (List.getElem?_eq_some_iff.1 hs).1; omega
    obtain ⟨b, off, vs, rfl, hb, hvl, hR, hc⟩ := RW.out.at SeR.kp BX.out.below hs
    obtain ⟨id, us, mc, ip, be, la, ud, qu, un, il⟩ := s
    obtain ⟨rfl, -⟩ := hR
    have q0 : w1.cell? ⟨b, off + k * 10, none⟩ = some (.int .i64 id) := hc 0 _ rfl
    have hkz : (k : Int) < (sl : Int) := by omega
    have hd2 : Hid (zi = id ∧ zc = 0) := hd.out
    clear hf hs hc hvl hd
    go_wp2
    go_ret2
    exact ⟨by rw [hd2.out.1, hd2.out.2]; rfl, BX.out⟩
set_option maxHeartbeats 2000000 in
theorem implSessionAt_any (ua sa fa ra : Option Addr) (ul uc sl sc fl fc rl rc : Nat) (nx : Int) (ss : List SessV) (mac : ByteArray) (q : Int) (w : World) (h : Rw SeR 10 w sa ss) (hl : ss.length = sl) (hm : mac.size ≤ 1048576) :
    Calls Try.prog 8 #[.agg #[.slice ua ul uc, .slice sa sl sc, .slice fa fl fc, .slice ra rl rc, .int .i64 nx], .string mac, .int .i64 q] w fun e w' => e = .returned (.tuple #[.int .i64 (saI ss mac q), .int .i64 (saC ss mac q)]) ∧ Grw w w' := by
  have RW : Hid (Rw SeR 10 w sa ss) := h
  clear h
  by_cases h1 : 65536 < mac.size
  · have ei : saI ss mac q = 0 := by unfold saI; rw [if_pos h1]
    have ec : saC ss mac q = 2 := by unfold saC; rw [if_pos h1]
    rw [ei, ec]
    have h1z : (65536 : Int) < (mac.size : Int) := by omega
    go_enter Try.func8, Try.ntmps8
    go_wp2
    go_ret2
    exact ⟨rfl, (Grw.refl _).alloc _⟩
  by_cases h2 : 3 < ss.length
  · have ei : saI ss mac q = 0 := by unfold saI; rw [if_neg h1, if_pos h2]
    have ec : saC ss mac q = 1 := by unfold saC; rw [if_neg h1, if_pos h2]
    rw [ei, ec]
    have h1z : (mac.size : Int) ≤ 65536 := by omega
    have h2z : (3 : Int) < (sl : Int) := by omega
    go_enter Try.func8, Try.ntmps8
    go_wp2
    go_ret2
    exact ⟨rfl, (Grw.refl _).alloc _⟩
  have h1z : (mac.size : Int) ≤ 65536 := by omega
  have h2z : (sl : Int) ≤ 3 := by omega
  have NF : Hid (ss.find? (saP mac q) = none → saI ss mac q = 0 ∧ saC ss mac q = 5) := fun hf => by
    unfold saI saC
    rw [if_neg h1, if_neg h1, if_neg h2, if_neg h2, hf]
    exact ⟨rfl, rfl⟩
  have YF : Hid (∀ s, ss.find? (saP mac q) = some s → saI ss mac q = s.id ∧ saC ss mac q = 0) := fun s hf => by
    unfold saI saC
    rw [if_neg h1, if_neg h1, if_neg h2, if_neg h2, hf]
    exact ⟨rfl, rfl⟩
  generalize saI ss mac q = zi at NF YF ⊢
  generalize saC ss mac q = zc at NF YF ⊢
  go_enter Try.func8, Try.ntmps8
  go_wp2
  go_loopw [20] (fun x wr => ∃ k : Nat, k ≤ sl ∧ x = .int .i64 k ∧ Hid ((ss.take k).find? (saP mac q) = none) ∧ Hid (Grw w wr)) (fun x _ => sl - (intOf x).toNat)
  case atStart => exact ⟨0, Nat.zero_le _, rfl, rfl, (Grw.refl _).alloc _⟩
  case round =>
    obtain ⟨k, hk, rfl, HO, HG⟩ := hrel
    by_cases hlt : k < sl
    · obtain ⟨x, hx⟩ := at_of hl hlt
      obtain ⟨b, off, vs, rfl, hb, hvl, hR, hc⟩ := RW.out.at SeR.kp HG.out.below hx
      have HY : Hid (saP mac q x = true → zi = x.id ∧ zc = 0) := fun h => YF.out _ (find_yes hx HO.out h)
      have HN : Hid (saP mac q x = false → (ss.take (k + 1)).find? (saP mac q) = none) := fun h => find_no hx HO.out h
      clear hx
      obtain ⟨id, us, mc, ip, be, la, ud, qu, un, il⟩ := x
      obtain ⟨rfl, -⟩ := hR
      have q0 : wr.cell? ⟨b, off + k * 10, none⟩ = some (.int .i64 id) := hc 0 _ rfl
      have q1 : wr.cell? ⟨b, off + k * 10 + 1, none⟩ = some (.int .i64 us) := hc 1 _ rfl
      have q2 : wr.cell? ⟨b, off + k * 10 + 2, none⟩ = some (.string mc) := hc 2 _ rfl
      have q3 : wr.cell? ⟨b, off + k * 10 + 3, none⟩ = some (.int .i64 ip) := hc 3 _ rfl
      have q4 : wr.cell? ⟨b, off + k * 10 + 4, none⟩ = some (.int .i64 be) := hc 4 _ rfl
      have q5 : wr.cell? ⟨b, off + k * 10 + 5, none⟩ = some (.int .i64 la) := hc 5 _ rfl
      have q6 : wr.cell? ⟨b, off + k * 10 + 6, none⟩ = some (.int .i64 ud) := hc 6 _ rfl
      have q7 : wr.cell? ⟨b, off + k * 10 + 7, none⟩ = some (.int .i64 qu) := hc 7 _ rfl
      have q8 : wr.cell? ⟨b, off + k * 10 + 8, none⟩ = some (.int .i64 un) := hc 8 _ rfl
      have q9 : wr.cell? ⟨b, off + k * 10 + 9, none⟩ = some (.int .i64 il) := hc 9 _ rfl
      have hltz : (k : Int) < (sl : Int) := by omega
      have hsap : saP mac q ⟨id, us, mc, ip, be, la, ud, qu, un, il⟩ = ((mc.toList == mac.toList) && (ip == q)) := rfl
      rw [hsap] at HY HN
      obtain ⟨u, hu⟩ : ∃ u, (mc.toList == mac.toList) = u := ⟨_, rfl⟩
      obtain ⟨v, hv⟩ : ∃ v, (ip == q) = v := ⟨_, rfl⟩
      rw [hu, hv] at HY HN
      clear hc hvl hsap
      have HG1 : Hid (Grw w (wr.alloc (.cells #[.int .i64 id, .int .i64 us, .string mc, .int .i64 ip, .int .i64 be, .int .i64 la, .int .i64 ud, .int .i64 qu, .int .i64 un, .int .i64 il] 51))) := HG.out.alloc _
      cases u with
      | false =>
        have HN' : Hid ((ss.take (k + 1)).find? (saP mac q) = none) := HN.out rfl
        clear HY HN
        go_wp2
        go_roundw
        case rel => exact ⟨k + 1, by omega, by go_num, HN', HG1⟩
        case measure => simp [intOf]; omega
      | true =>
        cases v with
        | false =>
          have HN' : Hid ((ss.take (k + 1)).find? (saP mac q) = none) := HN.out rfl
          clear HY HN
          go_wp2
          go_roundw
          case rel => exact ⟨k + 1, by omega, by go_num, HN', HG1⟩
          case measure => simp [intOf]; omega
        | true =>
          have HY' : Hid (zi = id ∧ zc = 0) := HY.out rfl
          clear HY HN
          go_wp2
          go_ret2
          exact ⟨by rw [HY'.out.1, HY'.out.2]; rfl, HG1.out⟩
    · obtain rfl : k = sl := by omega
      have hd : Hid (zi = 0 ∧ zc = 5) := NF.out (find_end hl HO.out)
      go_wp2
      go_ret2
      exact ⟨by rw [hd.out.1, hd.out.2]; rfl, HG.out⟩
end Go.Proofs.Ytimhkeebgogfoac
