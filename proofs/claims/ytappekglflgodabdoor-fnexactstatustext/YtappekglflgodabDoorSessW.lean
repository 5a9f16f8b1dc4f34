/- SessionAt, the program's and the model's. -/
import Derived.Test.YtappekglflgodabDoorLawGu
namespace Go.Proofs.YtappekglflgodabDoor
open Go.RowKit Go.PlainAid Go.Proofs.YtappekglflgodabDoor.Bt Go.Sort
set_option linter.unusedVariables false
set_option maxRecDepth 20000

def saP (mac : ByteArray) (q : Int) (s : SessV) : Bool := (s.mc.toList == mac.toList) && (s.ip == q)
def saC (ss : List SessV) (mac : ByteArray) (q : Int) : Int := if 65536 < mac.size then 2 else if 3 < ss.length then 1 else match ss.find? (saP mac q) with | some _ => 0 | none => 5
def saI (ss : List SessV) (mac : ByteArray) (q : Int) : Int := if 65536 < mac.size then 0 else if 3 < ss.length then 0 else match ss.find? (saP mac q) with | some s => s.id | none => 0
theorem find_no {α : Type} {p : α → Bool} {xs : List α} {k : Nat} {x : α} (hx : xs[k]? = some x) (h : (xs.take k).find? p = none) (hp : p x = false) : (xs.take (k + 1)).find? p = none := by
  rw [List.take_add_one, hx, List.find?_append, h]
  simp [hp]
theorem find_yes {α : Type} {p : α → Bool} {xs : List α} {k : Nat} {x : α} (hx : xs[k]? = some x) (h : (xs.take k).find? p = none) (hp : p x = true) : xs.find? p = some x := by
  have e : xs = xs.take (k + 1) ++ xs.drop (k + 1) := (List.take_append_drop _ _).symm
  rw [e, List.find?_append, List.take_add_one, hx, List.find?_append, h]
  simp [hp]
theorem find_end {α : Type} {p : α → Bool} {xs : List α} {k : Nat} (hk : xs.length = k) (h : (xs.take k).find? p = none) : xs.find? p = none := by
  rw [List.take_of_length_le (by omega)] at h
  exact h
set_option maxHeartbeats 2000000 in
theorem l08At_any (ua sa fa ra : Option Addr) (ul uc sl sc fl fc rl rc : Nat) (nx : Int) (ss : List SessV) (mac : ByteArray) (q : Int) (w : World) (h : Rw SeR 10 w sa ss) (hl : ss.length = sl) (hs3 : sl ≤ 3) :
    Calls Tryd.prog 29 #[.agg #[.slice ua ul uc, .slice sa sl sc, .slice fa fl fc, .slice ra rl rc, .int .i64 nx], .string mac, .int .i64 q] w fun e w' => ∃ r : Int, e = .returned (.int .i64 r) ∧ ((r = -1 ∧ ss.find? (saP mac q) = none) ∨ ∃ (k : Nat) (s : SessV), r = k ∧ ss[k]? = some s ∧ ss.find? (saP mac q) = some s) ∧ Grw w w' := by
  have RW : Hid (Rw SeR 10 w sa ss) := h
  clear h
  have hmix : Tryd.prog.follows .mixedOrders = true := by kernel_rfl
  go_enter Tryd.func29, Tryd.ntmps29
  go_wp2
  go_loopw [7] (fun x wr => ∃ k : Nat, k ≤ sl ∧ x = .int .i64 k ∧ Hid ((ss.take k).find? (saP mac q) = none) ∧ Hid (Grw w wr ∧ wr.cell? ⟨w.heap.size, 1, none⟩ = some (.slice sa sl sc))) (fun x _ => sl - (intOf x).toNat)
  case atStart => exact ⟨0, Nat.zero_le _, rfl, rfl, (Grw.refl _).alloc _, by simp [go_sem]⟩
  case round =>
    obtain ⟨k, hk, rfl, HO, HG⟩ := hrel
    have gs := HG.out.2
    by_cases hlt : k < sl
    · obtain ⟨x, hx⟩ := at_of hl hlt
      obtain ⟨b, off, vs, rfl, hb, hvl, hR, hc⟩ := RW.out.at SeR.kp HG.out.1.below hx
      have HY : Hid (saP mac q x = true → ss.find? (saP mac q) = some x) := fun h => find_yes hx HO.out h
      have HN : Hid (saP mac q x = false → (ss.take (k + 1)).find? (saP mac q) = none) := fun h => find_no hx HO.out h
      have HX : Hid (ss[k]? = some x) := hx
      clear hx
      obtain ⟨id, us, mc, ip, be, la, ud, qu, un, il⟩ := x
      obtain ⟨rfl, -⟩ := hR
      have q2 : wr.cell? ⟨b, off + k * 10 + 2, none⟩ = some (.string mc) := hc 2 _ rfl
      have q3 : wr.cell? ⟨b, off + k * 10 + 3, none⟩ = some (.int .i64 ip) := hc 3 _ rfl
      have hltz : (k : Int) < (sl : Int) := by omega
      have hsap : saP mac q ⟨id, us, mc, ip, be, la, ud, qu, un, il⟩ = ((mc.toList == mac.toList) && (ip == q)) := rfl
      rw [hsap] at HY HN
      obtain ⟨u, hu⟩ : ∃ u, (mc.toList == mac.toList) = u := ⟨_, rfl⟩
      obtain ⟨v, hv⟩ : ∃ v, (ip == q) = v := ⟨_, rfl⟩
      rw [hu, hv] at HY HN
      clear hc hvl hsap
      cases u with
      | false =>
        have HN' : Hid ((ss.take (k + 1)).find? (saP mac q) = none) := HN.out rfl
        clear HY HN
        go_wp2
        go_roundw
        case rel => exact ⟨k + 1, by omega, by go_num, HN', HG⟩
        case measure => simp [intOf]; omega
      | true =>
        cases v with
        | false =>
          have HN' : Hid ((ss.take (k + 1)).find? (saP mac q) = none) := HN.out rfl
          clear HY HN
          go_wp2
          go_roundw
          case rel => exact ⟨k + 1, by omega, by go_num, HN', HG⟩
          case measure => simp [intOf]; omega
        | true =>
          have HY' : Hid (ss.find? (saP mac q) = some ⟨id, us, mc, ip, be, la, ud, qu, un, il⟩) := HY.out rfl
          clear HY HN
          go_wp2
          go_ret
          exact ⟨k, rfl, .inr ⟨k, _, rfl, HX.out, HY'.out⟩, HG.out.1⟩
    · obtain rfl : k = sl := by omega
      have hd : Hid (ss.find? (saP mac q) = none) := find_end hl HO.out
      go_wp2
      go_ret
      exact ⟨-1, rfl, .inl ⟨rfl, hd.out⟩, HG.out.1⟩
end Go.Proofs.YtappekglflgodabDoor
