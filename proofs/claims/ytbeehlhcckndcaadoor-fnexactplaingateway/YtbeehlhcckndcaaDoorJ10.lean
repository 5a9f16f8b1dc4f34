/- Flows and lists of them in the laws: measured, copied, compared. Connections and segments in the laws: copied, measured, compared. Lists of connections in the laws: measured, copied, compared. Append and slices.Clone of places, rules, roles, flows and connections. Boxes: stores of one cell. Nothing of the program is used. Gateways in the laws: measured, copied, compared. Regions by resources: the kinds of resources. -/
import Derived.Test.YtbeehlhcckndcaaDoorJ3
import Derived.Test.YtbeehlhcckndcaaDoorJ1
import Derived.Test.YtbeehlhcckndcaaDoorJ0
import Derived.Test.YtbeehlhcckndcaaDoorJ4
import Derived.Test.YtbeehlhcckndcaaDoorJ9
namespace Go.Proofs.YtbeehlhcckndcaaDoor
open Go.RowKit Go.PlainAid Go.Proofs.YtbeehlhcckndcaaDoor.Bt Go.Sort
set_option linter.unusedVariables false
set_option maxRecDepth 20000
set_option maxHeartbeats 1000000 in
theorem eqFlow_any (pr : Int) (mc : ByteArray) (si sp di dp st un ow : Int) (w : World) :
    Calls Tryd.prog 39 #[.agg #[.int .i64 pr, .string mc, .int .i64 si, .int .i64 sp, .int .i64 di, .int .i64 dp, .int .i64 st, .int .i64 un, .int .i64 ow], .agg #[.int .i64 pr, .string mc, .int .i64 si, .int .i64 sp, .int .i64 di, .int .i64 dp, .int .i64 st, .int .i64 un, .int .i64 ow]] w fun e w' => e = .returned (.bool true) ∧ Grw w w' := by
  have h0 : (pr != pr) = false := by simp
  have h1 : (mc.toList == mc.toList) = true := by simp
  have h2 : (si != si) = false := by simp
  have h3 : (sp != sp) = false := by simp
  have h4 : (di != di) = false := by simp
  have h5 : (dp != dp) = false := by simp
  have h6 : (st != st) = false := by simp
  have h7 : (un != un) = false := by simp
  have h8 : (ow != ow) = false := by simp
  go_enter Tryd.func39, Tryd.ntmps39
  go_wp2
  go_ret
  exact ⟨rfl, ((Grw.refl _).alloc _).alloc _⟩
theorem infoFlow : (Tryd.prog.info? 82).map (fun i => (i.zero, i.size, i.bytes)) = some (some (.agg #[.int .i64 0, .string ⟨#[]⟩, .int .i64 0, .int .i64 0, .int .i64 0, .int .i64 0, .int .i64 0, .int .i64 0, .int .i64 0]), 9, 80) := by kernel_rfl
set_option maxHeartbeats 2000000 in
theorem eqFlowS_yes (a a' : Option Addr) (len cap cap' : Nat) (xs : List FlowV) (w : World) (h : Rw FlR 9 w a xs) (h' : Rw FlR 9 w a' xs) (hl : xs.length = len) (hlen : len ≤ 9223372036854775807) :
    Calls Tryd.prog 16 #[.slice a len cap, .slice a' len cap'] w fun e w' => e = .returned (.bool true) ∧ Grw w w' := by
  have hne : ((len : Int) != (len : Int)) = false := by simp
  have hmix : Tryd.prog.follows .mixedOrders = true := by kernel_rfl
  have RW : Hid (Rw FlR 9 w a xs) := h
  have RW' : Hid (Rw FlR 9 w a' xs) := h'
  clear h h'
  go_enter Tryd.func16, Tryd.ntmps16
  go_wp2
  go_loopw [5] (fun i wr => ∃ k : Nat, k ≤ len ∧ i = .int .i64 k ∧ Hid (Grw w wr)) (fun i _ => len - (intOf i).toNat)
  case atStart => exact ⟨0, Nat.zero_le _, rfl, Grw.refl w⟩
  case round =>
    obtain ⟨k, hk, rfl, HG⟩ := hrel
    by_cases hlt : k < len
    · obtain ⟨x, hx⟩ := at_of hl hlt
      obtain ⟨b, off, vs, rfl, hb, hvl, hR, hc⟩ := RW.out.at FR.kp HG.out.below hx
      obtain ⟨b', off', vs', rfl, hb', hvl', hR', hc'⟩ := RW'.out.at FR.kp HG.out.below hx
      obtain ⟨pr, mc, si, sp, di, dp, st, un, ow⟩ := x
      obtain ⟨rfl, -⟩ := hR
      obtain ⟨rfl, -⟩ := hR'
      have q0 : ∀ n os, (grow (wr.drewN n) os).cell? ⟨b, off + k * 9, none⟩ = some (.int .i64 pr) := fun n os => grown_cell hb HG.out (hc 0 _ rfl) n os
      have q1 : ∀ n os, (grow (wr.drewN n) os).cell? ⟨b, off + k * 9 + 1, none⟩ = some (.string mc) := fun n os => grown_cell hb HG.out (hc 1 _ rfl) n os
      have q2 : ∀ n os, (grow (wr.drewN n) os).cell? ⟨b, off + k * 9 + 2, none⟩ = some (.int .i64 si) := fun n os => grown_cell hb HG.out (hc 2 _ rfl) n os
      have q3 : ∀ n os, (grow (wr.drewN n) os).cell? ⟨b, off + k * 9 + 3, none⟩ = some (.int .i64 sp) := fun n os => grown_cell hb HG.out (hc 3 _ rfl) n os
      have q4 : ∀ n os, (grow (wr.drewN n) os).cell? ⟨b, off + k * 9 + 4, none⟩ = some (.int .i64 di) := fun n os => grown_cell hb HG.out (hc 4 _ rfl) n os
      have q5 : ∀ n os, (grow (wr.drewN n) os).cell? ⟨b, off + k * 9 + 5, none⟩ = some (.int .i64 dp) := fun n os => grown_cell hb HG.out (hc 5 _ rfl) n os
      have q6 : ∀ n os, (grow (wr.drewN n) os).cell? ⟨b, off + k * 9 + 6, none⟩ = some (.int .i64 st) := fun n os => grown_cell hb HG.out (hc 6 _ rfl) n os
      have q7 : ∀ n os, (grow (wr.drewN n) os).cell? ⟨b, off + k * 9 + 7, none⟩ = some (.int .i64 un) := fun n os => grown_cell hb HG.out (hc 7 _ rfl) n os
      have q8 : ∀ n os, (grow (wr.drewN n) os).cell? ⟨b, off + k * 9 + 8, none⟩ = some (.int .i64 ow) := fun n os => grown_cell hb HG.out (hc 8 _ rfl) n os
      have r0 : ∀ n os, (grow (wr.drewN n) os).cell? ⟨b', off' + k * 9, none⟩ = some (.int .i64 pr) := fun n os => grown_cell hb' HG.out (hc' 0 _ rfl) n os
      have r1 : ∀ n os, (grow (wr.drewN n) os).cell? ⟨b', off' + k * 9 + 1, none⟩ = some (.string mc) := fun n os => grown_cell hb' HG.out (hc' 1 _ rfl) n os
      have r2 : ∀ n os, (grow (wr.drewN n) os).cell? ⟨b', off' + k * 9 + 2, none⟩ = some (.int .i64 si) := fun n os => grown_cell hb' HG.out (hc' 2 _ rfl) n os
      have r3 : ∀ n os, (grow (wr.drewN n) os).cell? ⟨b', off' + k * 9 + 3, none⟩ = some (.int .i64 sp) := fun n os => grown_cell hb' HG.out (hc' 3 _ rfl) n os
      have r4 : ∀ n os, (grow (wr.drewN n) os).cell? ⟨b', off' + k * 9 + 4, none⟩ = some (.int .i64 di) := fun n os => grown_cell hb' HG.out (hc' 4 _ rfl) n os
      have r5 : ∀ n os, (grow (wr.drewN n) os).cell? ⟨b', off' + k * 9 + 5, none⟩ = some (.int .i64 dp) := fun n os => grown_cell hb' HG.out (hc' 5 _ rfl) n os
      have r6 : ∀ n os, (grow (wr.drewN n) os).cell? ⟨b', off' + k * 9 + 6, none⟩ = some (.int .i64 st) := fun n os => grown_cell hb' HG.out (hc' 6 _ rfl) n os
      have r7 : ∀ n os, (grow (wr.drewN n) os).cell? ⟨b', off' + k * 9 + 7, none⟩ = some (.int .i64 un) := fun n os => grown_cell hb' HG.out (hc' 7 _ rfl) n os
      have r8 : ∀ n os, (grow (wr.drewN n) os).cell? ⟨b', off' + k * 9 + 8, none⟩ = some (.int .i64 ow) := fun n os => grown_cell hb' HG.out (hc' 8 _ rfl) n os
      have HE : Hid (∀ w, Calls Tryd.prog 39 #[.agg #[.int .i64 pr, .string mc, .int .i64 si, .int .i64 sp, .int .i64 di, .int .i64 dp, .int .i64 st, .int .i64 un, .int .i64 ow], .agg #[.int .i64 pr, .string mc, .int .i64 si, .int .i64 sp, .int .i64 di, .int .i64 dp, .int .i64 st, .int .i64 un, .int .i64 ow]] w fun e w' => e = .returned (.bool true) ∧ Grw w w') := fun w => eqFlow_any pr mc si sp di dp st un ow w
      have hltz : (k : Int) < (len : Int) := by omega
      clear hc hc'
      go_wp2_with fail
      refine wp_region_quiet_grown (by assumption) (by kernel_rfl) ?_
      repeat (go_big_quiet_step (first | fail | (go_at_call 39; exact Calls.grown_of (HE.out _))))
      refine wpQuiet_nil ?_
      intro _ hw'
      obtain ⟨⟨nq, osq⟩, hw''⟩ := hw'
      subst hw''
      have HG2 : Hid (Grw w (grow (wr.drewN nq) osq)) := HG.out.trans ⟨nq, osq, rfl⟩
      clear q0 q1 q2 q3 q4 q5 q6 q7 q8 r0 r1 r2 r3 r4 r5 r6 r7 r8 HG HE
      go_wp2
      go_roundw
      case rel => exact ⟨k + 1, by omega, by go_num, HG2⟩
      case measure => simp [intOf]; omega
    · obtain rfl : k = len := by omega
      go_wp2
      go_ret
      exact ⟨rfl, HG.out⟩

end Go.Proofs.YtbeehlhcckndcaaDoor

namespace Go.Proofs.YtbeehlhcckndcaaDoor
open Go.RowKit Go.PlainAid Go.Proofs.YtbeehlhcckndcaaDoor.Bt Go.Sort
set_option linter.unusedVariables false
set_option maxRecDepth 20000
set_option maxHeartbeats 1000000 in
theorem eqConn_any (mc : ByteArray) (ip po di st un nx wa : Int) (inn out : ByteArray) (fin : Bool) (w : World) :
    Calls Tryd.prog 40 #[.agg #[.string mc, .int .i64 ip, .int .i64 po, .int .i64 di, .int .i64 st, .int .i64 un, .int .i64 nx, .int .i64 wa, .string inn, .string out, .bool fin], .agg #[.string mc, .int .i64 ip, .int .i64 po, .int .i64 di, .int .i64 st, .int .i64 un, .int .i64 nx, .int .i64 wa, .string inn, .string out, .bool fin]] w fun e w' => e = .returned (.bool true) ∧ Grw w w' := by
  have h0 : (mc.toList == mc.toList) = true := by simp
  have h1 : (ip != ip) = false := by simp
  have h2 : (po != po) = false := by simp
  have h3 : (di != di) = false := by simp
  have h4 : (st != st) = false := by simp
  have h5 : (un != un) = false := by simp
  have h6 : (nx != nx) = false := by simp
  have h7 : (wa != wa) = false := by simp
  have h8 : (inn.toList == inn.toList) = true := by simp
  have h9 : (out.toList == out.toList) = true := by simp
  have h10 : (fin != fin) = false := by simp
  go_enter Tryd.func40, Tryd.ntmps40
  go_wp2
  go_ret
  exact ⟨rfl, ((Grw.refl _).alloc _).alloc _⟩
end Go.Proofs.YtbeehlhcckndcaaDoor

namespace Go.Proofs.YtbeehlhcckndcaaDoor
open Go.RowKit Go.PlainAid Go.Proofs.YtbeehlhcckndcaaDoor.Bt Go.Sort
set_option linter.unusedVariables false
set_option maxRecDepth 20000
theorem infoConn : (Tryd.prog.info? 85).map (fun i => (i.zero, i.size, i.bytes)) = some (some (.agg #[.string ⟨#[]⟩, .int .i64 0, .int .i64 0, .int .i64 0, .int .i64 0, .int .i64 0, .int .i64 0, .int .i64 0, .string ⟨#[]⟩, .string ⟨#[]⟩, .bool false]), 11, 112) := by kernel_rfl
set_option maxHeartbeats 2000000 in
theorem eqConnS_yes (a a' : Option Addr) (len cap cap' : Nat) (xs : List ConnV) (w : World) (h : Rw CnR 11 w a xs) (h' : Rw CnR 11 w a' xs) (hl : xs.length = len) (hlen : len ≤ 9223372036854775807) :
    Calls Tryd.prog 17 #[.slice a len cap, .slice a' len cap'] w fun e w' => e = .returned (.bool true) ∧ Grw w w' := by
  have hne : ((len : Int) != (len : Int)) = false := by simp
  have hmix : Tryd.prog.follows .mixedOrders = true := by kernel_rfl
  have RW : Hid (Rw CnR 11 w a xs) := h
  have RW' : Hid (Rw CnR 11 w a' xs) := h'
  clear h h'
  go_enter Tryd.func17, Tryd.ntmps17
  go_wp2
  go_loopw [5] (fun i wr => ∃ k : Nat, k ≤ len ∧ i = .int .i64 k ∧ Hid (Grw w wr)) (fun i _ => len - (intOf i).toNat)
  case atStart => exact ⟨0, Nat.zero_le _, rfl, Grw.refl w⟩
  case round =>
    obtain ⟨k, hk, rfl, HG⟩ := hrel
    by_cases hlt : k < len
    · obtain ⟨x, hx⟩ := at_of hl hlt
      obtain ⟨b, off, vs, rfl, hb, hvl, hR, hc⟩ := RW.out.at FR.kp HG.out.below hx
      obtain ⟨b', off', vs', rfl, hb', hvl', hR', hc'⟩ := RW'.out.at FR.kp HG.out.below hx
      obtain ⟨mc, ip, po, di, st, un, nx, wa, inn, out, fin⟩ := x
      obtain ⟨rfl, -⟩ := hR
      obtain ⟨rfl, -⟩ := hR'
      have q0 : ∀ n os, (grow (wr.drewN n) os).cell? ⟨b, off + k * 11, none⟩ = some (.string mc) := fun n os => grown_cell hb HG.out (hc 0 _ rfl) n os
      have q1 : ∀ n os, (grow (wr.drewN n) os).cell? ⟨b, off + k * 11 + 1, none⟩ = some (.int .i64 ip) := fun n os => grown_cell hb HG.out (hc 1 _ rfl) n os
      have q2 : ∀ n os, (grow (wr.drewN n) os).cell? ⟨b, off + k * 11 + 2, none⟩ = some (.int .i64 po) := fun n os => grown_cell hb HG.out (hc 2 _ rfl) n os
      have q3 : ∀ n os, (grow (wr.drewN n) os).cell? ⟨b, off + k * 11 + 3, none⟩ = some (.int .i64 di) := fun n os => grown_cell hb HG.out (hc 3 _ rfl) n os
      have q4 : ∀ n os, (grow (wr.drewN n) os).cell? ⟨b, off + k * 11 + 4, none⟩ = some (.int .i64 st) := fun n os => grown_cell hb HG.out (hc 4 _ rfl) n os
      have q5 : ∀ n os, (grow (wr.drewN n) os).cell? ⟨b, off + k * 11 + 5, none⟩ = some (.int .i64 un) := fun n os => grown_cell hb HG.out (hc 5 _ rfl) n os
      have q6 : ∀ n os, (grow (wr.drewN n) os).cell? ⟨b, off + k * 11 + 6, none⟩ = some (.int .i64 nx) := fun n os => grown_cell hb HG.out (hc 6 _ rfl) n os
      have q7 : ∀ n os, (grow (wr.drewN n) os).cell? ⟨b, off + k * 11 + 7, none⟩ = some (.int .i64 wa) := fun n os => grown_cell hb HG.out (hc 7 _ rfl) n os
      have q8 : ∀ n os, (grow (wr.drewN n) os).cell? ⟨b, off + k * 11 + 8, none⟩ = some (.string inn) := fun n os => grown_cell hb HG.out (hc 8 _ rfl) n os
      have q9 : ∀ n os, (grow (wr.drewN n) os).cell? ⟨b, off + k * 11 + 9, none⟩ = some (.string out) := fun n os => grown_cell hb HG.out (hc 9 _ rfl) n os
      have q10 : ∀ n os, (grow (wr.drewN n) os).cell? ⟨b, off + k * 11 + 10, none⟩ = some (.bool fin) := fun n os => grown_cell hb HG.out (hc 10 _ rfl) n os
      have r0 : ∀ n os, (grow (wr.drewN n) os).cell? ⟨b', off' + k * 11, none⟩ = some (.string mc) := fun n os => grown_cell hb' HG.out (hc' 0 _ rfl) n os
      have r1 : ∀ n os, (grow (wr.drewN n) os).cell? ⟨b', off' + k * 11 + 1, none⟩ = some (.int .i64 ip) := fun n os => grown_cell hb' HG.out (hc' 1 _ rfl) n os
      have r2 : ∀ n os, (grow (wr.drewN n) os).cell? ⟨b', off' + k * 11 + 2, none⟩ = some (.int .i64 po) := fun n os => grown_cell hb' HG.out (hc' 2 _ rfl) n os
      have r3 : ∀ n os, (grow (wr.drewN n) os).cell? ⟨b', off' + k * 11 + 3, none⟩ = some (.int .i64 di) := fun n os => grown_cell hb' HG.out (hc' 3 _ rfl) n os
      have r4 : ∀ n os, (grow (wr.drewN n) os).cell? ⟨b', off' + k * 11 + 4, none⟩ = some (.int .i64 st) := fun n os => grown_cell hb' HG.out (hc' 4 _ rfl) n os
      have r5 : ∀ n os, (grow (wr.drewN n) os).cell? ⟨b', off' + k * 11 + 5, none⟩ = some (.int .i64 un) := fun n os => grown_cell hb' HG.out (hc' 5 _ rfl) n os
      have r6 : ∀ n os, (grow (wr.drewN n) os).cell? ⟨b', off' + k * 11 + 6, none⟩ = some (.int .i64 nx) := fun n os => grown_cell hb' HG.out (hc' 6 _ rfl) n os
      have r7 : ∀ n os, (grow (wr.drewN n) os).cell? ⟨b', off' + k * 11 + 7, none⟩ = some (.int .i64 wa) := fun n os => grown_cell hb' HG.out (hc' 7 _ rfl) n os
      have r8 : ∀ n os, (grow (wr.drewN n) os).cell? ⟨b', off' + k * 11 + 8, none⟩ = some (.string inn) := fun n os => grown_cell hb' HG.out (hc' 8 _ rfl) n os
      have r9 : ∀ n os, (grow (wr.drewN n) os).cell? ⟨b', off' + k * 11 + 9, none⟩ = some (.string out) := fun n os => grown_cell hb' HG.out (hc' 9 _ rfl) n os
      have r10 : ∀ n os, (grow (wr.drewN n) os).cell? ⟨b', off' + k * 11 + 10, none⟩ = some (.bool fin) := fun n os => grown_cell hb' HG.out (hc' 10 _ rfl) n os
      have HE : Hid (∀ w, Calls Tryd.prog 40 #[.agg #[.string mc, .int .i64 ip, .int .i64 po, .int .i64 di, .int .i64 st, .int .i64 un, .int .i64 nx, .int .i64 wa, .string inn, .string out, .bool fin], .agg #[.string mc, .int .i64 ip, .int .i64 po, .int .i64 di, .int .i64 st, .int .i64 un, .int .i64 nx, .int .i64 wa, .string inn, .string out, .bool fin]] w fun e w' => e = .returned (.bool true) ∧ Grw w w') := fun w => eqConn_any mc ip po di st un nx wa inn out fin w
      have hltz : (k : Int) < (len : Int) := by omega
      clear hc hc'
      go_wp2_with fail
      refine wp_region_quiet_grown (by assumption) (by kernel_rfl) ?_
      repeat (go_big_quiet_step (first | fail | (go_at_call 40; exact Calls.grown_of (HE.out _))))
      refine wpQuiet_nil ?_
      intro _ hw'
      obtain ⟨⟨nq, osq⟩, hw''⟩ := hw'
      subst hw''
      have HG2 : Hid (Grw w (grow (wr.drewN nq) osq)) := HG.out.trans ⟨nq, osq, rfl⟩
      clear q0 q1 q2 q3 q4 q5 q6 q7 q8 q9 q10 r0 r1 r2 r3 r4 r5 r6 r7 r8 r9 r10 HG HE
      go_wp2
      go_roundw
      case rel => exact ⟨k + 1, by omega, by go_num, HG2⟩
      case measure => simp [intOf]; omega
    · obtain rfl : k = len := by omega
      go_wp2
      go_ret
      exact ⟨rfl, HG.out⟩

end Go.Proofs.YtbeehlhcckndcaaDoor

namespace Go.Proofs.YtbeehlhcckndcaaDoor
open Go.RowKit Go.PlainAid Go.Proofs.YtbeehlhcckndcaaDoor.Bt Go.Sort
set_option linter.unusedVariables false
set_option maxRecDepth 20000
/-- A row of roles, by what lies in it. -/
def RoXok (x : RoX) : Prop := x.r.nm.size ≤ maxLen
theorem onePlaceC (ys : List PlaceV) : ∀ u ∈ flatS pv ys, u.oneCell' = true := by
  intro u hu
  unfold flatS at hu
  rw [List.mem_flatMap] at hu
  obtain ⟨f, _, hf⟩ := hu
  simp [pv] at hf
  rcases hf with rfl | rfl | rfl | rfl <;> rfl
/-- 'append(row, ys...)'. -/
theorem wpl_PlaceC (w : World) {ops : Array Oper} {rest : List Oper} {o : Oper} {a : Act} {Q : Exit → Act → World → Prop} (hgd : o.guard = none) (s x : Operand)
    (ho : o.op = .call { callee := .builtin .append, args := #[s, x], argTypes := #[24, 24] })
    (B : Nat) (v : Value) (L ys : List PlaceV) (hs : a.eval s = v) (hown : OwnS pv 4 62 w B v L)
    (g off m c : Nat) (hm : ys.length = m) (hx : a.eval x = .slice (some ⟨g, off, none⟩) m c) (hc : ∀ j u, (flatS pv ys)[j]? = some u → w.cell? ⟨g, off + j, none⟩ = some u)
    (hlen : L.length + m ≤ 2000000) (hB : B ≤ w.heap.size)
    (h : ∀ v' w', Hid (OwnS pv 4 62 w' B v' (L ++ ys) ∧ Below B w w') → w.grownBy w' v.ownBlock → wpList Tryd.prog ops Q rest (a.put o.dst v') w') : wpList Tryd.prog ops Q (o :: rest) a w := by
  obtain ⟨i0, hi, hz0, hz1, hz2⟩ := info_parts infoPlace
  refine wpList_append_own w hgd s x 24 ho B 62 i0 (.agg #[.int .i64 0, .int .i64 0, .int .i64 0, .int .i64 0]) 4 32 Tryd.underlying24 hi hz0 hz1 hz2 rfl (by decide) v L.length (flatS pv L) hs hown ⟨g, off, none⟩ m c (flatS pv ys) hx (by rw [flatS_len pv_len, hm]) ?_
    (onePlaceC ys) (by unfold maxLen; omega) (by omega) hB ?_
  · intro j u hu
    rw [addn]
    exact hc j u hu
  · intro v' w' h2 h3 _
    subst hm
    exact h v' w' (hown.join hB h2 h3) h3
/-- The same, of what may be nil. -/
theorem wpl_PlaceCS (w : World) {ops : Array Oper} {rest : List Oper} {o : Oper} {a : Act} {Q : Exit → Act → World → Prop} (hgd : o.guard = none) (s x : Operand)
    (ho : o.op = .call { callee := .builtin .append, args := #[s, x], argTypes := #[24, 24] })
    (B : Nat) (v : Value) (L ys : List PlaceV) (hs : a.eval s = v) (hown : OwnS pv 4 62 w B v L)
    (p : Option Addr) (m c : Nat) (hrw : Rw PlR 4 w p ys) (hm : ys.length = m) (hsp : ∀ q, p = some q → q.spot = none) (hnil : p = none → m = 0 ∧ c = 0) (hx : a.eval x = .slice p m c)
    (hlen : L.length + m ≤ 2000000) (hB : B ≤ w.heap.size)
    (h : ∀ v' w', Hid (OwnS pv 4 62 w' B v' (L ++ ys) ∧ Below B w w') → w.grownBy w' v.ownBlock → wpList Tryd.prog ops Q rest (a.put o.dst v') w') : wpList Tryd.prog ops Q (o :: rest) a w := by
  cases p with
  | some q =>
    obtain ⟨b, off, pt⟩ := q
    obtain rfl : pt = none := hsp _ rfl
    have h' : Rw (FR pv PlRok) 4 w (some ⟨b, off, none⟩) ys := hrw
    exact wpl_PlaceC w hgd s x ho B v L ys hs hown b off m c hm hx (flat_rw h' pv_len (by omega)) hlen hB h
  | none =>
    obtain ⟨rfl, rfl⟩ := hnil rfl
    obtain rfl : ys = [] := List.length_eq_zero_iff.1 hm
    obtain ⟨i0, hi, hz0, hz1, hz2⟩ := info_parts infoPlace
    refine wpList_append_own_none hgd s x 24 ho B 62 i0 4 Tryd.underlying24 hi v L.length (flatS pv L) hs hown hx (h v w ?_ (grown_refl w _))
    rw [List.append_nil]
    exact ⟨hown, Below.refl _ _⟩
theorem oneRuleC (ys : List RuleV) : ∀ u ∈ flatS rv ys, u.oneCell' = true := by
  intro u hu
  unfold flatS at hu
  rw [List.mem_flatMap] at hu
  obtain ⟨f, _, hf⟩ := hu
  simp [rv] at hf
  rcases hf with rfl | rfl | rfl | rfl | rfl | rfl <;> rfl
/-- 'append(row, ys...)'. -/
theorem wpl_RuleC (w : World) {ops : Array Oper} {rest : List Oper} {o : Oper} {a : Act} {Q : Exit → Act → World → Prop} (hgd : o.guard = none) (s x : Operand)
    (ho : o.op = .call { callee := .builtin .append, args := #[s, x], argTypes := #[65, 65] })
    (B : Nat) (v : Value) (L ys : List RuleV) (hs : a.eval s = v) (hown : OwnS rv 6 64 w B v L)
    (g off m c : Nat) (hm : ys.length = m) (hx : a.eval x = .slice (some ⟨g, off, none⟩) m c) (hc : ∀ j u, (flatS rv ys)[j]? = some u → w.cell? ⟨g, off + j, none⟩ = some u)
    (hlen : L.length + m ≤ 2000000) (hB : B ≤ w.heap.size)
    (h : ∀ v' w', Hid (OwnS rv 6 64 w' B v' (L ++ ys) ∧ Below B w w') → w.grownBy w' v.ownBlock → wpList Tryd.prog ops Q rest (a.put o.dst v') w') : wpList Tryd.prog ops Q (o :: rest) a w := by
  obtain ⟨i0, hi, hz0, hz1, hz2⟩ := info_parts infoRule
  refine wpList_append_own w hgd s x 65 ho B 64 i0 (.agg #[.int .i64 0, .int .i64 0, .int .i64 0, .int .i64 0, .int .i64 0, .bool false]) 6 48 Tryd.underlying65 hi hz0 hz1 hz2 rfl (by decide) v L.length (flatS rv L) hs hown ⟨g, off, none⟩ m c (flatS rv ys) hx (by rw [flatS_len rv_len, hm]) ?_
    (oneRuleC ys) (by unfold maxLen; omega) (by omega) hB ?_
  · intro j u hu
    rw [addn]
    exact hc j u hu
  · intro v' w' h2 h3 _
    subst hm
    exact h v' w' (hown.join hB h2 h3) h3
/-- The same, of what may be nil. -/
theorem wpl_RuleCS (w : World) {ops : Array Oper} {rest : List Oper} {o : Oper} {a : Act} {Q : Exit → Act → World → Prop} (hgd : o.guard = none) (s x : Operand)
    (ho : o.op = .call { callee := .builtin .append, args := #[s, x], argTypes := #[65, 65] })
    (B : Nat) (v : Value) (L ys : List RuleV) (hs : a.eval s = v) (hown : OwnS rv 6 64 w B v L)
    (p : Option Addr) (m c : Nat) (hrw : Rw RuR 6 w p ys) (hm : ys.length = m) (hsp : ∀ q, p = some q → q.spot = none) (hnil : p = none → m = 0 ∧ c = 0) (hx : a.eval x = .slice p m c)
    (hlen : L.length + m ≤ 2000000) (hB : B ≤ w.heap.size)
    (h : ∀ v' w', Hid (OwnS rv 6 64 w' B v' (L ++ ys) ∧ Below B w w') → w.grownBy w' v.ownBlock → wpList Tryd.prog ops Q rest (a.put o.dst v') w') : wpList Tryd.prog ops Q (o :: rest) a w := by
  cases p with
  | some q =>
    obtain ⟨b, off, pt⟩ := q
    obtain rfl : pt = none := hsp _ rfl
    have h' : Rw (FR rv RuRok) 6 w (some ⟨b, off, none⟩) ys := hrw
    exact wpl_RuleC w hgd s x ho B v L ys hs hown b off m c hm hx (flat_rw h' rv_len (by omega)) hlen hB h
  | none =>
    obtain ⟨rfl, rfl⟩ := hnil rfl
    obtain rfl : ys = [] := List.length_eq_zero_iff.1 hm
    obtain ⟨i0, hi, hz0, hz1, hz2⟩ := info_parts infoRule
    refine wpList_append_own_none hgd s x 65 ho B 64 i0 6 Tryd.underlying65 hi v L.length (flatS rv L) hs hown hx (h v w ?_ (grown_refl w _))
    rw [List.append_nil]
    exact ⟨hown, Below.refl _ _⟩
theorem oneRoleC (ys : List RoX) : ∀ u ∈ flatS roG ys, u.oneCell' = true := by
  intro u hu
  unfold flatS at hu
  rw [List.mem_flatMap] at hu
  obtain ⟨f, _, hf⟩ := hu
  simp [roG] at hf
  rcases hf with rfl | rfl | rfl | rfl | rfl <;> rfl
/-- 'append(row, ys...)'. -/
theorem wpl_RoleC (w : World) {ops : Array Oper} {rest : List Oper} {o : Oper} {a : Act} {Q : Exit → Act → World → Prop} (hgd : o.guard = none) (s x : Operand)
    (ho : o.op = .call { callee := .builtin .append, args := #[s, x], argTypes := #[25, 25] })
    (B : Nat) (v : Value) (L ys : List RoX) (hs : a.eval s = v) (hown : OwnS roG 5 67 w B v L)
    (g off m c : Nat) (hm : ys.length = m) (hx : a.eval x = .slice (some ⟨g, off, none⟩) m c) (hc : ∀ j u, (flatS roG ys)[j]? = some u → w.cell? ⟨g, off + j, none⟩ = some u)
    (hlen : L.length + m ≤ 2000000) (hB : B ≤ w.heap.size)
    (h : ∀ v' w', Hid (OwnS roG 5 67 w' B v' (L ++ ys) ∧ Below B w w') → w.grownBy w' v.ownBlock → wpList Tryd.prog ops Q rest (a.put o.dst v') w') : wpList Tryd.prog ops Q (o :: rest) a w := by
  obtain ⟨i0, hi, hz0, hz1, hz2⟩ := info_parts infoRole
  refine wpList_append_own w hgd s x 25 ho B 67 i0 (.agg #[.string ⟨#[]⟩, .slice none 0 0, .int .i64 0, .int .i64 0, .int .i64 0]) 5 64 Tryd.underlying25 hi hz0 hz1 hz2 rfl (by decide) v L.length (flatS roG L) hs hown ⟨g, off, none⟩ m c (flatS roG ys) hx (by rw [flatS_len roG_len, hm]) ?_
    (oneRoleC ys) (by unfold maxLen; omega) (by omega) hB ?_
  · intro j u hu
    rw [addn]
    exact hc j u hu
  · intro v' w' h2 h3 _
    subst hm
    exact h v' w' (hown.join hB h2 h3) h3
theorem oneFlowC (ys : List FlowV) : ∀ u ∈ flatS wvG ys, u.oneCell' = true := by
  intro u hu
  unfold flatS at hu
  rw [List.mem_flatMap] at hu
  obtain ⟨f, _, hf⟩ := hu
  simp [wvG] at hf
  rcases hf with rfl | rfl | rfl | rfl | rfl | rfl | rfl | rfl | rfl <;> rfl
/-- 'append(row, ys...)'. -/
theorem wpl_FlowC (w : World) {ops : Array Oper} {rest : List Oper} {o : Oper} {a : Act} {Q : Exit → Act → World → Prop} (hgd : o.guard = none) (s x : Operand)
    (ho : o.op = .call { callee := .builtin .append, args := #[s, x], argTypes := #[34, 34] })
    (B : Nat) (v : Value) (L ys : List FlowV) (hs : a.eval s = v) (hown : OwnS wvG 9 82 w B v L)
    (g off m c : Nat) (hm : ys.length = m) (hx : a.eval x = .slice (some ⟨g, off, none⟩) m c) (hc : ∀ j u, (flatS wvG ys)[j]? = some u → w.cell? ⟨g, off + j, none⟩ = some u)
    (hlen : L.length + m ≤ 2000000) (hB : B ≤ w.heap.size)
    (h : ∀ v' w', Hid (OwnS wvG 9 82 w' B v' (L ++ ys) ∧ Below B w w') → w.grownBy w' v.ownBlock → wpList Tryd.prog ops Q rest (a.put o.dst v') w') : wpList Tryd.prog ops Q (o :: rest) a w := by
  obtain ⟨i0, hi, hz0, hz1, hz2⟩ := info_parts infoFlow
  refine wpList_append_own w hgd s x 34 ho B 82 i0 (.agg #[.int .i64 0, .string ⟨#[]⟩, .int .i64 0, .int .i64 0, .int .i64 0, .int .i64 0, .int .i64 0, .int .i64 0, .int .i64 0]) 9 80 Tryd.underlying34 hi hz0 hz1 hz2 rfl (by decide) v L.length (flatS wvG L) hs hown ⟨g, off, none⟩ m c (flatS wvG ys) hx (by rw [flatS_len wvG_len, hm]) ?_
    (oneFlowC ys) (by unfold maxLen; omega) (by omega) hB ?_
  · intro j u hu
    rw [addn]
    exact hc j u hu
  · intro v' w' h2 h3 _
    subst hm
    exact h v' w' (hown.join hB h2 h3) h3
/-- The same, of what may be nil. -/
theorem wpl_FlowCS (w : World) {ops : Array Oper} {rest : List Oper} {o : Oper} {a : Act} {Q : Exit → Act → World → Prop} (hgd : o.guard = none) (s x : Operand)
    (ho : o.op = .call { callee := .builtin .append, args := #[s, x], argTypes := #[34, 34] })
    (B : Nat) (v : Value) (L ys : List FlowV) (hs : a.eval s = v) (hown : OwnS wvG 9 82 w B v L)
    (p : Option Addr) (m c : Nat) (hrw : Rw FlR 9 w p ys) (hm : ys.length = m) (hsp : ∀ q, p = some q → q.spot = none) (hnil : p = none → m = 0 ∧ c = 0) (hx : a.eval x = .slice p m c)
    (hlen : L.length + m ≤ 2000000) (hB : B ≤ w.heap.size)
    (h : ∀ v' w', Hid (OwnS wvG 9 82 w' B v' (L ++ ys) ∧ Below B w w') → w.grownBy w' v.ownBlock → wpList Tryd.prog ops Q rest (a.put o.dst v') w') : wpList Tryd.prog ops Q (o :: rest) a w := by
  cases p with
  | some q =>
    obtain ⟨b, off, pt⟩ := q
    obtain rfl : pt = none := hsp _ rfl
    have h' : Rw (FR wvG FlRok) 9 w (some ⟨b, off, none⟩) ys := hrw
    exact wpl_FlowC w hgd s x ho B v L ys hs hown b off m c hm hx (flat_rw h' wvG_len (by omega)) hlen hB h
  | none =>
    obtain ⟨rfl, rfl⟩ := hnil rfl
    obtain rfl : ys = [] := List.length_eq_zero_iff.1 hm
    obtain ⟨i0, hi, hz0, hz1, hz2⟩ := info_parts infoFlow
    refine wpList_append_own_none hgd s x 34 ho B 82 i0 9 Tryd.underlying34 hi v L.length (flatS wvG L) hs hown hx (h v w ?_ (grown_refl w _))
    rw [List.append_nil]
    exact ⟨hown, Below.refl _ _⟩
theorem oneConnC (ys : List ConnV) : ∀ u ∈ flatS cnG ys, u.oneCell' = true := by
  intro u hu
  unfold flatS at hu
  rw [List.mem_flatMap] at hu
  obtain ⟨f, _, hf⟩ := hu
  simp [cnG] at hf
  rcases hf with rfl | rfl | rfl | rfl | rfl | rfl | rfl | rfl | rfl | rfl | rfl <;> rfl
/-- 'append(row, ys...)'. -/
theorem wpl_ConnC (w : World) {ops : Array Oper} {rest : List Oper} {o : Oper} {a : Act} {Q : Exit → Act → World → Prop} (hgd : o.guard = none) (s x : Operand)
    (ho : o.op = .call { callee := .builtin .append, args := #[s, x], argTypes := #[35, 35] })
    (B : Nat) (v : Value) (L ys : List ConnV) (hs : a.eval s = v) (hown : OwnS cnG 11 85 w B v L)
    (g off m c : Nat) (hm : ys.length = m) (hx : a.eval x = .slice (some ⟨g, off, none⟩) m c) (hc : ∀ j u, (flatS cnG ys)[j]? = some u → w.cell? ⟨g, off + j, none⟩ = some u)
    (hlen : L.length + m ≤ 2000000) (hB : B ≤ w.heap.size)
    (h : ∀ v' w', Hid (OwnS cnG 11 85 w' B v' (L ++ ys) ∧ Below B w w') → w.grownBy w' v.ownBlock → wpList Tryd.prog ops Q rest (a.put o.dst v') w') : wpList Tryd.prog ops Q (o :: rest) a w := by
  obtain ⟨i0, hi, hz0, hz1, hz2⟩ := info_parts infoConn
  refine wpList_append_own w hgd s x 35 ho B 85 i0 (.agg #[.string ⟨#[]⟩, .int .i64 0, .int .i64 0, .int .i64 0, .int .i64 0, .int .i64 0, .int .i64 0, .int .i64 0, .string ⟨#[]⟩, .string ⟨#[]⟩, .bool false]) 11 112 Tryd.underlying35 hi hz0 hz1 hz2 rfl (by decide) v L.length (flatS cnG L) hs hown ⟨g, off, none⟩ m c (flatS cnG ys) hx (by rw [flatS_len cnG_len, hm]) ?_
    (oneConnC ys) (by unfold maxLen; omega) (by omega) hB ?_
  · intro j u hu
    rw [addn]
    exact hc j u hu
  · intro v' w' h2 h3 _
    subst hm
    exact h v' w' (hown.join hB h2 h3) h3
/-- The same, of what may be nil. -/
theorem wpl_ConnCS (w : World) {ops : Array Oper} {rest : List Oper} {o : Oper} {a : Act} {Q : Exit → Act → World → Prop} (hgd : o.guard = none) (s x : Operand)
    (ho : o.op = .call { callee := .builtin .append, args := #[s, x], argTypes := #[35, 35] })
    (B : Nat) (v : Value) (L ys : List ConnV) (hs : a.eval s = v) (hown : OwnS cnG 11 85 w B v L)
    (p : Option Addr) (m c : Nat) (hrw : Rw CnR 11 w p ys) (hm : ys.length = m) (hsp : ∀ q, p = some q → q.spot = none) (hnil : p = none → m = 0 ∧ c = 0) (hx : a.eval x = .slice p m c)
    (hlen : L.length + m ≤ 2000000) (hB : B ≤ w.heap.size)
    (h : ∀ v' w', Hid (OwnS cnG 11 85 w' B v' (L ++ ys) ∧ Below B w w') → w.grownBy w' v.ownBlock → wpList Tryd.prog ops Q rest (a.put o.dst v') w') : wpList Tryd.prog ops Q (o :: rest) a w := by
  cases p with
  | some q =>
    obtain ⟨b, off, pt⟩ := q
    obtain rfl : pt = none := hsp _ rfl
    have h' : Rw (FR cnG CnRok) 11 w (some ⟨b, off, none⟩) ys := hrw
    exact wpl_ConnC w hgd s x ho B v L ys hs hown b off m c hm hx (flat_rw h' cnG_len (by omega)) hlen hB h
  | none =>
    obtain ⟨rfl, rfl⟩ := hnil rfl
    obtain rfl : ys = [] := List.length_eq_zero_iff.1 hm
    obtain ⟨i0, hi, hz0, hz1, hz2⟩ := info_parts infoConn
    refine wpList_append_own_none hgd s x 35 ho B 85 i0 11 Tryd.underlying35 hi v L.length (flatS cnG L) hs hown hx (h v w ?_ (grown_refl w _))
    rw [List.append_nil]
    exact ⟨hown, Below.refl _ _⟩
end Go.Proofs.YtbeehlhcckndcaaDoor

namespace Go.Proofs.YtbeehlhcckndcaaDoor
open Go.RowKit Go.PlainAid Go.Sort
set_option linter.unusedVariables false
set_option maxRecDepth 20000
theorem run_storeVar_at {P : Program} (w : World) (b o : Nat) (ty : TypeId) (v : Value) (ht : w.there b o 1) (hi : (P.info? ty).map (·.size) = some 1) (h1 : v.oneCell' = true) :
    (storeVar ty ⟨b, o, none⟩ v).run P w = .ok () (w.setCells b o [v]) := by
  have hc : v.cells = #[v] := by cases v <;> first | rfl | cases h1
  have := run_storeCells_cells (P := P) b o [v] 0 w (fun j hj => by simpa using (ht j (by simpa using hj)).1) (fun j hj => by simpa using (ht j (by simpa using hj)).2)
    (fun u hu => by simp at hu; subst hu; exact h1)
  cases hq : P.info? ty with
  | none => simp [hq] at hi
  | some i =>
    have hs : i.size = 1 := by simpa [hq] using hi
    simp only [Nat.add_zero] at this
    simp [storeVar, sizeOf, typeInfo, hq, hc, hs, this]
theorem wpl_put1 {P : Program} {ops : Array Oper} {rest : List Oper} {op : Oper} {a : Act} {w : World} {Q : Exit → Act → World → Prop} (t : TypeId) (hgd : op.guard = none) (x y : Operand) (ho : op.op = .store t x y)
    (q o : Nat) (v : Value) (hx : a.eval x = .pointer (some ⟨q, o, none⟩)) (hy : a.eval y = v) {cs : List Value} (h0 : Bx w q cs) (hn : (decide (o + 1 ≤ cs.length)) = true) (hi : (P.info? t).map (·.size) = some 1) (h1 : v.oneCell' = true)
    (h : ∀ w', w' = w.setCells q o [v] → wpList P ops Q rest (a.put op.dst undef) w') : wpList P ops Q (op :: rest) a w :=
  wpList_plain hgd fun _ hK => by
    unfold Oper.wp execOp
    simp only [ho, hx, hy, Instr.storeAt, Instr.sureAddr, Sem.run_bind, Sem.run_pure, Result.andThen_ok, run_storeVar_at w q o t v (h0.thereAt o 1 (of_decide_eq_true hn)) hi h1]
    exact hK _ _ (h _ rfl)
/-- A struct result that lies in a box is read whole. -/
theorem results_cell {P : Program} {fn : Func} {tmps : Array Value} {w : World} {a : Tmp} {t : TypeId} (hr : fn.results = #[.cell a t]) (q : Nat) (hp : tmps.getD a undef = .pointer (some ⟨q, 0, none⟩)) {cs : List Value} (hb : Bx w q cs)
    (d : TypeDesc) (hu : P.underlying t = some d) (hd : d.isRow = true) (hi : (P.info? t).map (·.size) = some cs.length) : (results fn tmps).run P w = .ok (.agg cs.toArray) w := by
  have h := run_loadVar_mid w q 0 t cs d hb.cl hu hd hi
  unfold results
  rw [hr]
  have hp' : tmps[a]?.getD undef = .pointer (some ⟨q, 0, none⟩) := by rw [← Array.getD_eq_getD_getElem?]; exact hp
  simp [hp', asAddr, h]
end Go.Proofs.YtbeehlhcckndcaaDoor

namespace Go.Proofs.YtbeehlhcckndcaaDoor
open Go.RowKit Go.PlainAid Go.Proofs.YtbeehlhcckndcaaDoor.Bt Go.Sort
set_option linter.unusedVariables false
set_option maxRecDepth 20000
/-- What is known of a gateway that is not too large. -/
structure GtS (g : GtV) : Prop where
  gm : g.gm.size ≤ 1048576
  wm : g.wm.size ≤ 1048576
  ps : g.ps.length ≤ 1048576
  ros : g.ros.length ≤ 1048576
  us : g.us.length ≤ 1048576
  ss : g.ss.length ≤ 1048576
  fs : g.fs.length ≤ 1048576
  es : g.es.length ≤ 1048576
  fl : g.fl.length ≤ 1048576
  co : g.co.length ≤ 1048576
  szr : SzR g.ros
  szu : szL wtUser g.us ≤ 1048576
  szs : szL wtSession g.ss ≤ 1048576
  szf : szL wtFail g.fs ≤ 1048576
  szl : ∀ x, x ∈ g.fl → (x.mc.size : Int) ≤ 1048576
  szc : ∀ x, x ∈ g.co → (x.mc.size : Int) ≤ 1048576 ∧ (x.inn.size : Int) ≤ 1048576 ∧ (x.out.size : Int) ≤ 1048576
  szt : szR g.ros ≤ 1048576
theorem row_put {α : Type} {R : World → α → List Value → Prop} {K : Nat} {w : World} {b q o : Nat} {xs : List α} {vs : List Value} (h : Rw R K w (some ⟨b, 0, none⟩) xs) (hne : q ≠ b) (hR : ∀ w w' x vs, R w x vs → R w' x vs) : Rw R K (w.setCells q o vs) (some ⟨b, 0, none⟩) xs :=
  rw_keepB (B := fun k => k ≠ q) h (Nat.le_of_eq (heap_cellsA vs o w).1.symm) (fun k hk => (heap_cellsA vs o w).2 k hk) (fun b' off e _ => by cases e; exact fun e => hne e.symm) (fun _ _ h => hR _ _ _ _ h)
theorem row_putR {K : Nat} {w : World} {b q o lo : Nat} {xs : List RoleV} {vs : List Value} (h : Rw (RoR lo) K w (some ⟨b, 0, none⟩) xs) (hne : q ≠ b) (hlo : q < lo) : Rw (RoR lo) K (w.setCells q o vs) (some ⟨b, 0, none⟩) xs :=
  rw_keepB (B := fun k => k ≠ q) h (Nat.le_of_eq (heap_cellsA vs o w).1.symm) (fun k hk => (heap_cellsA vs o w).2 k hk) (fun b' off e _ => by cases e; exact fun e => hne e.symm) (fun x us h => by
    obtain ⟨a, cap, h1, h2, h3, h4, h5, h6⟩ := h
    refine ⟨a, cap, h1, h2, h3, h4, rw_keepB (B := fun k => k ≠ q) h5 (Nat.le_of_eq (heap_cellsA vs o w).1.symm) (fun k hk => (heap_cellsA vs o w).2 k hk) (fun b' off e _ => ?_) (fun _ _ h => h), h6⟩
    have := h6 b' off e
    omega)
/-- The three boxes of toGateway. -/
structure TG (w : World) (A : GtA) (g : GtV) (cs : List Value) (W : World) : Prop where
  a : Bx W w.heap.size (gtC A g)
  r : Bx W (w.heap.size + 1) [.int .i64 0, .int .i64 0, .int .i64 0, .string ⟨#[]⟩, .string ⟨#[]⟩, .int .i64 0, .slice none 0 0, .slice none 0 0, .slice none 0 0, .slice none 0 0, .slice none 0 0, .slice none 0 0, .int .i64 0, .slice none 0 0, .slice none 0 0, .int .i64 0, .int .i64 0, .int .i64 0]
  n : Bx W (w.heap.size + 1 + 1) cs
  b : Below w.heap.size w W
  z : w.heap.size + 1 + 1 + 1 ≤ W.heap.size
theorem TG.call {w : World} {A : GtA} {g : GtV} {cs : List Value} {W W' : World} (h : TG w A g cs W) (hb : Below W.heap.size W W') : TG w A g cs W' := ⟨h.a.below hb, h.r.below hb, h.n.below hb, h.b.trans (hb.mono h.b.size), Nat.le_trans h.z hb.size⟩
theorem TG.put {w : World} {A : GtA} {g : GtV} {cs : List Value} {W : World} (h : TG w A g cs W) (o : Nat) (vs : List Value) : TG w A g (sets cs o vs) (W.setCells (w.heap.size + 1 + 1) o vs) :=
  ⟨h.a.apartO vs (by omega), h.r.apartO vs (by omega), h.n.sets vs o _ _, below_cells (by omega) vs o _ h.b, by rw [(heap_cellsA vs o W).1]; exact h.z⟩
end Go.Proofs.YtbeehlhcckndcaaDoor

namespace Go.Proofs.YtbeehlhcckndcaaDoor
open Go.RowKit
set_option linter.unusedVariables false
namespace Rel
theorem cell_of {w w' : World} {a : Addr} (h : w'.heap[a.block]? = w.heap[a.block]?) : w'.cell? a = w.cell? a := by
  unfold World.cell?; rw [h]
theorem froz_of {w w' : World} {a : Addr} (h : w'.heap[a.block]? = w.heap[a.block]?) : w'.frozen? a = w.frozen? a := by
  unfold World.frozen?; rw [h]
theorem bx_loc {w w' : World} {q : Nat} {cs : List Value} (h : Bx w q cs) (hq : w'.heap[q]? = w.heap[q]?) : Bx w' q cs :=
  Bx.of (fun j v hv => (cell_of (a := ⟨q, j, none⟩) hq).trans (h.cell j hv)) (fun j hj => (froz_of (a := ⟨q, j, none⟩) hq).trans (h.thaw j hj))
theorem own_loc {e : TypeId} {w w' : World} {B K n : Nat} {v : Value} {F : List Value} (h : w.ownsRow B e K v n F) (hq : ∀ k, v.ownBlock = some k → w'.heap[k]? = w.heap[k]?) : w'.ownsRow B e K v n F := by
  refine ⟨h.1, ?_⟩
  rcases h.2 with h' | ⟨g, cap, cur, h1, hB, hg, h4⟩
  · exact .inl h'
  · exact .inr ⟨g, cap, cur, h1, hB, by rw [hq g (by rw [h1]; rfl)]; exact hg, h4⟩

/-- A value that is known. -/
def valR (i : Nat) (nd : List Nat) (v : Value) : Rsc := ⟨fun σ _ => σ i = v, fun _ _ => False, [i], [], nd⟩
theorem valR_ok {Bs : Nat → Prop} (i : Nat) (nd : List Nat) (v : Value) : (valR i nd v).Ok Bs :=
  ⟨fun σ w w' h _ => h, fun σ σ' h => ⟨fun w hf => (h i (by simp [valR])).trans hf, fun b hb => hb⟩⟩
/-- Two values that stand to each other so. -/
def twoR (i j : Nat) (nd : List Nat) (p : Value → Value → Prop) : Rsc := ⟨fun σ _ => p (σ i) (σ j), fun _ _ => False, [i, j], [], nd⟩
theorem twoR_ok {Bs : Nat → Prop} (i j : Nat) (nd : List Nat) (p : Value → Value → Prop) : (twoR i j nd p).Ok Bs :=
  ⟨fun σ w w' h _ => h, fun σ σ' h => ⟨fun w hf => by
    have h1 := h i (by simp [twoR]); have h2 := h j (by simp [twoR])
    show p (σ' i) (σ' j)
    rw [h1, h2]; exact hf, fun b hb => hb⟩⟩
/-- A new value, with blocks of its own. -/
def retR (i : Nat) (nd : List Nat) (F : Value → World → Prop) (ow : Value → Nat → Prop) : Rsc := ⟨fun σ w => F (σ i) w, fun σ b => ow (σ i) b, [i], [], nd⟩
theorem retR_ok {Bs : Nat → Prop} (i : Nat) (nd : List Nat) (F : Value → World → Prop) (ow : Value → Nat → Prop) (h : ∀ v w w', F v w → Keep (fun b => Bs b ∨ ow v b) w w' → F v w') : (retR i nd F ow).Ok Bs :=
  ⟨fun σ w w' hf hk => h (σ i) w w' hf hk, fun σ σ' hh => by
    have h1 := hh i (by simp [retR])
    exact ⟨fun w hf => by show F (σ' i) w; rw [h1]; exact hf, fun b hb => by show ow (σ i) b; rw [← h1]; exact hb⟩⟩
theorem left_below {R : List Rsc} {r : Rsc} {i : Nat} {σ : Nat → Value} {w : World} {v : Value} {w' : World} (hf : r.fact (upd σ i v) w') (ho : ∀ b, r.own (upd σ i v) b → w.heap.size ≤ b ∧ b < w'.heap.size) (hb : Below w.heap.size w w') : Left R r i σ w v w' :=
  ⟨hf, fun b h => .inr (ho b h), ⟨hb.os, hb.tape, hb.output, hb.size, fun k hk => hb.block k hk.1⟩⟩
theorem left_val {R : List Rsc} {i : Nat} {nd : List Nat} {σ : Nat → Value} {w : World} {v : Value} : Left R (valR i nd v) i σ w v w :=
  left_below (upd_self σ i v) (fun b h => h.elim) (Below.refl _ _)
theorem left_ret {R : List Rsc} {i : Nat} {nd : List Nat} {σ : Nat → Value} {w w' : World} {v : Value} {F : Value → World → Prop} {ow : Value → Nat → Prop} (hf : F v w') (ho : ∀ b, ow v b → w.heap.size ≤ b ∧ b < w'.heap.size) (hb : Below w.heap.size w w') : Left R (retR i nd F ow) i σ w v w' :=
  left_below (by show F (upd σ i v i) w'; rw [upd_self]; exact hf) (fun b h => ho b (by have h2 : ow (upd σ i v i) b := h; rwa [upd_self] at h2)) hb
theorem heap_cells {q : Nat} : ∀ (vs : List Value) (o : Nat) (w : World), (w.setCells q o vs).heap.size = w.heap.size ∧ (w.setCells q o vs).os = w.os ∧ (w.setCells q o vs).tape = w.tape ∧ (w.setCells q o vs).output = w.output ∧ ∀ k, k ≠ q → (w.setCells q o vs).heap[k]? = w.heap[k]?
  | [], _, _ => ⟨rfl, rfl, rfl, rfl, fun _ _ => rfl⟩
  | v :: r, o, w => by
    rw [World.setCells]
    obtain ⟨h1, h2, h3, h4, h5⟩ := heap_cells r (o + 1) (w.setCell ⟨q, o, none⟩ v)
    exact ⟨h1.trans (by simp [World.setCell]), h2, h3, h4, fun k hk => (h5 k hk).trans (Below.heap_setCell _ _ _ _ hk)⟩
theorem fact_of {Bs : Nat → Prop} {R : List Rsc} {σ : Nat → Value} {w : World} : ∀ {l : List Nat} {j : Nat} {r : Rsc}, factsOf Bs R σ w l → l.contains j = true → R[j]? = some r → r.fact σ w
  | x :: l, j, r, h, hm, hr => by
    rcases List.mem_cons.1 (List.contains_iff_mem.1 hm) with e | e
    · subst e
      obtain ⟨r', hr', hf, _⟩ := h.1
      rw [hr] at hr'; cases hr'
      exact hf
    · exact fact_of h.2 (List.contains_iff_mem.2 e) hr
theorem walk_cons {P : Program} {ops : Array Oper} {Bs : Nat → Prop} {wS : World} {R : List Rsc} {o : Oper} {l : List Oper} {r : Rsc} {rs : List Rsc} {i : Nat} {Fr : (Nat → Value) → Act}
    (h : StepAt P ops Bs wS R i o r Fr) (hr : Walk P ops Bs wS R l rs (i + 1) (fun σ => (Fr σ).put o.dst (σ i))) : Walk P ops Bs wS R (o :: l) (r :: rs) i Fr := ⟨h, hr⟩
theorem walk_nil {P : Program} {ops : Array Oper} {Bs : Nat → Prop} {wS : World} {R : List Rsc} {rs : List Rsc} {i : Nat} {Fr : (Nat → Value) → Act} : Walk P ops Bs wS R [] rs i Fr := trivial
/-- What an operation has yielded, shut (so that no tactic looks into the run). -/
structure Yld (P : Program) (post : Value → World → Prop) (res : Result Next) : Prop where
  out : relUpon P post res
theorem yld_val {P : Program} {post : Value → World → Prop} {u : Value} {w : World} (h : post u w) : Yld P post (.ok (.value u) w) := ⟨h⟩
theorem yld_call {P : Program} {post : Value → World → Prop} {w : World} {f : FuncId} {args : Array Value} (h : Calls P f args w fun e w'' => ∃ v, e = .returned v ∧ post v w'') : Yld P post (.ok (.enter f args) w) := ⟨h⟩
theorem yld_get {P : Program} {post : Value → World → Prop} {o : Oper} {a : Act} {w : World} (t : TypeId) (x : Operand) (ho : o.op = .load t x) {q : Nat} (hx : a.eval x = .pointer (some ⟨q, 0, none⟩)) {cs : List Value} (hb : Bx w q cs) (d : TypeDesc) (hu : P.underlying t = some d) (hd : d.isRow = true)
    (hi : (P.info? t).map (·.size) = some cs.length) (h : post (.agg cs.toArray) w) : Yld P post ((execOp a.eval o).run P w) := by
  refine ⟨?_⟩
  unfold execOp
  simp only [ho, hx, Instr.loadAt, Instr.sureAddr, Sem.run_bind, Sem.run_pure, Result.andThen_ok, run_loadVar_mid w q 0 t cs d hb.cl hu hd hi]
  exact h
theorem yld_put {P : Program} {post : Value → World → Prop} {o : Oper} {a : Act} {w : World} (t : TypeId) (x y : Operand) (ho : o.op = .store t x y) {q : Nat} {cells : Array Value} (hx : a.eval x = .pointer (some ⟨q, 0, none⟩)) (hy : a.eval y = .agg cells) {cs : List Value} (hb : Bx w q cs)
    (hl : cells.size = cs.length) (hi : (P.info? t).map (·.size) = some cells.size) (h1 : cells.toList.all (·.oneCell') = true) (h : post undef (w.setCells q 0 cells.toList)) : Yld P post ((execOp a.eval o).run P w) := by
  refine ⟨?_⟩
  have hr := run_storeAt_mid w q 0 t cells (by rw [hl]; exact hb.th) hi (by rw [← Array.all_toList]; exact h1)
  unfold execOp
  simp only [ho, hx, hy, Sem.run_bind, Sem.run_pure, Result.andThen_ok, hr]
  exact h
theorem step_want {P : Program} {ops : Array Oper} {Bs : Nat → Prop} {wS : World} {R : List Rsc} {o : Oper} {r : Rsc} {i : Nat} {Fr : (Nat → Value) → Act} (hg : o.guard = none)
    (h : ∀ σ w, Keep Bs wS w → factsOf Bs R σ w (r.tk ++ r.nd) → ∀ post : Value → World → Prop, (∀ v w', Left R r i σ w v w' → post v w') → Yld P post ((execOp (Fr σ).eval o).run P w)) : StepAt P ops Bs wS R i o r Fr := by
  intro σ w hK hF
  rw [if_pos (by unfold Region.wanted; rw [hg])]
  exact (h σ w hK hF _ (fun _ _ h => h)).out
end Rel
end Go.Proofs.YtbeehlhcckndcaaDoor
