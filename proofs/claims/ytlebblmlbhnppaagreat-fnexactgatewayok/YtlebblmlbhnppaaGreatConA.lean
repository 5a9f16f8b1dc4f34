/- Right connections and right segments, of both sides. -/
import Derived.Test.YtlebblmlbhnppaaGreatCoV
import Derived.Test.YtlebblmlbhnppaaGreatSeqA
import Derived.Test.YtlebblmlbhnppaaGreatKeeps
import Derived.Test.YtlebblmlbhnppaaGreatMac
import Derived.Test.YtlebblmlbhnppaaGreatMacs
namespace Go.Proofs.YtlebblmlbhnppaaGreat
open Go.RowKit Go.PlainAid Go.Proofs.YtlebblmlbhnppaaGreat.Bt Go.Sort
set_option linter.unusedVariables false
set_option maxRecDepth 20000

theorem toG {f : Nat} {args : Array Value} {w : World} {r : Ending} (h : Calls Tryz.prog f args w fun e w' => e = r ∧ w' = w) : Calls Tryz.prog f args w fun e w' => e = r ∧ Grw w w' :=
  h.mono fun e w' hh => ⟨hh.1, by rw [hh.2]; exact Grw.refl _⟩
def bitN (b : Bool) : Int := if b then 1 else 0
theorem bitN_bd (b : Bool) : 0 ≤ bitN b ∧ bitN b ≤ 1 := by unfold bitN; split <;> omega
/-- How many numbers were sent and not acknowledged. -/
def sentN (c : ConnV) : Int := (c.out.size : Int) + bitN c.fin + bitN (c.st == 1)
theorem sentN_bd (c : ConnV) : (c.out.size : Int) ≤ sentN c ∧ sentN c ≤ (c.out.size : Int) + 2 := by
  have := bitN_bd c.fin
  have := bitN_bd (c.st == 1)
  unfold sentN
  omega
def nuB (c : ConnV) : Bool := dec (0 ≤ c.ip ∧ c.ip ≤ 4294967295) && dec (0 ≤ c.po ∧ c.po ≤ 65535) && dec (0 ≤ c.di ∧ c.di ≤ 4294967295) && dec (1 ≤ c.st ∧ c.st ≤ 4) && dec (0 ≤ c.un ∧ c.un ≤ 4294967295) && dec (0 ≤ c.nx ∧ c.nx ≤ 4294967295) && dec (0 ≤ c.wa ∧ c.wa ≤ 4294967295)
def txB (c : ConnV) : Bool := ((c.mc.size : Int) == 6) && !decide ((300 : Int) < (c.inn.size : Int)) && !decide ((300 : Int) < (c.out.size : Int)) && !((c.st == 1) && !(c.inn.toList == [])) && (c.fin == (c.st == 3)) && (c.fin || (c.out.toList == []))
/-- Whether a connection is right. -/
def okB (c : ConnV) : Bool := nuB c && txB c && (sqN (c.nx - c.un) == sentN c)
/-- Whether a segment is right. -/
def sgB (g : SegV) : Bool := dec (0 ≤ g.sp ∧ g.sp ≤ 65535) && dec (0 ≤ g.dp ∧ g.dp ≤ 65535) && dec (0 ≤ g.sq ∧ g.sq ≤ 4294967295) && dec (0 ≤ g.ac ∧ g.ac ≤ 4294967295) && dec (0 ≤ g.fl ∧ g.fl ≤ 31) && dec (0 ≤ g.wi ∧ g.wi ≤ 65535) && decide ((g.da.size : Int) ≤ 360)
theorem l01Bit_any (b : Bool) (w : World) : Calls Tryz.prog 247 #[.bool b] w fun e w' => e = .returned (.int .i64 (bitN b)) ∧ w' = w := by
  cases b <;>
  · go_enter Tryz.func247, Tryz.ntmps247
    go_wp2
    go_ret
    exact ⟨rfl, rfl⟩
set_option maxHeartbeats 1000000 in
theorem l10Sent_any (mc : ByteArray) (ip po di st un nx wa : Int) (inn out : ByteArray) (fin : Bool) (w : World) (ho : out.size ≤ 1048576) :
    Calls Tryz.prog 202 #[.agg #[.string mc, .int .i64 ip, .int .i64 po, .int .i64 di, .int .i64 st, .int .i64 un, .int .i64 nx, .int .i64 wa, .string inn, .string out, .bool fin]] w fun e w' => e = .returned (.int .i64 (sentN ⟨mc, ip, po, di, st, un, nx, wa, inn, out, fin⟩)) ∧ Grw w w' := by
  have T1 : Hid (∀ w, Calls Tryz.prog 247 #[.bool fin] w fun e w' => e = .returned (.int .i64 (bitN fin)) ∧ Grw w w') := fun w => toG (l01Bit_any fin w)
  have T2 : Hid (∀ w, Calls Tryz.prog 247 #[.bool (st == 1)] w fun e w' => e = .returned (.int .i64 (bitN (st == 1))) ∧ Grw w w') := fun w => toG (l01Bit_any (st == 1) w)
  have E : Hid (sentN ⟨mc, ip, po, di, st, un, nx, wa, inn, out, fin⟩ = (out.size : Int) + bitN fin + bitN (st == 1)) := rfl
  rw [E.out]
  have hb1 := bitN_bd fin
  have hb2 := bitN_bd (st == 1)
  generalize bitN fin = x1 at T1 hb1 ⊢
  generalize bitN (st == 1) = x2 at T2 hb2 ⊢
  clear E
  have B0 : Hid (Grw w (w.alloc (.cells #[.string mc, .int .i64 ip, .int .i64 po, .int .i64 di, .int .i64 st, .int .i64 un, .int .i64 nx, .int .i64 wa, .string inn, .string out, .bool fin] 206))) := (Grw.refl _).alloc _
  have q4 : (w.alloc (.cells #[.string mc, .int .i64 ip, .int .i64 po, .int .i64 di, .int .i64 st, .int .i64 un, .int .i64 nx, .int .i64 wa, .string inn, .string out, .bool fin] 206)).cell? ⟨w.heap.size, 4, none⟩ = some (.int .i64 st) := by simp [go_sem]
  have q9 : (w.alloc (.cells #[.string mc, .int .i64 ip, .int .i64 po, .int .i64 di, .int .i64 st, .int .i64 un, .int .i64 nx, .int .i64 wa, .string inn, .string out, .bool fin] 206)).cell? ⟨w.heap.size, 9, none⟩ = some (.string out) := by simp [go_sem]
  have q10 : (w.alloc (.cells #[.string mc, .int .i64 ip, .int .i64 po, .int .i64 di, .int .i64 st, .int .i64 un, .int .i64 nx, .int .i64 wa, .string inn, .string out, .bool fin] 206)).cell? ⟨w.heap.size, 10, none⟩ = some (.bool fin) := by simp [go_sem]
  have hmix : Tryz.prog.follows .mixedOrders = true := by kernel_rfl
  have hw1 : IntKind.i64.wrap ((out.size : Int) + x1) = (out.size : Int) + x1 := by rw [IntKind.wrap_i64]; omega
  have hw2 : IntKind.i64.wrap ((out.size : Int) + x1 + x2) = (out.size : Int) + x1 + x2 := by rw [IntKind.wrap_i64]; omega
  go_enter Tryz.func202, Tryz.ntmps202
  go_wp2_with fail
  generalize w.alloc (.cells #[.string mc, .int .i64 ip, .int .i64 po, .int .i64 di, .int .i64 st, .int .i64 un, .int .i64 nx, .int .i64 wa, .string inn, .string out, .bool fin] 206) = W at *
  have y4 : ∀ n os, (grow (W.drewN n) os).cell? ⟨w.heap.size, 4, none⟩ = some (.int .i64 st) := fun n os => bkeep (Grw.below ⟨n, os, rfl⟩) q4
  have y9 : ∀ n os, (grow (W.drewN n) os).cell? ⟨w.heap.size, 9, none⟩ = some (.string out) := fun n os => bkeep (Grw.below ⟨n, os, rfl⟩) q9
  have y10 : ∀ n os, (grow (W.drewN n) os).cell? ⟨w.heap.size, 10, none⟩ = some (.bool fin) := fun n os => bkeep (Grw.below ⟨n, os, rfl⟩) q10
  refine wp_region_quiet_grown (by assumption) (by kernel_rfl) ?_
  repeat (go_big_quiet_step (first | fail | (go_at_call 247; first | (with_reducible exact Calls.grown_of (T1.out _)) | (with_reducible exact Calls.grown_of (T2.out _)))))
  refine wpQuiet_nil ?_
  intro _ hw'
  obtain ⟨⟨nq, osq⟩, hw''⟩ := hw'
  subst hw''
  have HG2 : Hid (Grw w (grow (W.drewN nq) osq)) := B0.out.trans ⟨nq, osq, rfl⟩
  clear y4 y9 y10 q4 q9 q10 B0
  generalize (grow (W.drewN nq) osq) = w5 at *
  go_wp2
  go_ret
  exact ⟨rfl, HG2.out⟩
set_option maxHeartbeats 1000000 in
theorem unack_any (mc : ByteArray) (ip po di st un nx wa : Int) (inn out : ByteArray) (fin : Bool) (w : World) (ho : out.size ≤ 1048576) :
    Calls Tryz.prog 213 #[.agg #[.string mc, .int .i64 ip, .int .i64 po, .int .i64 di, .int .i64 st, .int .i64 un, .int .i64 nx, .int .i64 wa, .string inn, .string out, .bool fin]] w fun e w' => e = .returned (.int .i64 (sentN ⟨mc, ip, po, di, st, un, nx, wa, inn, out, fin⟩)) ∧ Grw w w' := by
  have E : Hid (sentN ⟨mc, ip, po, di, st, un, nx, wa, inn, out, fin⟩ = (out.size : Int) + bitN fin + bitN (st == 1)) := rfl
  rw [E.out]
  clear E
  cases fin with
  | false =>
    generalize hb : (st == 1) = b
    cases b with
    | false =>
      go_enter Tryz.func213, Tryz.ntmps213
      go_wp2
      go_ret
      exact ⟨by simp [bitN], (Grw.refl _).alloc _⟩
    | true =>
      go_enter Tryz.func213, Tryz.ntmps213
      go_wp2
      go_ret
      exact ⟨by simp [bitN], (Grw.refl _).alloc _⟩
  | true =>
    generalize hb : (st == 1) = b
    cases b with
    | false =>
      go_enter Tryz.func213, Tryz.ntmps213
      go_wp2
      go_ret
      exact ⟨by simp [bitN], (Grw.refl _).alloc _⟩
    | true =>
      go_enter Tryz.func213, Tryz.ntmps213
      go_wp2
      go_ret
      exact ⟨by simp [bitN], (Grw.refl _).alloc _⟩
set_option maxHeartbeats 2000000 in
theorem conNums_any (mc : ByteArray) (ip po di st un nx wa : Int) (inn out : ByteArray) (fin : Bool) (w : World) (hp : po ≤ 9223372036854775807) :
    Calls Tryz.prog 210 #[.agg #[.string mc, .int .i64 ip, .int .i64 po, .int .i64 di, .int .i64 st, .int .i64 un, .int .i64 nx, .int .i64 wa, .string inn, .string out, .bool fin]] w fun e w' => e = .returned (.bool (nuB ⟨mc, ip, po, di, st, un, nx, wa, inn, out, fin⟩)) ∧ Grw w w' := by
  have T0 : Hid (∀ w, Calls Tryz.prog 170 #[.int .i64 ip] w fun e w' => e = .returned (.bool (dec (0 ≤ ip ∧ ip ≤ 4294967295))) ∧ w' = w) := fun w => addressOK_any ip w
  have T1 : Hid (∀ w, Calls Tryz.prog 171 #[.int .i64 po] w fun e w' => e = .returned (.bool (dec (0 ≤ po ∧ po ≤ 65535))) ∧ w' = w) := fun w => portOK_any po w hp
  have T2 : Hid (∀ w, Calls Tryz.prog 170 #[.int .i64 di] w fun e w' => e = .returned (.bool (dec (0 ≤ di ∧ di ≤ 4294967295))) ∧ w' = w) := fun w => addressOK_any di w
  have T3 : Hid (∀ w, Calls Tryz.prog 85 #[.int .i64 st, .int .i64 1, .int .i64 4] w fun e w' => e = .returned (.bool (dec (1 ≤ st ∧ st ≤ 4))) ∧ w' = w) := fun w => between_any st 1 4 w
  have T4 : Hid (∀ w, Calls Tryz.prog 86 #[.int .i64 un] w fun e w' => e = .returned (.bool (dec (0 ≤ un ∧ un ≤ 4294967295))) ∧ w' = w) := fun w => seqOK_any un w
  have T5 : Hid (∀ w, Calls Tryz.prog 86 #[.int .i64 nx] w fun e w' => e = .returned (.bool (dec (0 ≤ nx ∧ nx ≤ 4294967295))) ∧ w' = w) := fun w => seqOK_any nx w
  have T6 : Hid (∀ w, Calls Tryz.prog 86 #[.int .i64 wa] w fun e w' => e = .returned (.bool (dec (0 ≤ wa ∧ wa ≤ 4294967295))) ∧ w' = w) := fun w => seqOK_any wa w
  have E : Hid (nuB ⟨mc, ip, po, di, st, un, nx, wa, inn, out, fin⟩ = ((dec (0 ≤ ip ∧ ip ≤ 4294967295)) && (dec (0 ≤ po ∧ po ≤ 65535)) && (dec (0 ≤ di ∧ di ≤ 4294967295)) && (dec (1 ≤ st ∧ st ≤ 4)) && (dec (0 ≤ un ∧ un ≤ 4294967295)) && (dec (0 ≤ nx ∧ nx ≤ 4294967295)) && (dec (0 ≤ wa ∧ wa ≤ 4294967295)))) := rfl
  generalize dec (0 ≤ ip ∧ ip ≤ 4294967295) = t0 at T0 E
  generalize dec (0 ≤ po ∧ po ≤ 65535) = t1 at T1 E
  generalize dec (0 ≤ di ∧ di ≤ 4294967295) = t2 at T2 E
  generalize dec (1 ≤ st ∧ st ≤ 4) = t3 at T3 E
  generalize dec (0 ≤ un ∧ un ≤ 4294967295) = t4 at T4 E
  generalize dec (0 ≤ nx ∧ nx ≤ 4294967295) = t5 at T5 E
  generalize dec (0 ≤ wa ∧ wa ≤ 4294967295) = t6 at T6 E
  go_enter Tryz.func210, Tryz.ntmps210
  go_wp2_with fail
  refine (T0.out _).mono ?_
  rintro e wx1 ⟨rfl, rfl⟩
  cases t0 with
  | false =>
    go_wp2
    go_ret
    exact ⟨by rw [E.out]; rfl, ((Grw.refl _).alloc _)⟩
  | true =>
    go_wp2_with fail
    refine (T1.out _).mono ?_
    rintro e wx2 ⟨rfl, rfl⟩
    cases t1 with
    | false =>
      go_wp2
      go_ret
      exact ⟨by rw [E.out]; rfl, ((Grw.refl _).alloc _)⟩
    | true =>
      go_wp2_with fail
      refine (T2.out _).mono ?_
      rintro e wx3 ⟨rfl, rfl⟩
      cases t2 with
      | false =>
        go_wp2
        go_ret
        exact ⟨by rw [E.out]; rfl, ((Grw.refl _).alloc _)⟩
      | true =>
        go_wp2_with fail
        refine (T3.out _).mono ?_
        rintro e wx4 ⟨rfl, rfl⟩
        cases t3 with
        | false =>
          go_wp2
          go_ret
          exact ⟨by rw [E.out]; rfl, ((Grw.refl _).alloc _)⟩
        | true =>
          go_wp2_with fail
          refine (T4.out _).mono ?_
          rintro e wx5 ⟨rfl, rfl⟩
          cases t4 with
          | false =>
            go_wp2
            go_ret
            exact ⟨by rw [E.out]; rfl, ((Grw.refl _).alloc _)⟩
          | true =>
            go_wp2_with fail
            refine (T5.out _).mono ?_
            rintro e wx6 ⟨rfl, rfl⟩
            cases t5 with
            | false =>
              go_wp2
              go_ret
              exact ⟨by rw [E.out]; rfl, ((Grw.refl _).alloc _)⟩
            | true =>
              go_wp2_with fail
              refine (T6.out _).mono ?_
              rintro e wx7 ⟨rfl, rfl⟩
              cases t6 with
              | false =>
                go_wp2
                go_ret
                exact ⟨by rw [E.out]; rfl, ((Grw.refl _).alloc _)⟩
              | true =>
                go_wp2
                go_ret
                exact ⟨by rw [E.out]; rfl, ((Grw.refl _).alloc _)⟩
set_option maxHeartbeats 1000000 in
theorem conTexts_any (mc : ByteArray) (ip po di st un nx wa : Int) (inn out : ByteArray) (fin : Bool) (w : World) (hmc : mc.size ≤ 9223372036854775807) (hi : inn.size ≤ 9223372036854775807) (ho : out.size ≤ 9223372036854775807) :
    Calls Tryz.prog 211 #[.agg #[.string mc, .int .i64 ip, .int .i64 po, .int .i64 di, .int .i64 st, .int .i64 un, .int .i64 nx, .int .i64 wa, .string inn, .string out, .bool fin]] w fun e w' => e = .returned (.bool (txB ⟨mc, ip, po, di, st, un, nx, wa, inn, out, fin⟩)) ∧ Grw w w' := by
  have E : Hid (txB ⟨mc, ip, po, di, st, un, nx, wa, inn, out, fin⟩ = (((mc.size : Int) == 6) && !decide ((300 : Int) < (inn.size : Int)) && !decide ((300 : Int) < (out.size : Int)) && !((st == 1) && !(inn.toList == [])) && (fin == (st == 3)) && (fin || (out.toList == [])))) := rfl
  have T0 : Hid (∀ w, Calls Tryz.prog 185 #[.string mc] w fun e w' => e = .returned (.bool ((mc.size : Int) == 6)) ∧ w' = w) := fun w => isMac_b mc _ rfl w
  generalize ((mc.size : Int) == 6) = t0 at T0 E
  generalize h1 : decide ((300 : Int) < (inn.size : Int)) = t1 at E
  generalize h2 : decide ((300 : Int) < (out.size : Int)) = t2 at E
  generalize h3 : (st == 1) = t3 at E
  generalize h4 : (inn.toList == []) = t4 at E
  generalize h5 : (st == 3) = t5 at E
  generalize h6 : (out.toList == []) = t6 at E
  go_enter Tryz.func211, Tryz.ntmps211
  go_wp2_with fail
  refine (T0.out _).mono ?_
  rintro e w1 ⟨rfl, rfl⟩
  cases t0 with
  | false =>
    go_wp2
    go_ret
    exact ⟨by rw [E.out]; rfl, (Grw.refl _).alloc _⟩
  | true =>
    cases t1 with
    | false =>
      cases t2 with
      | false =>
        cases t3 with
        | false =>
          cases fin with
          | false =>
            cases t5 with
            | false =>
              cases t6 with
              | false =>
                go_wp2
                go_ret
                exact ⟨by rw [E.out]; rfl, (Grw.refl _).alloc _⟩
              | true =>
                go_wp2
                go_ret
                exact ⟨by rw [E.out]; rfl, (Grw.refl _).alloc _⟩
            | true =>
              go_wp2
              go_ret
              exact ⟨by rw [E.out]; rfl, (Grw.refl _).alloc _⟩
          | true =>
            cases t5 with
            | false =>
              go_wp2
              go_ret
              exact ⟨by rw [E.out]; rfl, (Grw.refl _).alloc _⟩
            | true =>
              go_wp2
              go_ret
              exact ⟨by rw [E.out]; rfl, (Grw.refl _).alloc _⟩
        | true =>
          cases t4 with
          | false =>
            go_wp2
            go_ret
            exact ⟨by rw [E.out]; rfl, (Grw.refl _).alloc _⟩
          | true =>
            cases fin with
            | false =>
              cases t5 with
              | false =>
                cases t6 with
                | false =>
                  go_wp2
                  go_ret
                  exact ⟨by rw [E.out]; rfl, (Grw.refl _).alloc _⟩
                | true =>
                  go_wp2
                  go_ret
                  exact ⟨by rw [E.out]; rfl, (Grw.refl _).alloc _⟩
              | true =>
                go_wp2
                go_ret
                exact ⟨by rw [E.out]; rfl, (Grw.refl _).alloc _⟩
            | true =>
              cases t5 with
              | false =>
                go_wp2
                go_ret
                exact ⟨by rw [E.out]; rfl, (Grw.refl _).alloc _⟩
              | true =>
                go_wp2
                go_ret
                exact ⟨by rw [E.out]; rfl, (Grw.refl _).alloc _⟩
      | true =>
        go_wp2
        go_ret
        exact ⟨by rw [E.out]; rfl, (Grw.refl _).alloc _⟩
    | true =>
      go_wp2
      go_ret
      exact ⟨by rw [E.out]; rfl, (Grw.refl _).alloc _⟩
end Go.Proofs.YtlebblmlbhnppaaGreat
