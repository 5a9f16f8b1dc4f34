/- Flows appended; those that are kept by the model; those that are left by the program. -/
import Derived.Test.YthokaemeadhkjaaFloT
import Derived.Test.YthokaemeadhkjaaOwnT
namespace Go.Proofs.Ythokaemeadhkjaa
open Go.RowKit Go.PlainAid Go.Proofs.Ythokaemeadhkjaa.Bt Go.Sort
set_option linter.unusedVariables false
set_option maxRecDepth 20000
theorem one9 (ys : List FlowV) : ∀ u ∈ flatS wvG ys, u.oneCell' = true := by
  intro u hu
  unfold flatS at hu
  rw [List.mem_flatMap] at hu
  obtain ⟨f, _, hf⟩ := hu
  simp [wvG] at hf
  rcases hf with rfl | rfl | rfl | rfl | rfl | rfl | rfl | rfl | rfl <;> rfl
/-- 'append(row, ys...)'. -/
theorem wpl_flows (w : World) {ops : Array Oper} {rest : List Oper} {o : Oper} {a : Act} {Q : Exit → Act → World → Prop} (hgd : o.guard = none) (s x : Operand)
    (ho : o.op = .call { callee := .builtin .append, args := #[s, x], argTypes := #[23, 23] })
    (B : Nat) (v : Value) (L ys : List FlowV) (hs : a.eval s = v) (hown : OwnS wvG 9 28 w B v L)
    (g off m c : Nat) (hm : ys.length = m) (hx : a.eval x = .slice (some ⟨g, off, none⟩) m c) (hc : ∀ j u, (flatS wvG ys)[j]? = some u → w.cell? ⟨g, off + j, none⟩ = some u)
    (hlen : L.length + m ≤ 100000) (hB : B ≤ w.heap.size)
    (h : ∀ v' w', Hid (OwnS wvG 9 28 w' B v' (L ++ ys) ∧ Below B w w') → w.grownBy w' v.ownBlock → wpList Try.prog ops Q rest (a.put o.dst v') w') : wpList Try.prog ops Q (o :: rest) a w := by
  obtain ⟨i0, hi, hz0, hz1, hz2⟩ := info_parts infoFlow
  refine wpList_append_own w hgd s x 23 ho B 28 i0 (.agg #[.int .i64 0, .string ⟨#[]⟩, .int .i64 0, .int .i64 0, .int .i64 0, .int .i64 0, .int .i64 0, .int .i64 0, .int .i64 0]) 9 80 Try.underlying23 hi hz0 hz1 hz2 rfl (by decide) v L.length (flatS wvG L) hs hown ⟨g, off, none⟩ m c (flatS wvG ys) hx (by rw [flatS_len wvG_len, hm]) ?_
    (one9 ys) (by unfold maxLen; omega) (by omega) hB ?_
  · intro j u hu
    rw [addn]
    exact hc j u hu
  · intro v' w' h2 h3 _
    subst hm
    exact h v' w' (hown.join hB h2 h3) h3
theorem one_cells {w : World} {g : Nat} {f : FlowV} (h : ∀ j u, (wvG f)[j]? = some u → w.cell? ⟨g, j, none⟩ = some u) : ∀ j u, (flatS wvG [f])[j]? = some u → w.cell? ⟨g, 0 + j, none⟩ = some u := by
  intro j u hu
  rw [flatS_one] at hu
  rw [Nat.zero_add]
  exact h j u hu
theorem box_cells {w : World} (pr : Int) (mc : ByteArray) (si sp di dp st un ow : Int) (T : TypeId) : ∀ j u, (wvG ⟨pr, mc, si, sp, di, dp, st, un, ow⟩)[j]? = some u → (w.alloc (.cells #[.int .i64 pr, .string mc, .int .i64 si, .int .i64 sp, .int .i64 di, .int .i64 dp, .int .i64 st, .int .i64 un, .int .i64 ow] T)).cell? ⟨w.heap.size, j, none⟩ = some u := by
  intro j u hu
  match j, hu with
  | 0, hu => cases hu; simp
  | 1, hu => cases hu; simp
  | 2, hu => cases hu; simp
  | 3, hu => cases hu; simp
  | 4, hu => cases hu; simp
  | 5, hu => cases hu; simp
  | 6, hu => cases hu; simp
  | 7, hu => cases hu; simp
  | 8, hu => cases hu; simp

/-- Those that are kept. -/
def lkP (now owner : Int) (f : FlowV) : Bool := decide (now < f.un) && (f.ow != owner)
def ftL (p : FlowV → Bool) (fs : List FlowV) (k : Nat) : List FlowV := (fs.take k).filter p
theorem ftL_yes {p : FlowV → Bool} {fs : List FlowV} {k : Nat} {f : FlowV} (hf : fs[k]? = some f) (h : p f = true) : ftL p fs (k + 1) = ftL p fs k ++ [f] := by
  unfold ftL
  rw [takeS_next hf, List.filter_append]
  simp [h]
theorem ftL_no {p : FlowV → Bool} {fs : List FlowV} {k : Nat} {f : FlowV} (hf : fs[k]? = some f) (h : p f = false) : ftL p fs (k + 1) = ftL p fs k := by
  unfold ftL
  rw [takeS_next hf, List.filter_append]
  simp [h]
theorem ftL_len (p : FlowV → Bool) (fs : List FlowV) (k : Nat) : (ftL p fs k).length ≤ k := by
  unfold ftL
  exact Nat.le_trans (List.length_filter_le _ _) (by rw [List.length_take]; omega)
theorem ftL_all (p : FlowV → Bool) (fs : List FlowV) : ftL p fs fs.length = fs.filter p := by unfold ftL; rw [List.take_length]
set_option maxHeartbeats 2000000 in
theorem l09Keep_any (a : Option Addr) (len cap : Nat) (fs : List FlowV) (now owner : Int) (w : World) (h : Rw FlR 9 w a fs) (hl : fs.length = len) (hm : len ≤ 4096) :
    Calls Try.prog 64 #[.slice a len cap, .int .i64 now, .int .i64 owner] w fun e w' => ∃ v, e = .returned v ∧ OwnS wvG 9 28 w' w.heap.size v (fs.filter (lkP now owner)) ∧ Below w.heap.size w w' := by
  have RW : Hid (Rw FlR 9 w a fs) := h
  clear h
  have O0 : Hid (OwnS wvG 9 28 (w.alloc (.cells #[] 28)) w.heap.size (.slice (some ⟨w.heap.size, 0, none⟩) 0 0) [] ∧ Below w.heap.size w (w.alloc (.cells #[] 28))) := ⟨OwnS.lit w _ (Nat.le_refl _), (Below.refl _ _).alloc (Nat.le_refl _) _⟩
  go_enter Try.func64, Try.ntmps64
  go_wp2
  go_loopw [7, 8] (fun v i wr => ∃ k : Nat, k ≤ len ∧ i = .int .i64 k ∧ Hid (OwnS wvG 9 28 wr w.heap.size v (ftL (lkP now owner) fs k) ∧ Below w.heap.size w wr)) (fun _ i _ => len - (intOf i).toNat)
  case atStart => exact ⟨0, Nat.zero_le _, rfl, O0⟩
  case round =>
    obtain ⟨k, hk, rfl, X⟩ := hrel
    by_cases hlt : k < len
    · obtain ⟨x, hx⟩ := at_of hl hlt
      have hltz : (k : Int) < (len : Int) := by omega
      obtain ⟨b, off, vs, rfl, hb, hvl, hR, hc⟩ := RW.out.at FR.kp X.out.2 hx
      have HY : Hid (lkP now owner x = true → ftL (lkP now owner) fs (k + 1) = ftL (lkP now owner) fs k ++ [x]) := fun h => ftL_yes hx h
      have HN : Hid (lkP now owner x = false → ftL (lkP now owner) fs (k + 1) = ftL (lkP now owner) fs k) := fun h => ftL_no hx h
      have hwl : Hid ((ftL (lkP now owner) fs k).length ≤ 4096) := Nat.le_trans (ftL_len _ fs k) (by omega)
      obtain ⟨pr, mc, si, sp, di, dp, st, un, ow⟩ := x
      obtain ⟨rfl, -⟩ := hR
      have E : lkP now owner ⟨pr, mc, si, sp, di, dp, st, un, ow⟩ = (decide (now < un) && (ow != owner)) := rfl
      rw [E] at HY HN
      have q0 : wr.cell? ⟨b, off + k * 9, none⟩ = some (.int .i64 pr) := hc 0 _ rfl
      have q1 : wr.cell? ⟨b, off + k * 9 + 1, none⟩ = some (.string mc) := hc 1 _ rfl
      have q2 : wr.cell? ⟨b, off + k * 9 + 2, none⟩ = some (.int .i64 si) := hc 2 _ rfl
      have q3 : wr.cell? ⟨b, off + k * 9 + 3, none⟩ = some (.int .i64 sp) := hc 3 _ rfl
      have q4 : wr.cell? ⟨b, off + k * 9 + 4, none⟩ = some (.int .i64 di) := hc 4 _ rfl
      have q5 : wr.cell? ⟨b, off + k * 9 + 5, none⟩ = some (.int .i64 dp) := hc 5 _ rfl
      have q6 : wr.cell? ⟨b, off + k * 9 + 6, none⟩ = some (.int .i64 st) := hc 6 _ rfl
      have q7 : wr.cell? ⟨b, off + k * 9 + 7, none⟩ = some (.int .i64 un) := hc 7 _ rfl
      have q8 : wr.cell? ⟨b, off + k * 9 + 8, none⟩ = some (.int .i64 ow) := hc 8 _ rfl
      clear hc hvl hx E
      generalize ht1 : decide (now < un) = t1 at HY HN
      cases t1 with
      | false =>
        have X2 : Hid (OwnS wvG 9 28 wr w.heap.size u7 (ftL (lkP now owner) fs (k + 1)) ∧ Below w.heap.size w wr) := by rw [HN.out rfl]; exact X
        clear HY HN X
        go_wp2
        go_roundw
        case rel => exact ⟨k + 1, by omega, by go_num, X2⟩
        case measure => simp [intOf]; omega
      | true =>
        generalize ht2 : (ow != owner) = t2 at HY HN
        cases t2 with
        | false =>
          have X2 : Hid (OwnS wvG 9 28 wr w.heap.size u7 (ftL (lkP now owner) fs (k + 1)) ∧ Below w.heap.size w wr) := by rw [HN.out rfl]; exact X
          clear HY HN X
          go_wp2
          go_roundw
          case rel => exact ⟨k + 1, by omega, by go_num, X2⟩
          case measure => simp [intOf]; omega
        | true =>
          have WK : Hid (ftL (lkP now owner) fs (k + 1) = ftL (lkP now owner) fs k ++ [⟨pr, mc, si, sp, di, dp, st, un, ow⟩]) := HY.out rfl
          clear HY HN
          generalize ftL (lkP now owner) fs k = Lk at X WK hwl
          have XA : Hid (OwnS wvG 9 28 (wr.alloc (.cells #[.int .i64 pr, .string mc, .int .i64 si, .int .i64 sp, .int .i64 di, .int .i64 dp, .int .i64 st, .int .i64 un, .int .i64 ow] 28)) w.heap.size u7 Lk ∧ Below w.heap.size w (wr.alloc (.cells #[.int .i64 pr, .string mc, .int .i64 si, .int .i64 sp, .int .i64 di, .int .i64 dp, .int .i64 st, .int .i64 un, .int .i64 ow] 28))) := ⟨X.out.1.now ((Below.refl _ _).alloc (Nat.le_refl _) _), X.out.2.alloc X.out.2.size _⟩
          clear X
          go_wp2_with (at_builtin; refine wpl_flows _ rfl (.tmp 32) (.tmp 37) rfl w.heap.size u7 Lk [⟨pr, mc, si, sp, di, dp, st, un, ow⟩] rfl XA.out.1 wr.heap.size 0 1 1 rfl rfl (one_cells (box_cells pr mc si sp di dp st un ow _)) (by have := hwl.out; omega) XA.out.2.size ?_; intro v' w3 Y _)
          have Y2 : Hid (OwnS wvG 9 28 w3 w.heap.size v' (ftL (lkP now owner) fs (k + 1)) ∧ Below w.heap.size w w3) := ⟨by rw [WK.out]; exact Y.out.1, XA.out.2.trans Y.out.2⟩
          clear Y XA WK q0 q1 q2 q3 q4 q5 q6 q7 q8
          go_roundw
          case rel => exact ⟨k + 1, by omega, by go_num, Y2⟩
          case measure => simp [intOf]; omega
    · obtain rfl : k = len := by omega
      have E : Hid (ftL (lkP now owner) fs k = fs.filter (lkP now owner)) := by
        show _ = _
        rw [← hl]
        exact ftL_all _ fs
      go_wp2
      go_ret
      exact ⟨_, rfl, by rw [← E.out]; exact X.out.1, X.out.2⟩
/-- The places without those that are gone. -/
def dlM (fs : List FlowV) (gB : FlowV → Bool) (M : EnV → Option Int) : Nat → EnV → Option Int
  | 0 => M
  | k + 1 => match fs[k]? with
    | some f => if gB f then upM (dlM fs gB M k) (enOf f) none else dlM fs gB M k
    | none => dlM fs gB M k
theorem dlM_yes {fs : List FlowV} {gB : FlowV → Bool} {M : EnV → Option Int} {k : Nat} {f : FlowV} (hf : fs[k]? = some f) (h : gB f = true) : dlM fs gB M (k + 1) = upM (dlM fs gB M k) (enOf f) none := by rw [dlM, hf]; simp [h]
theorem dlM_no {fs : List FlowV} {gB : FlowV → Bool} {M : EnV → Option Int} {k : Nat} {f : FlowV} (hf : fs[k]? = some f) (h : gB f = false) : dlM fs gB M (k + 1) = dlM fs gB M k := by rw [dlM, hf]; simp [h]
theorem dlM_is {fs : List FlowV} {gB : FlowV → Bool} {M : EnV → Option Int} (hap : apOk fs fs.length) {i : Nat} {f : FlowV} (hf : fs[i]? = some f) : ∀ k, k ≤ fs.length → dlM fs gB M k (enOf f) = if i < k ∧ gB f = true then none else M (enOf f)
  | 0, _ => by rw [dlM, if_neg (by omega)]
  | k + 1, hk => by
    have ih := dlM_is (gB := gB) (M := M) hap hf k (by omega)
    obtain ⟨g, hg⟩ : ∃ g, fs[k]? = some g := ⟨_, List.getElem?_eq_getElem (by omega)⟩
    by_cases he : enOf f = enOf g
    · have hik : i = k := by
        by_cases h1 : i < k
        · exact absurd he (hap k g (lt_at hg) hg i f h1 hf).1
        · by_cases h2 : k < i
          · exact absurd he.symm (hap i f (lt_at hf) hf k g h2 hg).1
          · omega
      subst hik
      rw [hf] at hg
      cases hg
      cases hq : gB f with
      | true => rw [dlM_yes hf hq, if_pos ⟨by omega, rfl⟩]; simp [upM]
      | false => rw [dlM_no hf hq, ih, hq]; simp
    · have hki : i ≠ k := by
        intro h
        subst h
        rw [hf] at hg
        cases hg
        exact he rfl
      have e : dlM fs gB M (k + 1) (enOf f) = dlM fs gB M k (enOf f) := by
        cases hq : gB g with
        | true => rw [dlM_yes hg hq]; simp [upM, he]
        | false => rw [dlM_no hg hq]
      rw [e, ih]
      by_cases h1 : i < k ∧ gB f = true
      · rw [if_pos h1, if_pos ⟨by omega, h1.2⟩]
      · rw [if_neg h1, if_neg (fun h => h1 ⟨by omega, h.2⟩)]
theorem dlM_left {fs : List FlowV} {gB : FlowV → Bool} (hap : apOk fs fs.length) {i : Nat} {f : FlowV} (hf : fs[i]? = some f) : (dlM fs gB (plM fs fs.length) fs.length (enOf f)).isSome = !gB f := by
  rw [dlM_is hap hf _ (Nat.le_refl _)]
  have hi := lt_at hf
  cases hq : gB f with
  | true => rw [if_pos ⟨hi, rfl⟩]; rfl
  | false => rw [if_neg (by simp), plM_is hap hf (Nat.le_refl _) hi]; rfl
set_option maxHeartbeats 4000000 in
theorem flowsLeft_any (a : Option Addr) (len cap : Nat) (fs : List FlowV) (g : Nat) (cp : Value) (gB : FlowV → Bool) (w : World) (h : Rw FlR 9 w a fs) (hok : ∀ x, x ∈ fs → FlRok x) (hl : fs.length = len) (hm : len ≤ 4096) (hap : apOk fs fs.length)
    (eg : ∀ args w, (callFunc g args).run Try.prog w = .ok (.enter g args) w)
    (hg : ∀ (pr : Int) (mc : ByteArray) (si sp di dp st un ow : Int) (W : World), Below w.heap.size w W → Calls Try.prog g #[.agg #[.int .i64 pr, .string mc, .int .i64 si, .int .i64 sp, .int .i64 di, .int .i64 dp, .int .i64 st, .int .i64 un, .int .i64 ow], cp] W fun e w' => e = .returned (.bool (gB ⟨pr, mc, si, sp, di, dp, st, un, ow⟩)) ∧ Grw W w') :
    Calls Try.prog 50 #[.slice a len cap, .func (.func g) #[] #[cp]] w fun e w' => ∃ v, e = .returned v ∧ OwnS wvG 9 28 w' w.heap.size v (fs.filter (fun f => !gB f)) ∧ Below w.heap.size w w' := by
  have RW : Hid (Rw FlR 9 w a fs) := h
  have HK : Hid (∀ x, x ∈ fs → FlRok x) := hok
  have HAP : Hid (apOk fs fs.length) := hap
  have HC : Hid (∀ (pr : Int) (mc : ByteArray) (si sp di dp st un ow : Int) (W : World), Below w.heap.size w W → Calls Try.prog g #[.agg #[.int .i64 pr, .string mc, .int .i64 si, .int .i64 sp, .int .i64 di, .int .i64 dp, .int .i64 st, .int .i64 un, .int .i64 ow], cp] W fun e w' => e = .returned (.bool (gB ⟨pr, mc, si, sp, di, dp, st, un, ow⟩)) ∧ Grw W w') := hg
  have HP : Hid (Calls Try.prog 39 #[.slice a len cap] w fun e w' => e = .returned (.map (some w.heap.size)) ∧ OwnM w' w.heap.size len (plM fs len) ∧ Below w.heap.size w w') := flowPlaces_any a len cap fs w h hok hl hm
  clear h hok hap hg
  go_enter Try.func50, Try.ntmps50
  go_wp2_with fail
  refine HP.out.mono ?_
  rintro e w0 ⟨rfl, o0, b0⟩
  have H0 : Hid (OwnM w0 w.heap.size len (dlM fs gB (plM fs len) 0) ∧ Below w.heap.size w w0) := ⟨o0, b0⟩
  clear o0 b0 HP
  go_wp2
  go_loopw [17] (fun z wr => ∃ k : Nat, k ≤ len ∧ z = .int .i64 k ∧ Hid (OwnM wr w.heap.size len (dlM fs gB (plM fs len) k) ∧ Below w.heap.size w wr)) (fun z _ => len - (intOf z).toNat)
  case atStart => exact ⟨0, Nat.zero_le _, rfl, H0⟩
  case round =>
    obtain ⟨k, hk, rfl, HG⟩ := hrel
    clear H0
    by_cases hlt : k < len
    · obtain ⟨x, hx⟩ := at_of hl hlt
      have hltz : (k : Int) < (len : Int) := by omega
      obtain ⟨b, off, vs, rfl, hb, hvl, hR, hc⟩ := RW.out.at FR.kp HG.out.2 hx
      have HKx := HK.out _ (List.mem_of_getElem? hx)
      have HY : Hid (gB x = true → dlM fs gB (plM fs len) (k + 1) = upM (dlM fs gB (plM fs len) k) (enOf x) none) := fun h => dlM_yes hx h
      have HN : Hid (gB x = false → dlM fs gB (plM fs len) (k + 1) = dlM fs gB (plM fs len) k) := fun h => dlM_no hx h
      obtain ⟨pr, mc, si, sp, di, dp, st, un, ow⟩ := x
      obtain ⟨rfl, -⟩ := hR
      have q0 : wr.cell? ⟨b, off + k * 9, none⟩ = some (.int .i64 pr) := hc 0 _ rfl
      have q1 : wr.cell? ⟨b, off + k * 9 + 1, none⟩ = some (.string mc) := hc 1 _ rfl
      have q2 : wr.cell? ⟨b, off + k * 9 + 2, none⟩ = some (.int .i64 si) := hc 2 _ rfl
      have q3 : wr.cell? ⟨b, off + k * 9 + 3, none⟩ = some (.int .i64 sp) := hc 3 _ rfl
      have q4 : wr.cell? ⟨b, off + k * 9 + 4, none⟩ = some (.int .i64 di) := hc 4 _ rfl
      have q5 : wr.cell? ⟨b, off + k * 9 + 5, none⟩ = some (.int .i64 dp) := hc 5 _ rfl
      have q6 : wr.cell? ⟨b, off + k * 9 + 6, none⟩ = some (.int .i64 st) := hc 6 _ rfl
      have q7 : wr.cell? ⟨b, off + k * 9 + 7, none⟩ = some (.int .i64 un) := hc 7 _ rfl
      have q8 : wr.cell? ⟨b, off + k * 9 + 8, none⟩ = some (.int .i64 ow) := hc 8 _ rfl
      have HCx : Hid (∀ (W : World), Below w.heap.size w W → Calls Try.prog g #[.agg #[.int .i64 pr, .string mc, .int .i64 si, .int .i64 sp, .int .i64 di, .int .i64 dp, .int .i64 st, .int .i64 un, .int .i64 ow], cp] W fun e w' => e = .returned (.bool (gB ⟨pr, mc, si, sp, di, dp, st, un, ow⟩)) ∧ Grw W w') := fun W hW => HC.out pr mc si sp di dp st un ow W hW
      have HE : Hid (∀ w, Calls Try.prog 40 #[.agg #[.int .i64 pr, .string mc, .int .i64 si, .int .i64 sp, .int .i64 di, .int .i64 dp, .int .i64 st, .int .i64 un, .int .i64 ow]] w fun e w' => e = .returned (.agg #[.int .i64 pr, .int .i64 si, .int .i64 sp, .int .i64 di, .int .i64 dp]) ∧ Grw w w') := fun w => endsOf_any pr mc si sp di dp st un ow w
      have EO : EnOk (enOf ⟨pr, mc, si, sp, di, dp, st, un, ow⟩) := enOf_ok HKx
      generalize gB ⟨pr, mc, si, sp, di, dp, st, un, ow⟩ = z at HY HN HCx
      clear hc hvl hx HKx
      have B1 : Hid (Below w.heap.size w (wr.alloc (.cells #[.int .i64 pr, .string mc, .int .i64 si, .int .i64 sp, .int .i64 di, .int .i64 dp, .int .i64 st, .int .i64 un, .int .i64 ow] 28))) := HG.out.2.alloc HG.out.2.size _
      cases z with
      | false =>
        have HN' : Hid (dlM fs gB (plM fs len) (k + 1) = dlM fs gB (plM fs len) k) := HN.out rfl
        clear HY HN EO HE
        go_wp2_with (go_at_fn g; refine (HCx.out _ B1.out).mono ?_; rintro e w2 ⟨rfl, g2⟩)
        have HG2 : Hid (OwnM w2 w.heap.size len (dlM fs gB (plM fs len) (k + 1)) ∧ Below w.heap.size w w2) := ⟨by rw [HN'.out]; exact (HG.out.1.alloc _).now g2.below, B1.out.trans (g2.below.mono B1.out.size)⟩
        clear g2 HG B1 HCx HN' q0 q1 q2 q3 q4 q5 q6 q7 q8
        go_roundw
        case rel => exact ⟨k + 1, by omega, by go_num, HG2⟩
        case measure => simp [intOf]; omega
      | true =>
        have HY' : Hid (dlM fs gB (plM fs len) (k + 1) = upM (dlM fs gB (plM fs len) k) (enOf ⟨pr, mc, si, sp, di, dp, st, un, ow⟩) none) := HY.out rfl
        clear HY HN
        go_wp2_with (first | (go_at_fn g; refine (HCx.out _ B1.out).mono ?_; rintro e w2 ⟨rfl, g2⟩; have t0 : w2.cell? ⟨wr.heap.size, 0, none⟩ = some (.int .i64 pr) := g2.keep (by simp); have t1 : w2.cell? ⟨wr.heap.size, 1, none⟩ = some (.string mc) := g2.keep (by simp); have t2 : w2.cell? ⟨wr.heap.size, 2, none⟩ = some (.int .i64 si) := g2.keep (by simp); have t3 : w2.cell? ⟨wr.heap.size, 3, none⟩ = some (.int .i64 sp) := g2.keep (by simp); have t4 : w2.cell? ⟨wr.heap.size, 4, none⟩ = some (.int .i64 di) := g2.keep (by simp); have t5 : w2.cell? ⟨wr.heap.size, 5, none⟩ = some (.int .i64 dp) := g2.keep (by simp); have t6 : w2.cell? ⟨wr.heap.size, 6, none⟩ = some (.int .i64 st) := g2.keep (by simp); have t7 : w2.cell? ⟨wr.heap.size, 7, none⟩ = some (.int .i64 un) := g2.keep (by simp); have t8 : w2.cell? ⟨wr.heap.size, 8, none⟩ = some (.int .i64 ow) := g2.keep (by simp)) | (go_at_call 40; refine (HE.out _).mono ?_; rintro e w3 ⟨rfl, g3⟩; obtain ⟨w7, hdel, o7, g7⟩ := (((HG.out.1.alloc _).now g2.below).now g3.below).drop EO 0; have hdel2 : (Builtin.delete_ #[63, 68] 0 #[.map (some w.heap.size), .agg #[.int .i64 pr, .int .i64 si, .int .i64 sp, .int .i64 di, .int .i64 dp]]).run Try.prog w3 = .ok (.tuple #[]) w7 := hdel))
        have b3 : Below w.heap.size w w3 := (B1.out.trans (g2.below.mono B1.out.size)).trans (g3.below.mono (Nat.le_trans B1.out.size g2.below.size))
        have HG2 : Hid (OwnM w7 w.heap.size len (dlM fs gB (plM fs len) (k + 1)) ∧ Below w.heap.size w w7) := ⟨by rw [HY'.out]; exact o7, b3.grown g7 b3.size (fun k hk => by cases hk; exact Nat.le_refl _)⟩
        clear g2 g3 g7 o7 b3 HG B1 HCx HY' HE EO hdel hdel2 t0 t1 t2 t3 t4 t5 t6 t7 t8 q0 q1 q2 q3 q4 q5 q6 q7 q8
        go_roundw
        case rel => exact ⟨k + 1, by omega, by go_num, HG2⟩
        case measure => simp [intOf]; omega
    · obtain rfl : k = len := by omega
      have O0 : Hid (OwnS wvG 9 28 wr (w.heap.size + 1) (.slice none 0 0) [] ∧ OwnM wr w.heap.size k (dlM fs gB (plM fs k) k) ∧ Below w.heap.size w wr) := ⟨OwnS.nil wr _, HG.out.1, HG.out.2⟩
      have hne : w.heap.size < wr.heap.size := HG.out.1.lt
      clear HG HC
      go_wp2
      generalize wr = w6 at O0 hne ⊢
      go_loopw [8, 30] (fun v z wr => ∃ j : Nat, j ≤ k ∧ z = .int .i64 j ∧ Hid (OwnS wvG 9 28 wr (w.heap.size + 1) v (ftL (fun f => !gB f) fs j) ∧ OwnM wr w.heap.size k (dlM fs gB (plM fs k) k) ∧ Below w.heap.size w wr)) (fun _ z _ => k - (intOf z).toNat)
      case atStart => exact ⟨0, Nat.zero_le _, rfl, O0⟩
      case round =>
        obtain ⟨j, hj, rfl, X⟩ := hrel
        clear O0
        by_cases hlt2 : j < k
        · obtain ⟨x, hx⟩ := at_of (k := j) hl (by omega)
          have hltz : (j : Int) < (k : Int) := by omega
          obtain ⟨b, off, vs, rfl, hb, hvl, hR, hc⟩ := RW.out.at FR.kp X.out.2.2 hx
          have HKx := HK.out _ (List.mem_of_getElem? hx)
          have HY : Hid ((!gB x) = true → ftL (fun f => !gB f) fs (j + 1) = ftL (fun f => !gB f) fs j ++ [x]) := fun h => ftL_yes (p := fun f => !gB f) hx h
          have HN : Hid ((!gB x) = false → ftL (fun f => !gB f) fs (j + 1) = ftL (fun f => !gB f) fs j) := fun h => ftL_no (p := fun f => !gB f) hx h
          have HL : Hid ((dlM fs gB (plM fs k) k (enOf x)).isSome = !gB x) := by
            have := dlM_left (gB := gB) HAP.out hx
            rw [hl] at this
            exact this
          have hwl : Hid ((ftL (fun f => !gB f) fs j).length ≤ 4096) := Nat.le_trans (ftL_len _ fs j) (by omega)
          obtain ⟨pr, mc, si, sp, di, dp, st, un, ow⟩ := x
          obtain ⟨rfl, -⟩ := hR
          have q0 : wr.cell? ⟨b, off + j * 9, none⟩ = some (.int .i64 pr) := hc 0 _ rfl
          have q1 : wr.cell? ⟨b, off + j * 9 + 1, none⟩ = some (.string mc) := hc 1 _ rfl
          have q2 : wr.cell? ⟨b, off + j * 9 + 2, none⟩ = some (.int .i64 si) := hc 2 _ rfl
          have q3 : wr.cell? ⟨b, off + j * 9 + 3, none⟩ = some (.int .i64 sp) := hc 3 _ rfl
          have q4 : wr.cell? ⟨b, off + j * 9 + 4, none⟩ = some (.int .i64 di) := hc 4 _ rfl
          have q5 : wr.cell? ⟨b, off + j * 9 + 5, none⟩ = some (.int .i64 dp) := hc 5 _ rfl
          have q6 : wr.cell? ⟨b, off + j * 9 + 6, none⟩ = some (.int .i64 st) := hc 6 _ rfl
          have q7 : wr.cell? ⟨b, off + j * 9 + 7, none⟩ = some (.int .i64 un) := hc 7 _ rfl
          have q8 : wr.cell? ⟨b, off + j * 9 + 8, none⟩ = some (.int .i64 ow) := hc 8 _ rfl
          have HE : Hid (∀ w, Calls Try.prog 40 #[.agg #[.int .i64 pr, .string mc, .int .i64 si, .int .i64 sp, .int .i64 di, .int .i64 dp, .int .i64 st, .int .i64 un, .int .i64 ow]] w fun e w' => e = .returned (.agg #[.int .i64 pr, .int .i64 si, .int .i64 sp, .int .i64 di, .int .i64 dp]) ∧ Grw w w') := fun w => endsOf_any pr mc si sp di dp st un ow w
          have EO : EnOk (enOf ⟨pr, mc, si, sp, di, dp, st, un, ow⟩) := enOf_ok HKx
          generalize ftL (fun f => !gB f) fs j = Lj at X HY HN hwl
          generalize (!gB ⟨pr, mc, si, sp, di, dp, st, un, ow⟩) = z at HY HN HL
          clear hc hvl hx HKx
          cases z with
          | false =>
            have HN' : Hid (ftL (fun f => !gB f) fs (j + 1) = Lj) := HN.out rfl
            clear HY HN
            go_wp2_with (go_at_call 40; refine (HE.out _).mono ?_; rintro e w3 ⟨rfl, g3⟩; have o3 := (X.out.2.1.alloc (.cells #[.int .i64 pr, .string mc, .int .i64 si, .int .i64 sp, .int .i64 di, .int .i64 dp, .int .i64 st, .int .i64 un, .int .i64 ow] 28)).now g3.below; have L3 := o3.look EO; rw [HL.out] at L3; have L4 : (Instr.lookup 63 (.map (some w.heap.size)) (.agg #[.int .i64 pr, .int .i64 si, .int .i64 sp, .int .i64 di, .int .i64 dp]) true).run Try.prog w3 = .ok (.tuple #[.int .i64 _, .bool false]) w3 := L3)
            have X2 : Hid (OwnS wvG 9 28 w3 (w.heap.size + 1) u8 (ftL (fun f => !gB f) fs (j + 1)) ∧ OwnM w3 w.heap.size k (dlM fs gB (plM fs k) k) ∧ Below w.heap.size w w3) := ⟨by rw [HN'.out]; exact (X.out.1.now ((Below.refl _ _).alloc (Nat.le_refl _) _)).now g3.below, o3, (X.out.2.2.alloc X.out.2.2.size _).trans (g3.below.mono (by have := X.out.2.2.size; simp; omega))⟩
            clear X L3 L4 o3 g3 HE EO HL HN' q0 q1 q2 q3 q4 q5 q6 q7 q8
            go_roundw
            case rel => exact ⟨j + 1, by omega, by go_num, X2⟩
            case measure => simp [intOf]; omega
          | true =>
            have HY' : Hid (ftL (fun f => !gB f) fs (j + 1) = Lj ++ [⟨pr, mc, si, sp, di, dp, st, un, ow⟩]) := HY.out rfl
            clear HY HN
            go_wp2_with (first | (go_at_call 40; refine (HE.out _).mono ?_; rintro e w3 ⟨rfl, g3⟩; have o3 := (X.out.2.1.alloc (.cells #[.int .i64 pr, .string mc, .int .i64 si, .int .i64 sp, .int .i64 di, .int .i64 dp, .int .i64 st, .int .i64 un, .int .i64 ow] 28)).now g3.below; have L3 := o3.look EO; rw [HL.out] at L3; have L4 : (Instr.lookup 63 (.map (some w.heap.size)) (.agg #[.int .i64 pr, .int .i64 si, .int .i64 sp, .int .i64 di, .int .i64 dp]) true).run Try.prog w3 = .ok (.tuple #[.int .i64 _, .bool true]) w3 := L3; have t0 : w3.cell? ⟨wr.heap.size, 0, none⟩ = some (.int .i64 pr) := g3.keep (by simp); have t1 : w3.cell? ⟨wr.heap.size, 1, none⟩ = some (.string mc) := g3.keep (by simp); have t2 : w3.cell? ⟨wr.heap.size, 2, none⟩ = some (.int .i64 si) := g3.keep (by simp); have t3 : w3.cell? ⟨wr.heap.size, 3, none⟩ = some (.int .i64 sp) := g3.keep (by simp); have t4 : w3.cell? ⟨wr.heap.size, 4, none⟩ = some (.int .i64 di) := g3.keep (by simp); have t5 : w3.cell? ⟨wr.heap.size, 5, none⟩ = some (.int .i64 dp) := g3.keep (by simp); have t6 : w3.cell? ⟨wr.heap.size, 6, none⟩ = some (.int .i64 st) := g3.keep (by simp); have t7 : w3.cell? ⟨wr.heap.size, 7, none⟩ = some (.int .i64 un) := g3.keep (by simp); have t8 : w3.cell? ⟨wr.heap.size, 8, none⟩ = some (.int .i64 ow) := g3.keep (by simp)) | (at_builtin; refine wpl_flows _ rfl (.tmp 42) (.tmp 44) rfl (w.heap.size + 1) u8 Lj [⟨pr, mc, si, sp, di, dp, st, un, ow⟩] rfl (((X.out.1.now ((Below.refl _ _).alloc (Nat.le_refl _) (.cells #[.int .i64 pr, .string mc, .int .i64 si, .int .i64 sp, .int .i64 di, .int .i64 dp, .int .i64 st, .int .i64 un, .int .i64 ow] 28))).now g3.below).now ((Below.refl _ _).alloc (Nat.le_refl _) (.cells #[.int .i64 pr, .string mc, .int .i64 si, .int .i64 sp, .int .i64 di, .int .i64 dp, .int .i64 st, .int .i64 un, .int .i64 ow] 28))) w3.heap.size 0 1 1 rfl rfl (one_cells (box_cells pr mc si sp di dp st un ow _)) (by have := hwl.out; omega) (by have := o3.lt; simp; omega) ?_; intro v' w8 Y gY))
            have b3 : Below w.heap.size w (w3.alloc (.cells #[.int .i64 pr, .string mc, .int .i64 si, .int .i64 sp, .int .i64 di, .int .i64 dp, .int .i64 st, .int .i64 un, .int .i64 ow] 28)) := ((X.out.2.2.alloc X.out.2.2.size _).trans (g3.below.mono (by have := X.out.2.2.size; simp; omega))).alloc (by have := o3.lt; omega) _
            have hlt8 : ∀ q, u8.ownBlock = some q → w.heap.size + 1 ≤ q := fun q hq => (X.out.1.lt q hq).1
            have X2 : Hid (OwnS wvG 9 28 w8 (w.heap.size + 1) v' (ftL (fun f => !gB f) fs (j + 1)) ∧ OwnM w8 w.heap.size k (dlM fs gB (plM fs k) k) ∧ Below w.heap.size w w8) := ⟨by rw [HY'.out]; exact Y.out.1, (o3.alloc _).kept gY (fun h => by have := hlt8 _ h.symm; omega), b3.grown gY b3.size (fun q hq => by have := hlt8 q hq; omega)⟩
            clear X L3 L4 o3 g3 HE EO HL HY' Y gY b3 hlt8 t0 t1 t2 t3 t4 t5 t6 t7 t8 q0 q1 q2 q3 q4 q5 q6 q7 q8
            go_roundw
            case rel => exact ⟨j + 1, by omega, by go_num, X2⟩
            case measure => simp [intOf]; omega
        · obtain rfl : j = k := by omega
          have E : Hid (ftL (fun f => !gB f) fs j = fs.filter (fun f => !gB f)) := by
            show _ = _
            rw [← hl]
            exact ftL_all _ fs
          go_wp2
          go_ret
          exact ⟨_, rfl, by rw [← E.out]; exact X.out.1.lower (Nat.le_succ _), X.out.2.2⟩
end Go.Proofs.Ythokaemeadhkjaa
