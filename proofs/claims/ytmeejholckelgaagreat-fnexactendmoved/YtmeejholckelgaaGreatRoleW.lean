/- Roles: RoleOK, the program's and the model's. -/
import Derived.Test.YtmeejholckelgaaGreatRuleW
import Derived.Test.YtmeejholckelgaaGreatName
namespace Go.Proofs.YtmeejholckelgaaGreat
open Go.RowKit Go.PlainAid Go.Proofs.YtmeejholckelgaaGreat.Bt Go.Sort
set_option linter.unusedVariables false
set_option maxRecDepth 20000

/-- A role. -/
def roB (r : RoleV) : Bool := nameB (bt r.nm) r.nm.size && (dec (r.nm.size ≤ 8) && (dec (r.rs.length ≤ 8) && (dec (1 ≤ r.q ∧ r.q ≤ 1000000) && (dec (1 ≤ r.m ∧ r.m ≤ 1000) && (dec (1 ≤ r.i ∧ r.i ≤ 1000) && r.rs.all ruB)))))
theorem all_step2 {α : Type} {f : α → Bool} {xs : List α} {k : Nat} {x : α} (hx : xs[k]? = some x) (h : (xs.take k).all f = true) (hf : f x = true) : (xs.take (k + 1)).all f = true := by
  rw [List.take_add_one, List.all_append, h, hx]
  simp [hf]
theorem all_no {α : Type} {f : α → Bool} {xs : List α} {k : Nat} {x : α} (hx : xs[k]? = some x) (hf : f x = false) : xs.all f = false := by
  rw [List.all_eq_false]
  exact ⟨x, List.mem_of_getElem? hx, by simp [hf]⟩
theorem all_end {α : Type} {f : α → Bool} {xs : List α} {k : Nat} (hk : xs.length = k) (h : (xs.take k).all f = true) : xs.all f = true := by
  rwa [List.take_of_length_le (by omega)] at h
theorem minutesOK_any (n : Int) (w : World) : Calls Tryz.prog 140 #[.int .i64 n] w fun e w' => e = .returned (.bool (dec (1 ≤ n ∧ n ≤ 1000))) ∧ w' = w := by
  by_cases h : 1 ≤ n
  · by_cases h' : n ≤ 1000
    · rw [dec_y ⟨h, h'⟩]
      go_enter Tryz.func140, Tryz.ntmps140
      go_wp2
      go_ret
      exact ⟨rfl, rfl⟩
    · rw [dec_n (fun x => h' x.2)]
      go_enter Tryz.func140, Tryz.ntmps140
      go_wp2
      go_ret
      exact ⟨rfl, rfl⟩
  · rw [dec_n (fun x => h x.1)]
    go_enter Tryz.func140, Tryz.ntmps140
    go_wp2
    go_ret
    exact ⟨rfl, rfl⟩
theorem shortNameOK_any (s : ByteArray) (w : World) (hs : s.size ≤ 1048576) : Calls Tryz.prog 136 #[.string s] w fun e w' => e = .returned (.bool (nameB (bt s) s.size && dec (s.size ≤ 8))) ∧ w' = w := by
  obtain ⟨n, hn⟩ : ∃ n, n = nameB (bt s) s.size := ⟨_, rfl⟩
  have HN : Hid (∀ w, Calls Tryz.prog 149 #[.string s] w fun e w' => e = .returned (.bool n) ∧ w' = w) := fun w => hn ▸ nameOK_any s w hs
  rw [← hn]
  clear hn
  by_cases h8 : s.size ≤ 8
  · rw [dec_y h8, Bool.and_true]
    have h8z : (s.size : Int) ≤ 8 := by omega
    go_enter Tryz.func136, Tryz.ntmps136
    go_wp2_with fail
    refine (HN.out _).mono ?_
    rintro e w1 ⟨rfl, rfl⟩
    go_wp2
    go_ret
    exact ⟨rfl, rfl⟩
  · rw [dec_n h8, Bool.and_false]
    have h8z : ¬ (s.size : Int) ≤ 8 := by omega
    go_enter Tryz.func136, Tryz.ntmps136
    go_wp2
    go_ret
    exact ⟨rfl, rfl⟩

set_option maxHeartbeats 2000000 in
theorem specRoleOK_any (nm : ByteArray) (rs : List RuleV) (q m i : Int) (a : Option Addr) (len cap : Nat) (w : World) (hs : nm.size ≤ 1048576) (h : Rw RuR 6 w a rs) (hl : rs.length = len) (hl2 : len ≤ 1048576) :
    Calls Tryz.prog 116 #[.agg #[.string nm, .slice a len cap, .int .i64 q, .int .i64 m, .int .i64 i]] w fun e w' => e = .returned (.bool (roB ⟨nm, rs, q, m, i⟩)) ∧ Grw w w' := by
  obtain ⟨bn, hbn⟩ : ∃ n, n = nameB (bt nm) nm.size := ⟨_, rfl⟩
  obtain ⟨bq, hbq⟩ : ∃ n, n = dec (1 ≤ q ∧ q ≤ 1000000) := ⟨_, rfl⟩
  obtain ⟨bm, hbm⟩ : ∃ n, n = dec (1 ≤ m ∧ m ≤ 1000) := ⟨_, rfl⟩
  obtain ⟨bi, hbi⟩ : ∃ n, n = dec (1 ≤ i ∧ i ≤ 1000) := ⟨_, rfl⟩
  have E : Hid (roB ⟨nm, rs, q, m, i⟩ = (bn && (dec (nm.size ≤ 8) && (dec (rs.length ≤ 8) && (bq && (bm && (bi && rs.all ruB))))))) := by rw [hbn, hbq, hbm, hbi]; rfl
  generalize roB ⟨nm, rs, q, m, i⟩ = z at E ⊢
  have RW : Hid (Rw RuR 6 w a rs) := h
  clear h
  have HN : Hid (∀ w, Calls Tryz.prog 129 #[.string nm] w fun e w' => e = .returned (.bool bn) ∧ w' = w) := fun w => hbn ▸ specNameOK_any nm w hs
  have HQ : Hid (∀ w, Calls Tryz.prog 31 #[.int .i64 q, .int .i64 1, .int .i64 1000000] w fun e w' => e = .returned (.bool bq) ∧ w' = w) := fun w => hbq ▸ specIn_any q 1 1000000 w
  have HM : Hid (∀ w, Calls Tryz.prog 31 #[.int .i64 m, .int .i64 1, .int .i64 1000] w fun e w' => e = .returned (.bool bm) ∧ w' = w) := fun w => hbm ▸ specIn_any m 1 1000 w
  have HI : Hid (∀ w, Calls Tryz.prog 31 #[.int .i64 i, .int .i64 1, .int .i64 1000] w fun e w' => e = .returned (.bool bi) ∧ w' = w) := fun w => hbi ▸ specIn_any i 1 1000 w
  clear hbn hbq hbm hbi
  cases bn with
  | false =>
    go_enter Tryz.func116, Tryz.ntmps116
    go_wp2_with fail
    refine (HN.out _).mono ?_
    rintro e w1 ⟨rfl, rfl⟩
    go_wp2
    go_ret
    exact ⟨by rw [E.out]; simp, (Grw.refl _).alloc _⟩
  | true =>
    by_cases h8 : nm.size ≤ 8
    rotate_left
    · rw [dec_n h8] at E
      have h8z : (8 : Int) < (nm.size : Int) := by omega
      go_enter Tryz.func116, Tryz.ntmps116
      go_wp2_with fail
      refine (HN.out _).mono ?_
      rintro e w1 ⟨rfl, rfl⟩
      go_wp2
      go_ret
      exact ⟨by rw [E.out]; simp, (Grw.refl _).alloc _⟩
    rw [dec_y h8] at E
    have h8z : (nm.size : Int) ≤ 8 := by omega
    by_cases hc : rs.length ≤ 8
    rotate_left
    · rw [dec_n hc] at E
      have hcz : (8 : Int) < (len : Int) := by omega
      go_enter Tryz.func116, Tryz.ntmps116
      go_wp2_with fail
      refine (HN.out _).mono ?_
      rintro e w1 ⟨rfl, rfl⟩
      go_wp2
      go_ret
      exact ⟨by rw [E.out]; simp, (Grw.refl _).alloc _⟩
    rw [dec_y hc] at E
    have hcz : (len : Int) ≤ 8 := by omega
    go_enter Tryz.func116, Tryz.ntmps116
    go_wp2_with fail
    refine (HN.out _).mono ?_
    rintro e w1 ⟨rfl, rfl⟩
    go_wp2_with fail
    refine (HQ.out _).mono ?_
    rintro e w1 ⟨rfl, rfl⟩
    cases bq with
    | false =>
      go_wp2
      go_ret
      exact ⟨by rw [E.out]; simp, (Grw.refl _).alloc _⟩
    | true =>
      go_wp2_with fail
      refine (HM.out _).mono ?_
      rintro e w1 ⟨rfl, rfl⟩
      cases bm with
      | false =>
        go_wp2
        go_ret
        exact ⟨by rw [E.out]; simp, (Grw.refl _).alloc _⟩
      | true =>
        go_wp2_with fail
        refine (HI.out _).mono ?_
        rintro e w1 ⟨rfl, rfl⟩
        cases bi with
        | false =>
          go_wp2
          go_ret
          exact ⟨by rw [E.out]; simp, (Grw.refl _).alloc _⟩
        | true =>
          go_wp2
          go_loopw [3] (fun x wr => ∃ k : Nat, k ≤ len ∧ x = .int .i64 k ∧ Hid ((rs.take k).all ruB = true) ∧ Hid (Grw (w.alloc (.cells #[.string nm, .slice a len cap, .int .i64 q, .int .i64 m, .int .i64 i] 127)) wr)) (fun x _ => len - (intOf x).toNat)
          case atStart => exact ⟨0, Nat.zero_le _, rfl, rfl, Grw.refl _⟩
          case round =>
            obtain ⟨k, hk, rfl, HO, HG⟩ := hrel
            have b1 : wr.cell? ⟨w.heap.size, 1, none⟩ = some (.slice a len cap) := HG.out.keep (by simp)
            by_cases hlt : k < len
            · obtain ⟨x, hx⟩ := at_of hl hlt
              obtain ⟨b, off, vs, rfl, hb, hvl, hR, hc⟩ := RW.out.at RuR.kp (((Grw.refl w).alloc _).trans HG.out).below hx
              obtain ⟨p, ip, bb, lo, hi, al⟩ := x
              obtain ⟨rfl, hlo, hhi⟩ := hR
              have q0 : wr.cell? ⟨b, off + k * 6, none⟩ = some (.int .i64 p) := hc 0 _ rfl
              have q1 : wr.cell? ⟨b, off + k * 6 + 1, none⟩ = some (.int .i64 ip) := hc 1 _ rfl
              have q2 : wr.cell? ⟨b, off + k * 6 + 2, none⟩ = some (.int .i64 bb) := hc 2 _ rfl
              have q3 : wr.cell? ⟨b, off + k * 6 + 3, none⟩ = some (.int .i64 lo) := hc 3 _ rfl
              have q4 : wr.cell? ⟨b, off + k * 6 + 4, none⟩ = some (.int .i64 hi) := hc 4 _ rfl
              have q5 : wr.cell? ⟨b, off + k * 6 + 5, none⟩ = some (.bool al) := hc 5 _ rfl
              have HN : Hid (∀ w, Calls Tryz.prog 130 #[.agg #[.int .i64 p, .int .i64 ip, .int .i64 bb, .int .i64 lo, .int .i64 hi, .bool al]] w fun e w' => e = .returned (.bool (ruB ⟨p, ip, bb, lo, hi, al⟩)) ∧ Grw w w') := fun w => specRuleOK_any _ _ _ _ _ _ w
              have HS : Hid (ruB ⟨p, ip, bb, lo, hi, al⟩ = true → (rs.take (k + 1)).all ruB = true) := fun h => all_step2 hx HO.out h
              have HF : Hid (ruB ⟨p, ip, bb, lo, hi, al⟩ = false → rs.all ruB = false) := fun h => all_no hx h
              generalize ruB ⟨p, ip, bb, lo, hi, al⟩ = r at HN HS HF
              have hltz : (k : Int) < (len : Int) := by omega
              clear hc hvl hx
              go_wp2_with fail
              refine (HN.out _).mono ?_
              rintro e w1 ⟨rfl, g1⟩
              have HG1 : Hid (Grw _ w1) := HG.out.trans g1
              clear q0 q1 q2 q3 q4 q5 HN
              cases r with
              | true =>
                have HS' : Hid ((rs.take (k + 1)).all ruB = true) := HS.out rfl
                clear HS HF g1 HG
                go_wp2
                go_roundw
                case rel => exact ⟨k + 1, by omega, by go_num, HS', HG1⟩
                case measure => simp [intOf]; omega
              | false =>
                have hd : Hid (rs.all ruB = false) := HF.out rfl
                go_wp2
                go_ret
                exact ⟨by rw [E.out, hd.out]; rfl, ((Grw.refl _).alloc _).trans HG1.out⟩
            · obtain rfl : k = len := by omega
              have hd : Hid (rs.all ruB = true) := all_end hl HO.out
              go_wp2
              go_ret
              exact ⟨by rw [E.out, hd.out]; rfl, ((Grw.refl _).alloc _).trans HG.out⟩

set_option maxHeartbeats 2000000 in
theorem implRoleOK_any (nm : ByteArray) (rs : List RuleV) (q m i : Int) (a : Option Addr) (len cap : Nat) (w : World) (hs : nm.size ≤ 1048576) (h : Rw RuR 6 w a rs) (hl : rs.length = len) (hl2 : len ≤ 1048576) :
    Calls Tryz.prog 135 #[.agg #[.string nm, .slice a len cap, .int .i64 q, .int .i64 m, .int .i64 i]] w fun e w' => e = .returned (.bool (roB ⟨nm, rs, q, m, i⟩)) ∧ Grw w w' := by
  obtain ⟨bn, hbn⟩ : ∃ n, n = nameB (bt nm) nm.size := ⟨_, rfl⟩
  obtain ⟨bq, hbq⟩ : ∃ n, n = dec (1 ≤ q ∧ q ≤ 1000000) := ⟨_, rfl⟩
  obtain ⟨bm, hbm⟩ : ∃ n, n = dec (1 ≤ m ∧ m ≤ 1000) := ⟨_, rfl⟩
  obtain ⟨bi, hbi⟩ : ∃ n, n = dec (1 ≤ i ∧ i ≤ 1000) := ⟨_, rfl⟩
  have E : Hid (roB ⟨nm, rs, q, m, i⟩ = (bn && (dec (nm.size ≤ 8) && (dec (rs.length ≤ 8) && (bq && (bm && (bi && rs.all ruB))))))) := by rw [hbn, hbq, hbm, hbi]; rfl
  generalize roB ⟨nm, rs, q, m, i⟩ = z at E ⊢
  have RW : Hid (Rw RuR 6 w a rs) := h
  clear h
  have HN : Hid (∀ w, Calls Tryz.prog 136 #[.string nm] w fun e w' => e = .returned (.bool (bn && dec (nm.size ≤ 8))) ∧ w' = w) := fun w => hbn ▸ shortNameOK_any nm w hs
  have HM : Hid (∀ w, Calls Tryz.prog 140 #[.int .i64 m] w fun e w' => e = .returned (.bool bm) ∧ w' = w) := fun w => hbm ▸ minutesOK_any m w
  have HI : Hid (∀ w, Calls Tryz.prog 140 #[.int .i64 i] w fun e w' => e = .returned (.bool bi) ∧ w' = w) := fun w => hbi ▸ minutesOK_any i w
  have E2 : Hid (z = ((bn && dec (nm.size ≤ 8)) && (dec (rs.length ≤ 8) && (bq && (bm && (bi && rs.all ruB)))))) := by rw [E.out]; cases bn <;> rfl
  clear E hbn hbm hbi
  have E := E2
  clear E2
  generalize (bn && dec (nm.size ≤ 8)) = bs at E HN
  cases bs with
  | false =>
    go_enter Tryz.func135, Tryz.ntmps135
    go_wp2_with fail
    refine (HN.out _).mono ?_
    rintro e w1 ⟨rfl, rfl⟩
    go_wp2
    go_ret
    exact ⟨by rw [E.out]; simp, (Grw.refl _).alloc _⟩
  | true =>
    by_cases hc : rs.length ≤ 8
    rotate_left
    · rw [dec_n hc] at E
      have hcz : (8 : Int) < (len : Int) := by omega
      go_enter Tryz.func135, Tryz.ntmps135
      go_wp2_with fail
      refine (HN.out _).mono ?_
      rintro e w1 ⟨rfl, rfl⟩
      go_wp2
      go_ret
      exact ⟨by rw [E.out]; simp, (Grw.refl _).alloc _⟩
    rw [dec_y hc] at E
    have hcz : (len : Int) ≤ 8 := by omega
    by_cases hq1 : 1 ≤ q
    rotate_left
    · rw [dec_n (fun x => hq1 x.1)] at hbq
      subst hbq
      go_enter Tryz.func135, Tryz.ntmps135
      go_wp2_with fail
      refine (HN.out _).mono ?_
      rintro e w1 ⟨rfl, rfl⟩
      go_wp2
      go_ret
      exact ⟨by rw [E.out]; simp, (Grw.refl _).alloc _⟩
    by_cases hq2 : q ≤ 1000000
    rotate_left
    · rw [dec_n (fun x => hq2 x.2)] at hbq
      subst hbq
      go_enter Tryz.func135, Tryz.ntmps135
      go_wp2_with fail
      refine (HN.out _).mono ?_
      rintro e w1 ⟨rfl, rfl⟩
      go_wp2
      go_ret
      exact ⟨by rw [E.out]; simp, (Grw.refl _).alloc _⟩
    rw [dec_y ⟨hq1, hq2⟩] at hbq
    subst hbq
    go_enter Tryz.func135, Tryz.ntmps135
    go_wp2_with fail
    refine (HN.out _).mono ?_
    rintro e w1 ⟨rfl, rfl⟩
    go_wp2_with fail
    refine (HM.out _).mono ?_
    rintro e w1 ⟨rfl, rfl⟩
    cases bm with
    | false =>
      go_wp2
      go_ret
      exact ⟨by rw [E.out]; simp, (Grw.refl _).alloc _⟩
    | true =>
      go_wp2_with fail
      refine (HI.out _).mono ?_
      rintro e w1 ⟨rfl, rfl⟩
      cases bi with
      | false =>
        go_wp2
        go_ret
        exact ⟨by rw [E.out]; simp, (Grw.refl _).alloc _⟩
      | true =>
        go_wp2
        go_loopw [38] (fun x wr => ∃ k : Nat, k ≤ len ∧ x = .int .i64 k ∧ Hid ((rs.take k).all ruB = true) ∧ Hid (Grw (w.alloc (.cells #[.string nm, .slice a len cap, .int .i64 q, .int .i64 m, .int .i64 i] 127)) wr)) (fun x _ => len - (intOf x).toNat)
        case atStart => exact ⟨0, Nat.zero_le _, rfl, rfl, Grw.refl _⟩
        case round =>
          obtain ⟨k, hk, rfl, HO, HG⟩ := hrel
          have b1 : wr.cell? ⟨w.heap.size, 1, none⟩ = some (.slice a len cap) := HG.out.keep (by simp)
          by_cases hlt : k < len
          · obtain ⟨x, hx⟩ := at_of hl hlt
            obtain ⟨b, off, vs, rfl, hb, hvl, hR, hc⟩ := RW.out.at RuR.kp (((Grw.refl w).alloc _).trans HG.out).below hx
            obtain ⟨p, ip, bb, lo, hi, al⟩ := x
            obtain ⟨rfl, hlo, hhi⟩ := hR
            have q0 : wr.cell? ⟨b, off + k * 6, none⟩ = some (.int .i64 p) := hc 0 _ rfl
            have q1 : wr.cell? ⟨b, off + k * 6 + 1, none⟩ = some (.int .i64 ip) := hc 1 _ rfl
            have q2 : wr.cell? ⟨b, off + k * 6 + 2, none⟩ = some (.int .i64 bb) := hc 2 _ rfl
            have q3 : wr.cell? ⟨b, off + k * 6 + 3, none⟩ = some (.int .i64 lo) := hc 3 _ rfl
            have q4 : wr.cell? ⟨b, off + k * 6 + 4, none⟩ = some (.int .i64 hi) := hc 4 _ rfl
            have q5 : wr.cell? ⟨b, off + k * 6 + 5, none⟩ = some (.bool al) := hc 5 _ rfl
            have HN : Hid (∀ w, Calls Tryz.prog 148 #[.agg #[.int .i64 p, .int .i64 ip, .int .i64 bb, .int .i64 lo, .int .i64 hi, .bool al]] w fun e w' => e = .returned (.bool (ruB ⟨p, ip, bb, lo, hi, al⟩)) ∧ Grw w w') := fun w => implRuleOK_any _ _ _ _ _ _ w hlo hhi
            have HS : Hid (ruB ⟨p, ip, bb, lo, hi, al⟩ = true → (rs.take (k + 1)).all ruB = true) := fun h => all_step2 hx HO.out h
            have HF : Hid (ruB ⟨p, ip, bb, lo, hi, al⟩ = false → rs.all ruB = false) := fun h => all_no hx h
            generalize ruB ⟨p, ip, bb, lo, hi, al⟩ = r at HN HS HF
            have hltz : (k : Int) < (len : Int) := by omega
            clear hc hvl hx
            go_wp2_with fail
            refine (HN.out _).mono ?_
            rintro e w1 ⟨rfl, g1⟩
            have HG1 : Hid (Grw _ w1) := (HG.out.alloc _).trans g1
            clear q0 q1 q2 q3 q4 q5 HN
            cases r with
            | true =>
              have HS' : Hid ((rs.take (k + 1)).all ruB = true) := HS.out rfl
              clear HS HF g1 HG
              go_wp2
              go_roundw
              case rel => exact ⟨k + 1, by omega, by go_num, HS', HG1⟩
              case measure => simp [intOf]; omega
            | false =>
              have hd : Hid (rs.all ruB = false) := HF.out rfl
              go_wp2
              go_ret
              exact ⟨by rw [E.out, hd.out]; rfl, ((Grw.refl _).alloc _).trans HG1.out⟩
          · obtain rfl : k = len := by omega
            have hd : Hid (rs.all ruB = true) := all_end hl HO.out
            go_wp2
            go_ret
            exact ⟨by rw [E.out, hd.out]; rfl, ((Grw.refl _).alloc _).trans HG.out⟩

end Go.Proofs.YtmeejholckelgaaGreat
