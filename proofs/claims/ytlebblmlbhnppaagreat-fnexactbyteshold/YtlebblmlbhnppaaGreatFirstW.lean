/- The first rule that fits: l07First, ruleFits; FirstRule, RoleAllows, the program's and the model's. -/
import Derived.Test.YtlebblmlbhnppaaGreatRoleW
namespace Go.Proofs.YtlebblmlbhnppaaGreat
open Go.RowKit Go.PlainAid Go.Proofs.YtlebblmlbhnppaaGreat.Bt Go.Sort
set_option linter.unusedVariables false
set_option maxRecDepth 20000

/-- A place has an address and a port; a rule fits. -/
def phB (ip b lo hi x port : Int) : Bool := hB ip b x && dec (lo ≤ port ∧ port ≤ hi)
def fitB (proto x port : Int) (r : RuleV) : Bool := (dec (r.p = 0) || dec (r.p = proto)) && phB r.ip r.b r.lo r.hi x port
/-- The place of the first that fits, or -1. -/
def fv (f : RuleV → Bool) (rs : List RuleV) : Int := match rs.findIdx? f with | some k => k | none => -1
theorem fv_hit {f : RuleV → Bool} {rs : List RuleV} {k : Nat} {x : RuleV} (hx : rs[k]? = some x) (h : (rs.take k).all (fun r => !f r) = true) (hf : f x = true) : fv f rs = k := by
  have hk := (List.getElem?_eq_some_iff.1 hx).1
  have e : rs.findIdx? f = some k := by
    rw [List.findIdx?_eq_some_iff_getElem]
    refine ⟨hk, by rw [List.getElem?_eq_getElem hk] at hx; cases hx; exact hf, fun j hj => ?_⟩
    rw [List.all_eq_true] at h
    have := h (rs[j]) (by rw [List.mem_take_iff_getElem]; exact ⟨j, by omega, rfl⟩)
    simpa using this
  unfold fv
  rw [e]
theorem fv_none {f : RuleV → Bool} {rs : List RuleV} (h : rs.all (fun r => !f r) = true) : fv f rs = -1 := by
  have e : rs.findIdx? f = none := by
    rw [List.findIdx?_eq_none_iff]
    intro x hx
    rw [List.all_eq_true] at h
    simpa using h x hx
  unfold fv
  rw [e]
theorem fv_bd (f : RuleV → Bool) (rs : List RuleV) : -1 ≤ fv f rs ∧ fv f rs < rs.length := by
  unfold fv
  cases h : rs.findIdx? f with
  | none => exact ⟨Int.le_refl _, by show (-1 : Int) < _; omega⟩
  | some k =>
    rw [List.findIdx?_eq_some_iff_getElem] at h
    obtain ⟨hk, -⟩ := h
    exact ⟨by show (-1 : Int) ≤ (k : Int); omega, by simpa using hk⟩
theorem ru_yes {r : RuleV} (h : ruB r = true) : 0 ≤ r.b ∧ r.b ≤ 32 ∧ nB r.ip r.b = true := by
  unfold ruB plB at h
  simp at h
  have := nB_yes h.2.1
  exact ⟨this.2.2.1, this.2.2.2.1, h.2.1⟩
theorem all_at {α : Type} {f : α → Bool} {xs : List α} {k : Nat} {x : α} (h : xs.all f = true) (hx : xs[k]? = some x) : f x = true := by
  rw [List.all_eq_true] at h
  exact h x (List.mem_of_getElem? hx)
theorem ro_yes {r : RoleV} (h : roB r = true) : r.rs.all ruB = true ∧ r.rs.length ≤ 8 := by
  unfold roB at h
  simp only [Bool.and_eq_true] at h
  exact ⟨h.2.2.2.2.2.2, of_decide_eq_true h.2.2.1⟩
/-- What FirstRule answers: its code, its place. -/
noncomputable def frC (r : RoleV) (proto x port : Int) : Int := if roB r = false then 1 else if (dec (0 ≤ proto ∧ proto ≤ 255) && (dec (0 ≤ x ∧ x ≤ 4294967295) && dec (0 ≤ port ∧ port ≤ 65535))) = false then 4 else if fv (fitB proto x port) r.rs < 0 then 5 else 0
noncomputable def frK (r : RoleV) (proto x port : Int) : Int := if frC r proto x port = 0 then fv (fitB proto x port) r.rs else 0

set_option maxHeartbeats 1000000 in
theorem placeHas_any (ip b lo hi x port : Int) (w : World) (hn : nB ip b = true) (hx : 0 ≤ x ∧ x ≤ 4294967295) :
    Calls Tryz.prog 172 #[.agg #[.int .i64 ip, .int .i64 b, .int .i64 lo, .int .i64 hi], .int .i64 x, .int .i64 port] w fun e w' => e = .returned (.bool (phB ip b lo hi x port)) ∧ Grw w w' := by
  obtain ⟨r, hr⟩ : ∃ r, r = hB ip b x := ⟨_, rfl⟩
  have HA : Hid (∀ w, Calls Tryz.prog 184 #[.agg #[.int .i64 ip, .int .i64 b], .int .i64 x] w fun e w' => e = .returned (.tuple #[.bool r, .int .i64 0]) ∧ Grw w w') := fun w => by
    have e1 : nhB ip b x = r := by unfold nhB; rw [hn, dec_y hx, hr]; rfl
    have e2 : nhC ip b x = 0 := by unfold nhC; rw [hn, dec_y hx]; rfl
    have := implNetHas_any ip b x w
    rwa [e1, e2] at this
  have E : Hid (phB ip b lo hi x port = (r && dec (lo ≤ port ∧ port ≤ hi))) := by rw [hr]; rfl
  clear hr hn hx
  generalize phB ip b lo hi x port = z at E ⊢
  cases r with
  | false =>
    go_enter Tryz.func172, Tryz.ntmps172
    go_wp2_with fail
    refine (HA.out _).mono ?_
    rintro e w1 ⟨rfl, bx⟩
    have BX : Hid (Grw w _) := ((Grw.refl _).alloc _).trans bx
    clear bx
    go_wp2
    go_ret
    exact ⟨by rw [E.out]; rfl, BX.out⟩
  | true =>
    by_cases h1 : lo ≤ port
    · by_cases h2 : port ≤ hi
      · rw [dec_y ⟨h1, h2⟩] at E
        go_enter Tryz.func172, Tryz.ntmps172
        go_wp2_with fail
        refine (HA.out _).mono ?_
        rintro e w1 ⟨rfl, bx⟩
        have k2 : World.cell? _ ⟨w.heap.size, 2, none⟩ = some (.int .i64 lo) := bx.keep (by simp [go_sem])
        have k3 : World.cell? _ ⟨w.heap.size, 3, none⟩ = some (.int .i64 hi) := bx.keep (by simp [go_sem])
        have BX : Hid (Grw w _) := ((Grw.refl _).alloc _).trans bx
        clear bx
        go_wp2
        go_ret
        exact ⟨by rw [E.out]; rfl, BX.out⟩
      · rw [dec_n (fun h => h2 h.2)] at E
        have d2 : decide (port ≤ hi) = false := decide_eq_false h2
        go_enter Tryz.func172, Tryz.ntmps172
        go_wp2_with fail
        refine (HA.out _).mono ?_
        rintro e w1 ⟨rfl, bx⟩
        have k2 : World.cell? _ ⟨w.heap.size, 2, none⟩ = some (.int .i64 lo) := bx.keep (by simp [go_sem])
        have k3 : World.cell? _ ⟨w.heap.size, 3, none⟩ = some (.int .i64 hi) := bx.keep (by simp [go_sem])
        have BX : Hid (Grw w _) := ((Grw.refl _).alloc _).trans bx
        clear bx
        go_wp2
        go_ret
        exact ⟨by rw [E.out]; rfl, BX.out⟩
    · rw [dec_n (fun h => h1 h.1)] at E
      have d1 : decide (lo ≤ port) = false := decide_eq_false h1
      go_enter Tryz.func172, Tryz.ntmps172
      go_wp2_with fail
      refine (HA.out _).mono ?_
      rintro e w1 ⟨rfl, bx⟩
      have k2 : World.cell? _ ⟨w.heap.size, 2, none⟩ = some (.int .i64 lo) := bx.keep (by simp [go_sem])
      have k3 : World.cell? _ ⟨w.heap.size, 3, none⟩ = some (.int .i64 hi) := bx.keep (by simp [go_sem])
      have BX : Hid (Grw w _) := ((Grw.refl _).alloc _).trans bx
      clear bx
      go_wp2
      go_ret
      exact ⟨by rw [E.out]; rfl, BX.out⟩

set_option maxHeartbeats 1000000 in
theorem ruleFits_any (p ip b lo hi : Int) (al : Bool) (proto x port : Int) (w : World) (hn : nB ip b = true) (hx : 0 ≤ x ∧ x ≤ 4294967295) :
    Calls Tryz.prog 255 #[.agg #[.int .i64 p, .int .i64 ip, .int .i64 b, .int .i64 lo, .int .i64 hi, .bool al], .int .i64 proto, .int .i64 x, .int .i64 port] w fun e w' => e = .returned (.bool (fitB proto x port ⟨p, ip, b, lo, hi, al⟩)) ∧ Grw w w' := by
  obtain ⟨r, hr⟩ : ∃ r, r = phB ip b lo hi x port := ⟨_, rfl⟩
  have HB : Hid (∀ w, Calls Tryz.prog 260 #[.agg #[.int .i64 p, .int .i64 ip, .int .i64 b, .int .i64 lo, .int .i64 hi, .bool al]] w fun e w' => e = .returned (.agg #[.int .i64 ip, .int .i64 b, .int .i64 lo, .int .i64 hi]) ∧ Grw w w') := fun w => placeOf_any p ip b lo hi al w
  have HC : Hid (∀ w, Calls Tryz.prog 172 #[.agg #[.int .i64 ip, .int .i64 b, .int .i64 lo, .int .i64 hi], .int .i64 x, .int .i64 port] w fun e w' => e = .returned (.bool r) ∧ Grw w w') := fun w => hr ▸ placeHas_any ip b lo hi x port w hn hx
  have E : Hid (fitB proto x port ⟨p, ip, b, lo, hi, al⟩ = ((dec (p = 0) || dec (p = proto)) && r)) := by rw [hr]; rfl
  clear hr hn hx
  generalize fitB proto x port ⟨p, ip, b, lo, hi, al⟩ = z at E ⊢
  by_cases hp : p = 0 ∨ p = proto
  · have e1 : (dec (p = 0) || dec (p = proto)) = true := by unfold dec; simpa using hp
    rw [e1] at E
    clear e1
    by_cases h0 : p = 0
    · have n0 : (p == 0) = true := by simpa using h0
      clear hp h0
      go_enter Tryz.func255, Tryz.ntmps255
      go_wp2_with fail
      refine (HB.out _).mono ?_
      rintro e wx1 ⟨rfl, bx⟩
      have BX : Hid (Grw w _) := ((Grw.refl _).alloc _).trans bx
      clear bx
      go_wp2_with fail
      refine (HC.out _).mono ?_
      rintro e wx2 ⟨rfl, bx⟩
      replace BX : Hid (Grw w _) := BX.out.trans bx
      clear bx
      go_wp2
      go_ret
      exact ⟨by rw [E.out]; rfl, BX.out⟩
    · have n0 : (p == 0) = false := by simpa using h0
      have n1 : (p == proto) = true := by
        have := hp.resolve_left h0
        simpa using this
      clear hp h0
      go_enter Tryz.func255, Tryz.ntmps255
      go_wp2_with fail
      refine (HB.out _).mono ?_
      rintro e wx1 ⟨rfl, bx⟩
      have BX : Hid (Grw w _) := ((Grw.refl _).alloc _).trans bx
      clear bx
      go_wp2_with fail
      refine (HC.out _).mono ?_
      rintro e wx2 ⟨rfl, bx⟩
      replace BX : Hid (Grw w _) := BX.out.trans bx
      clear bx
      go_wp2
      go_ret
      exact ⟨by rw [E.out]; rfl, BX.out⟩
  · have e1 : (dec (p = 0) || dec (p = proto)) = false := by unfold dec; simpa using hp
    rw [e1] at E
    clear e1
    have n0 : (p == 0) = false := by simp; intro h; exact hp (Or.inl h)
    have n1 : (p == proto) = false := by simp; intro h; exact hp (Or.inr h)
    clear hp
    go_enter Tryz.func255, Tryz.ntmps255
    go_wp2
    go_ret
    exact ⟨by rw [E.out]; rfl, (Grw.refl _).alloc _⟩

set_option maxHeartbeats 4000000 in
theorem l07First_any (nm : ByteArray) (rs : List RuleV) (q m i : Int) (a : Option Addr) (len cap : Nat) (proto y port : Int) (w : World) (h : Rw RuR 6 w a rs) (hl : rs.length = len) (hl2 : len ≤ 8) (ho : rs.all ruB = true) :
    Calls Tryz.prog 166 #[.agg #[.string nm, .slice a len cap, .int .i64 q, .int .i64 m, .int .i64 i], .int .i64 proto, .int .i64 y, .int .i64 port] w fun e w' => e = .returned (.int .i64 (fv (fitB proto y port) rs)) ∧ Grw w w' := by
  have RW : Hid (Rw RuR 6 w a rs) := h
  have HO : Hid (rs.all ruB = true) := ho
  clear h ho
  go_enter Tryz.func166, Tryz.ntmps166
  go_wp2
  go_loopw [9] (fun x wr => ∃ k : Nat, k ≤ len ∧ x = .int .i64 k ∧ Hid ((rs.take k).all (fun r => !fitB proto y port r) = true) ∧ Hid (Grw (w.alloc (.cells #[.string nm, .slice a len cap, .int .i64 q, .int .i64 m, .int .i64 i] 141)) wr)) (fun x _ => len - (intOf x).toNat)
  case atStart => exact ⟨0, Nat.zero_le _, rfl, rfl, Grw.refl _⟩
  case round =>
    obtain ⟨k, hk, rfl, HA, HG⟩ := hrel
    have b1 : wr.cell? ⟨w.heap.size, 1, none⟩ = some (.slice a len cap) := HG.out.keep (by simp)
    by_cases hlt : k < len
    · obtain ⟨x, hx⟩ := at_of hl hlt
      obtain ⟨b, off, vs, rfl, hb, hvl, hR, hc⟩ := RW.out.at RuR.kp (((Grw.refl w).alloc _).trans HG.out).below hx
      have hru := ru_yes (all_at HO.out hx)
      obtain ⟨p, ip, bb, lo, hi, al⟩ := x
      obtain ⟨rfl, hlo, hhi⟩ := hR
      have q0 : wr.cell? ⟨b, off + k * 6, none⟩ = some (.int .i64 p) := hc 0 _ rfl
      have q1 : wr.cell? ⟨b, off + k * 6 + 1, none⟩ = some (.int .i64 ip) := hc 1 _ rfl
      have q2 : wr.cell? ⟨b, off + k * 6 + 2, none⟩ = some (.int .i64 bb) := hc 2 _ rfl
      have q3 : wr.cell? ⟨b, off + k * 6 + 3, none⟩ = some (.int .i64 lo) := hc 3 _ rfl
      have q4 : wr.cell? ⟨b, off + k * 6 + 4, none⟩ = some (.int .i64 hi) := hc 4 _ rfl
      have q5 : wr.cell? ⟨b, off + k * 6 + 5, none⟩ = some (.bool al) := hc 5 _ rfl
      obtain ⟨r1, hr1⟩ : ∃ r, r = hB ip bb y := ⟨_, rfl⟩
      obtain ⟨r2, hr2⟩ : ∃ r, r = dec (lo ≤ port ∧ port ≤ hi) := ⟨_, rfl⟩
      have HN : Hid (∀ w, Calls Tryz.prog 111 #[.agg #[.int .i64 ip, .int .i64 bb], .int .i64 y] w fun e w' => e = .returned (.bool r1) ∧ Grw w w') := fun w => hr1 ▸ l05Has_any ip bb y w hru.1 hru.2.1
      have HI : Hid (∀ w, Calls Tryz.prog 76 #[.int .i64 port, .int .i64 lo, .int .i64 hi] w fun e w' => e = .returned (.bool r2) ∧ w' = w) := fun w => hr2 ▸ specIn_any port lo hi w
      have E : Hid (fitB proto y port ⟨p, ip, bb, lo, hi, al⟩ = ((dec (p = 0) || dec (p = proto)) && (r1 && r2))) := by rw [hr1, hr2]; rfl
      have HS : Hid (fitB proto y port ⟨p, ip, bb, lo, hi, al⟩ = false → (rs.take (k + 1)).all (fun r => !fitB proto y port r) = true) := fun h => all_step2 hx HA.out (by rw [h]; rfl)
      have HF : Hid (fitB proto y port ⟨p, ip, bb, lo, hi, al⟩ = true → fv (fitB proto y port) rs = k) := fun h => fv_hit hx HA.out h
      generalize fitB proto y port ⟨p, ip, bb, lo, hi, al⟩ = z at E HS HF
      have hltz : (k : Int) < (len : Int) := by omega
      have HG0 : Hid (Grw w _) := ((Grw.refl w).alloc _).trans (HG.out.alloc (.cells #[.int .i64 p, .int .i64 ip, .int .i64 bb, .int .i64 lo, .int .i64 hi, .bool al] 202))
      clear hc hvl hx hr1 hr2 hru
      have STEP : True := trivial
      by_cases hp : p = 0 ∨ p = proto
      · by_cases h0 : p = 0
        · have n0 : (p == 0) = true := by simpa using h0
          have dp : dec (p = 0) = true := dec_y h0
          clear hp h0
          go_wp2_with fail
          refine (HN.out _).mono ?_
          rintro e w1 ⟨rfl, g1⟩
          have HG1 : Hid (Grw _ w1) := (HG.out.alloc _).trans g1
          have y3 : World.cell? _ ⟨wr.heap.size, 3, none⟩ = some (.int .i64 lo) := g1.keep (by simp [go_sem])
          have y4 : World.cell? _ ⟨wr.heap.size, 4, none⟩ = some (.int .i64 hi) := g1.keep (by simp [go_sem])
          clear g1 q0 q1 q2 q3 q4 q5 HN
          cases r1 with
          | false =>
                have hz : z = false := by rw [E.out]; simp
                have HS' : Hid ((rs.take (k + 1)).all (fun r => !fitB proto y port r) = true) := HS.out hz
                clear HS HF E hz
                go_wp2
                go_roundw
                case rel => exact ⟨k + 1, by omega, by go_num, HS', HG1⟩
                case measure => simp [intOf]; omega
          | true =>
                go_wp2_with fail
                refine (HI.out _).mono ?_
                rintro e w2 ⟨rfl, rfl⟩
                cases r2 with
                | false =>
                  have hz : z = false := by rw [E.out]; simp
                  have HS' : Hid ((rs.take (k + 1)).all (fun r => !fitB proto y port r) = true) := HS.out hz
                  clear HS HF E hz
                  go_wp2
                  go_roundw
                  case rel => exact ⟨k + 1, by omega, by go_num, HS', HG1⟩
                  case measure => simp [intOf]; omega
                | true =>
                  have hz : z = true := by rw [E.out]; simp [dp]
                  have HF' : Hid (fv (fitB proto y port) rs = k) := HF.out hz
                  clear HS HF E hz
                  go_wp2
                  go_ret
                  exact ⟨by rw [HF'.out]; rfl, ((Grw.refl _).alloc _).trans HG1.out⟩
        · have n0 : (p == 0) = false := by simpa using h0
          have n1 : (p == proto) = true := by
            have := hp.resolve_left h0
            simpa using this
          have dp : dec (p = proto) = true := dec_y (hp.resolve_left h0)
          clear hp h0
          go_wp2_with fail
          refine (HN.out _).mono ?_
          rintro e w1 ⟨rfl, g1⟩
          have HG1 : Hid (Grw _ w1) := (HG.out.alloc _).trans g1
          have y3 : World.cell? _ ⟨wr.heap.size, 3, none⟩ = some (.int .i64 lo) := g1.keep (by simp [go_sem])
          have y4 : World.cell? _ ⟨wr.heap.size, 4, none⟩ = some (.int .i64 hi) := g1.keep (by simp [go_sem])
          clear g1 q0 q1 q2 q3 q4 q5 HN
          cases r1 with
          | false =>
                have hz : z = false := by rw [E.out]; simp
                have HS' : Hid ((rs.take (k + 1)).all (fun r => !fitB proto y port r) = true) := HS.out hz
                clear HS HF E hz
                go_wp2
                go_roundw
                case rel => exact ⟨k + 1, by omega, by go_num, HS', HG1⟩
                case measure => simp [intOf]; omega
          | true =>
                go_wp2_with fail
                refine (HI.out _).mono ?_
                rintro e w2 ⟨rfl, rfl⟩
                cases r2 with
                | false =>
                  have hz : z = false := by rw [E.out]; simp
                  have HS' : Hid ((rs.take (k + 1)).all (fun r => !fitB proto y port r) = true) := HS.out hz
                  clear HS HF E hz
                  go_wp2
                  go_roundw
                  case rel => exact ⟨k + 1, by omega, by go_num, HS', HG1⟩
                  case measure => simp [intOf]; omega
                | true =>
                  have hz : z = true := by rw [E.out]; simp [dp]
                  have HF' : Hid (fv (fitB proto y port) rs = k) := HF.out hz
                  clear HS HF E hz
                  go_wp2
                  go_ret
                  exact ⟨by rw [HF'.out]; rfl, ((Grw.refl _).alloc _).trans HG1.out⟩
      · have n0 : (p == 0) = false := by simp; intro h; exact hp (Or.inl h)
        have n1 : (p == proto) = false := by simp; intro h; exact hp (Or.inr h)
        have d0 : dec (p = 0) = false := dec_n (fun h => hp (Or.inl h))
        have d1 : dec (p = proto) = false := dec_n (fun h => hp (Or.inr h))
        clear hp
        have hz : z = false := by rw [E.out]; simp [d0, d1]
        have HS' : Hid ((rs.take (k + 1)).all (fun r => !fitB proto y port r) = true) := HS.out hz
        clear HS HF E hz
        go_wp2
        go_roundw
        case rel => exact ⟨k + 1, by omega, by go_num, HS', HG.out.alloc _⟩
        case measure => simp [intOf]; omega
    · obtain rfl : k = len := by omega
      have hd : Hid (fv (fitB proto y port) rs = -1) := fv_none (all_end hl HA.out)
      go_wp2
      go_ret
      exact ⟨by rw [hd.out]; rfl, ((Grw.refl _).alloc _).trans HG.out⟩

theorem l07Ask_any (y port : Int) (w : World) : Calls Tryz.prog 200 #[.int .i64 y, .int .i64 port] w fun e w' => e = .returned (.bool (dec (0 ≤ y ∧ y ≤ 4294967295) && dec (0 ≤ port ∧ port ≤ 65535))) ∧ w' = w := by
  obtain ⟨r1, hr1⟩ : ∃ r, r = dec (0 ≤ y ∧ y ≤ 4294967295) := ⟨_, rfl⟩
  obtain ⟨r2, hr2⟩ : ∃ r, r = dec (0 ≤ port ∧ port ≤ 65535) := ⟨_, rfl⟩
  have HA : Hid (∀ w, Calls Tryz.prog 77 #[.int .i64 y] w fun e w' => e = .returned (.bool r1) ∧ w' = w) := fun w => hr1 ▸ specIp_any y w
  have HB : Hid (∀ w, Calls Tryz.prog 199 #[.int .i64 port] w fun e w' => e = .returned (.bool r2) ∧ w' = w) := fun w => hr2 ▸ specPort_any port w
  rw [← hr1, ← hr2]
  clear hr1 hr2
  cases r1 with
  | false =>
    go_enter Tryz.func200, Tryz.ntmps200
    go_wp2_with fail
    refine (HA.out _).mono ?_
    rintro e w1 ⟨rfl, rfl⟩
    go_wp2
    go_ret
    exact ⟨rfl, rfl⟩
  | true =>
    go_enter Tryz.func200, Tryz.ntmps200
    go_wp2_with fail
    refine (HA.out _).mono ?_
    rintro e w1 ⟨rfl, rfl⟩
    go_wp2_with fail
    refine (HB.out _).mono ?_
    rintro e w1 ⟨rfl, rfl⟩
    go_wp2
    go_ret
    exact ⟨rfl, rfl⟩
theorem frC_bad {r : RoleV} {proto x port : Int} (h : roB r = false) : frC r proto x port = 1 ∧ frK r proto x port = 0 := by
  have e : frC r proto x port = 1 := by unfold frC; rw [if_pos h]
  exact ⟨e, by unfold frK; rw [e]; rfl⟩
theorem frC_range {r : RoleV} {proto x port : Int} (h : roB r = true) (h2 : (dec (0 ≤ proto ∧ proto ≤ 255) && (dec (0 ≤ x ∧ x ≤ 4294967295) && dec (0 ≤ port ∧ port ≤ 65535))) = false) : frC r proto x port = 4 ∧ frK r proto x port = 0 := by
  have e : frC r proto x port = 4 := by unfold frC; rw [if_neg (by rw [h]; simp), if_pos h2]
  exact ⟨e, by unfold frK; rw [e]; rfl⟩
theorem frC_none {r : RoleV} {proto x port : Int} (h : roB r = true) (h2 : (dec (0 ≤ proto ∧ proto ≤ 255) && (dec (0 ≤ x ∧ x ≤ 4294967295) && dec (0 ≤ port ∧ port ≤ 65535))) = true) (h3 : fv (fitB proto x port) r.rs < 0) : frC r proto x port = 5 ∧ frK r proto x port = 0 := by
  have e : frC r proto x port = 5 := by unfold frC; rw [if_neg (by rw [h]; simp), if_neg (by rw [h2]; simp), if_pos h3]
  exact ⟨e, by unfold frK; rw [e]; rfl⟩
theorem frC_yes {r : RoleV} {proto x port : Int} (h : roB r = true) (h2 : (dec (0 ≤ proto ∧ proto ≤ 255) && (dec (0 ≤ x ∧ x ≤ 4294967295) && dec (0 ≤ port ∧ port ≤ 65535))) = true) (h3 : ¬ fv (fitB proto x port) r.rs < 0) : frC r proto x port = 0 ∧ frK r proto x port = fv (fitB proto x port) r.rs := by
  have e : frC r proto x port = 0 := by unfold frC; rw [if_neg (by rw [h]; simp), if_neg (by rw [h2]; simp), if_neg h3]
  exact ⟨e, by unfold frK; rw [e]; rfl⟩

set_option maxHeartbeats 2000000 in
theorem implFirst_any (nm : ByteArray) (rs : List RuleV) (q m i : Int) (a : Option Addr) (len cap : Nat) (proto y port : Int) (w : World) (hs : nm.size ≤ 1048576) (h : Rw RuR 6 w a rs) (hl : rs.length = len) (hl2 : len ≤ 1048576) (hp : proto ≤ 9223372036854775807) (ht : port ≤ 9223372036854775807) :
    Calls Tryz.prog 228 #[.agg #[.string nm, .slice a len cap, .int .i64 q, .int .i64 m, .int .i64 i], .int .i64 proto, .int .i64 y, .int .i64 port] w fun e w' => e = .returned (.tuple #[.int .i64 (frK ⟨nm, rs, q, m, i⟩ proto y port), .int .i64 (frC ⟨nm, rs, q, m, i⟩ proto y port)]) ∧ Grw w w' := by
  obtain ⟨z, hz⟩ : ∃ z, z = roB ⟨nm, rs, q, m, i⟩ := ⟨_, rfl⟩
  obtain ⟨p1, hp1⟩ : ∃ z, z = dec (0 ≤ proto ∧ proto ≤ 255) := ⟨_, rfl⟩
  obtain ⟨p2, hp2⟩ : ∃ z, z = dec (0 ≤ y ∧ y ≤ 4294967295) := ⟨_, rfl⟩
  obtain ⟨p3, hp3⟩ : ∃ z, z = dec (0 ≤ port ∧ port ≤ 65535) := ⟨_, rfl⟩
  have EB : Hid (z = false → frC ⟨nm, rs, q, m, i⟩ proto y port = 1 ∧ frK ⟨nm, rs, q, m, i⟩ proto y port = 0) := fun h => frC_bad (hz ▸ h)
  have ER : Hid (z = true → (p1 && (p2 && p3)) = false → frC ⟨nm, rs, q, m, i⟩ proto y port = 4 ∧ frK ⟨nm, rs, q, m, i⟩ proto y port = 0) := fun h h2 => frC_range (hz ▸ h) (by rw [← hp1, ← hp2, ← hp3]; exact h2)
  have EN : Hid (z = true → (p1 && (p2 && p3)) = true → fv (fitB proto y port) rs < 0 → frC ⟨nm, rs, q, m, i⟩ proto y port = 5 ∧ frK ⟨nm, rs, q, m, i⟩ proto y port = 0) := fun h h2 h3 => frC_none (hz ▸ h) (by rw [← hp1, ← hp2, ← hp3]; exact h2) h3
  have EY : Hid (z = true → (p1 && (p2 && p3)) = true → ¬ fv (fitB proto y port) rs < 0 → frC ⟨nm, rs, q, m, i⟩ proto y port = 0 ∧ frK ⟨nm, rs, q, m, i⟩ proto y port = fv (fitB proto y port) rs) := fun h h2 h3 => frC_yes (hz ▸ h) (by rw [← hp1, ← hp2, ← hp3]; exact h2) h3
  have HY : Hid (z = true → rs.all ruB = true ∧ rs.length ≤ 8) := fun h => ro_yes (hz ▸ h)
  have RW : Hid (Rw RuR 6 w a rs) := h
  generalize frC ⟨nm, rs, q, m, i⟩ proto y port = c at EB ER EN EY ⊢
  generalize frK ⟨nm, rs, q, m, i⟩ proto y port = kk at EB ER EN EY ⊢
  have HO : Hid (∀ w, Rw RuR 6 w a rs → Calls Tryz.prog 235 #[.agg #[.string nm, .slice a len cap, .int .i64 q, .int .i64 m, .int .i64 i]] w fun e w' => e = .returned (.bool z) ∧ Grw w w') := fun w h => hz ▸ implRoleOK_any nm rs q m i a len cap w hs h hl hl2
  have H1 : Hid (∀ w, Calls Tryz.prog 225 #[.int .i64 proto, .int .i64 1] w fun e w' => e = .returned (.bool p1) ∧ w' = w) := fun w => hp1 ▸ hasRoom1 proto w hp
  have H2 : Hid (∀ w, Calls Tryz.prog 170 #[.int .i64 y] w fun e w' => e = .returned (.bool p2) ∧ w' = w) := fun w => hp2 ▸ addressOK_any y w
  have H3 : Hid (∀ w, Calls Tryz.prog 171 #[.int .i64 port] w fun e w' => e = .returned (.bool p3) ∧ w' = w) := fun w => hp3 ▸ portOK_any port w ht
  have HQ : Hid (p2 = true → 0 ≤ y ∧ y ≤ 4294967295) := fun h => by rw [hp2] at h; exact of_decide_eq_true h
  clear hz hp1 hp2 hp3 h hp ht
  cases z with
  | false =>
    have E := EB.out rfl
    go_enter Tryz.func228, Tryz.ntmps228
    go_wp2_with fail
    refine (HO.out _ (RW.out.keep RuR.kp ((Grw.refl w).alloc _).below)).mono ?_
    rintro e wx1 ⟨rfl, bx⟩
    have k0 : World.cell? _ ⟨w.heap.size, 0, none⟩ = some (.string nm) := bx.keep (a := ⟨w.heap.size, 0, none⟩) (v := .string nm) (by simp [go_sem])
    have k1 : World.cell? _ ⟨w.heap.size, 1, none⟩ = some (.slice a len cap) := bx.keep (a := ⟨w.heap.size, 1, none⟩) (v := .slice a len cap) (by simp [go_sem])
    have k2 : World.cell? _ ⟨w.heap.size, 2, none⟩ = some (.int .i64 q) := bx.keep (a := ⟨w.heap.size, 2, none⟩) (v := .int .i64 q) (by simp [go_sem])
    have k3 : World.cell? _ ⟨w.heap.size, 3, none⟩ = some (.int .i64 m) := bx.keep (a := ⟨w.heap.size, 3, none⟩) (v := .int .i64 m) (by simp [go_sem])
    have k4 : World.cell? _ ⟨w.heap.size, 4, none⟩ = some (.int .i64 i) := bx.keep (a := ⟨w.heap.size, 4, none⟩) (v := .int .i64 i) (by simp [go_sem])
    have BX : Hid (Grw w _) := ((Grw.refl _).alloc _).trans bx
    clear bx
    go_wp2
    go_ret2
    exact ⟨by rw [E.1, E.2] <;> rfl, BX.out⟩
  | true =>
    cases p1 with
    | false =>
      have E := ER.out rfl rfl
      go_enter Tryz.func228, Tryz.ntmps228
      go_wp2_with fail
      refine (HO.out _ (RW.out.keep RuR.kp ((Grw.refl w).alloc _).below)).mono ?_
      rintro e wx1 ⟨rfl, bx⟩
      have k0 : World.cell? _ ⟨w.heap.size, 0, none⟩ = some (.string nm) := bx.keep (a := ⟨w.heap.size, 0, none⟩) (v := .string nm) (by simp [go_sem])
      have k1 : World.cell? _ ⟨w.heap.size, 1, none⟩ = some (.slice a len cap) := bx.keep (a := ⟨w.heap.size, 1, none⟩) (v := .slice a len cap) (by simp [go_sem])
      have k2 : World.cell? _ ⟨w.heap.size, 2, none⟩ = some (.int .i64 q) := bx.keep (a := ⟨w.heap.size, 2, none⟩) (v := .int .i64 q) (by simp [go_sem])
      have k3 : World.cell? _ ⟨w.heap.size, 3, none⟩ = some (.int .i64 m) := bx.keep (a := ⟨w.heap.size, 3, none⟩) (v := .int .i64 m) (by simp [go_sem])
      have k4 : World.cell? _ ⟨w.heap.size, 4, none⟩ = some (.int .i64 i) := bx.keep (a := ⟨w.heap.size, 4, none⟩) (v := .int .i64 i) (by simp [go_sem])
      have BX : Hid (Grw w _) := ((Grw.refl _).alloc _).trans bx
      clear bx
      go_wp2_with fail
      refine (H1.out _).mono ?_
      rintro e wx2 ⟨rfl, rfl⟩
      go_wp2
      go_ret2
      exact ⟨by rw [E.1, E.2] <;> rfl, BX.out⟩
    | true =>
      cases p2 with
      | false =>
        have E := ER.out rfl rfl
        go_enter Tryz.func228, Tryz.ntmps228
        go_wp2_with fail
        refine (HO.out _ (RW.out.keep RuR.kp ((Grw.refl w).alloc _).below)).mono ?_
        rintro e wx1 ⟨rfl, bx⟩
        have k0 : World.cell? _ ⟨w.heap.size, 0, none⟩ = some (.string nm) := bx.keep (a := ⟨w.heap.size, 0, none⟩) (v := .string nm) (by simp [go_sem])
        have k1 : World.cell? _ ⟨w.heap.size, 1, none⟩ = some (.slice a len cap) := bx.keep (a := ⟨w.heap.size, 1, none⟩) (v := .slice a len cap) (by simp [go_sem])
        have k2 : World.cell? _ ⟨w.heap.size, 2, none⟩ = some (.int .i64 q) := bx.keep (a := ⟨w.heap.size, 2, none⟩) (v := .int .i64 q) (by simp [go_sem])
        have k3 : World.cell? _ ⟨w.heap.size, 3, none⟩ = some (.int .i64 m) := bx.keep (a := ⟨w.heap.size, 3, none⟩) (v := .int .i64 m) (by simp [go_sem])
        have k4 : World.cell? _ ⟨w.heap.size, 4, none⟩ = some (.int .i64 i) := bx.keep (a := ⟨w.heap.size, 4, none⟩) (v := .int .i64 i) (by simp [go_sem])
        have BX : Hid (Grw w _) := ((Grw.refl _).alloc _).trans bx
        clear bx
        go_wp2_with fail
        refine (H1.out _).mono ?_
        rintro e wx2 ⟨rfl, rfl⟩
        go_wp2_with fail
        refine (H2.out _).mono ?_
        rintro e wx3 ⟨rfl, rfl⟩
        go_wp2
        go_ret2
        exact ⟨by rw [E.1, E.2] <;> rfl, BX.out⟩
      | true =>
        cases p3 with
        | false =>
          have E := ER.out rfl rfl
          go_enter Tryz.func228, Tryz.ntmps228
          go_wp2_with fail
          refine (HO.out _ (RW.out.keep RuR.kp ((Grw.refl w).alloc _).below)).mono ?_
          rintro e wx1 ⟨rfl, bx⟩
          have k0 : World.cell? _ ⟨w.heap.size, 0, none⟩ = some (.string nm) := bx.keep (a := ⟨w.heap.size, 0, none⟩) (v := .string nm) (by simp [go_sem])
          have k1 : World.cell? _ ⟨w.heap.size, 1, none⟩ = some (.slice a len cap) := bx.keep (a := ⟨w.heap.size, 1, none⟩) (v := .slice a len cap) (by simp [go_sem])
          have k2 : World.cell? _ ⟨w.heap.size, 2, none⟩ = some (.int .i64 q) := bx.keep (a := ⟨w.heap.size, 2, none⟩) (v := .int .i64 q) (by simp [go_sem])
          have k3 : World.cell? _ ⟨w.heap.size, 3, none⟩ = some (.int .i64 m) := bx.keep (a := ⟨w.heap.size, 3, none⟩) (v := .int .i64 m) (by simp [go_sem])
          have k4 : World.cell? _ ⟨w.heap.size, 4, none⟩ = some (.int .i64 i) := bx.keep (a := ⟨w.heap.size, 4, none⟩) (v := .int .i64 i) (by simp [go_sem])
          have BX : Hid (Grw w _) := ((Grw.refl _).alloc _).trans bx
          clear bx
          go_wp2_with fail
          refine (H1.out _).mono ?_
          rintro e wx2 ⟨rfl, rfl⟩
          go_wp2_with fail
          refine (H2.out _).mono ?_
          rintro e wx3 ⟨rfl, rfl⟩
          go_wp2_with fail
          refine (H3.out _).mono ?_
          rintro e wx4 ⟨rfl, rfl⟩
          go_wp2
          go_ret2
          exact ⟨by rw [E.1, E.2] <;> rfl, BX.out⟩
        | true =>
          have EN' : Hid (fv (fitB proto y port) rs < 0 → c = 5 ∧ kk = 0) := EN.out rfl rfl
          have EY' : Hid (¬ fv (fitB proto y port) rs < 0 → c = 0 ∧ kk = fv (fitB proto y port) rs) := EY.out rfl rfl
          have hy := HQ.out rfl
          have HU : Hid (rs.all ruB = true) := (HY.out rfl).1
          have hl8 : len ≤ 8 := by have := (HY.out rfl).2; omega
          clear EB ER EN EY HY HQ
          go_enter Tryz.func228, Tryz.ntmps228
          go_wp2_with fail
          refine (HO.out _ (RW.out.keep RuR.kp ((Grw.refl w).alloc _).below)).mono ?_
          rintro e wx1 ⟨rfl, bx⟩
          have k0 : World.cell? _ ⟨w.heap.size, 0, none⟩ = some (.string nm) := bx.keep (a := ⟨w.heap.size, 0, none⟩) (v := .string nm) (by simp [go_sem])
          have k1 : World.cell? _ ⟨w.heap.size, 1, none⟩ = some (.slice a len cap) := bx.keep (a := ⟨w.heap.size, 1, none⟩) (v := .slice a len cap) (by simp [go_sem])
          have k2 : World.cell? _ ⟨w.heap.size, 2, none⟩ = some (.int .i64 q) := bx.keep (a := ⟨w.heap.size, 2, none⟩) (v := .int .i64 q) (by simp [go_sem])
          have k3 : World.cell? _ ⟨w.heap.size, 3, none⟩ = some (.int .i64 m) := bx.keep (a := ⟨w.heap.size, 3, none⟩) (v := .int .i64 m) (by simp [go_sem])
          have k4 : World.cell? _ ⟨w.heap.size, 4, none⟩ = some (.int .i64 i) := bx.keep (a := ⟨w.heap.size, 4, none⟩) (v := .int .i64 i) (by simp [go_sem])
          have BX : Hid (Grw w _) := ((Grw.refl _).alloc _).trans bx
          clear bx
          go_wp2_with fail
          refine (H1.out _).mono ?_
          rintro e wx2 ⟨rfl, rfl⟩
          go_wp2_with fail
          refine (H2.out _).mono ?_
          rintro e wx3 ⟨rfl, rfl⟩
          go_wp2_with fail
          refine (H3.out _).mono ?_
          rintro e wx4 ⟨rfl, rfl⟩
          clear H1 H2 H3 HO
          go_wp2
          skip
          skip
          go_loopw [31] (fun x wr => ∃ k : Nat, k ≤ len ∧ x = .int .i64 k ∧ Hid ((rs.take k).all (fun r => !fitB proto y port r) = true) ∧ Hid (Grw w wr ∧ wr.cell? ⟨w.heap.size, 1, none⟩ = some (.slice a len cap))) (fun x _ => len - (intOf x).toNat)
          case atStart => exact ⟨0, Nat.zero_le _, rfl, rfl, BX.out, k1⟩
          case round =>
            clear k0 k1 k2 k3 k4 BX
            obtain ⟨k, hk, rfl, HA, HG⟩ := hrel
            have b1 := HG.out.2
            by_cases hlt : k < len
            · obtain ⟨x, hx⟩ := at_of hl hlt
              obtain ⟨b, off, vs, rfl, hb, hvl, hR, hc⟩ := RW.out.at RuR.kp HG.out.1.below hx
              have hru := ru_yes (all_at HU.out hx)
              obtain ⟨p, ip, bb, lo, hi, al⟩ := x
              obtain ⟨rfl, hlo, hhi⟩ := hR
              have q0 : wr.cell? ⟨b, off + k * 6, none⟩ = some (.int .i64 p) := hc 0 _ rfl
              have q1 : wr.cell? ⟨b, off + k * 6 + 1, none⟩ = some (.int .i64 ip) := hc 1 _ rfl
              have q2 : wr.cell? ⟨b, off + k * 6 + 2, none⟩ = some (.int .i64 bb) := hc 2 _ rfl
              have q3 : wr.cell? ⟨b, off + k * 6 + 3, none⟩ = some (.int .i64 lo) := hc 3 _ rfl
              have q4 : wr.cell? ⟨b, off + k * 6 + 4, none⟩ = some (.int .i64 hi) := hc 4 _ rfl
              have q5 : wr.cell? ⟨b, off + k * 6 + 5, none⟩ = some (.bool al) := hc 5 _ rfl
              have HN : Hid (∀ w, Calls Tryz.prog 255 #[.agg #[.int .i64 p, .int .i64 ip, .int .i64 bb, .int .i64 lo, .int .i64 hi, .bool al], .int .i64 proto, .int .i64 y, .int .i64 port] w fun e w' => e = .returned (.bool (fitB proto y port ⟨p, ip, bb, lo, hi, al⟩)) ∧ Grw w w') := fun w => ruleFits_any p ip bb lo hi al proto y port w hru.2.2 hy
              have HS : Hid (fitB proto y port ⟨p, ip, bb, lo, hi, al⟩ = false → (rs.take (k + 1)).all (fun r => !fitB proto y port r) = true) := fun h => all_step2 hx HA.out (by rw [h]; rfl)
              have HF : Hid (fitB proto y port ⟨p, ip, bb, lo, hi, al⟩ = true → fv (fitB proto y port) rs = k) := fun h => fv_hit hx HA.out h
              generalize fitB proto y port ⟨p, ip, bb, lo, hi, al⟩ = z at HN HS HF
              have hltz : (k : Int) < (len : Int) := by omega
              clear hc hvl hx hru
              go_wp2_with fail
              refine (HN.out _).mono ?_
              rintro e w1 ⟨rfl, g1⟩
              have HG1 : Hid (Grw w w1) := (HG.out.1.alloc _).trans g1
              have b2 : w1.cell? ⟨w.heap.size, 1, none⟩ = some (.slice (some ⟨b, off, none⟩) len cap) := g1.keep (((Grw.refl wr).alloc _).keep b1)
              clear g1 q0 q1 q2 q3 q4 q5 HN b1
              cases z with
              | false =>
                have HS' : Hid ((rs.take (k + 1)).all (fun r => !fitB proto y port r) = true) := HS.out rfl
                clear HS HF HG
                go_wp2
                go_roundw
                case rel => exact ⟨k + 1, by omega, by go_num, HS', HG1.out, b2⟩
                case measure => simp [intOf]; omega
              | true =>
                have hf : Hid (fv (fitB proto y port) rs = k) := HF.out rfl
                have E : Hid (c = 0 ∧ kk = k) := by
                  have := EY'.out (by rw [hf.out]; omega)
                  rwa [hf.out] at this
                go_wp2
                go_ret2
                exact ⟨by rw [E.out.1, E.out.2] <;> rfl, HG1.out⟩
            · obtain rfl : k = len := by omega
              have hd : Hid (fv (fitB proto y port) rs = -1) := fv_none (all_end hl HA.out)
              have E := EN'.out (by rw [hd.out]; omega)
              go_wp2
              go_ret2
              exact ⟨by rw [E.1, E.2] <;> rfl, HG.out.1⟩

end Go.Proofs.YtlebblmlbhnppaaGreat
