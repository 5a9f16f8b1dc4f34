/- endSessions of the program. -/
import Derived.Test.YtmeejholckelgaaGreatE36
import Derived.Test.YtmeejholckelgaaGreatE37
namespace Go.Proofs.YtmeejholckelgaaGreat
open Go.RowKit Go.PlainAid Go.Proofs.YtmeejholckelgaaGreat.Bt Go.Sort
set_option linter.unusedVariables false
set_option maxRecDepth 20000
theorem ap_of {α β : Type} {c : α → List Value} {c' : β → List Value} {K K' : Nat} {e e' : TypeId} {w : World} {B B' : Nat} {v u : Value} {xs : List α} {ys : List β} (o : OwnS c K e w B v xs) (o' : OwnS c' K' e' w B' u ys) (hne : e ≠ e') : Ap v u := by
  intro k hk hk'
  rcases o.2 with ⟨h1, _⟩ | ⟨g, cap, cur, h1, _, hg1, _⟩
  · rw [h1] at hk; cases hk
  rcases o'.2 with ⟨h2, _⟩ | ⟨g', cap', cur', h2, _, hg2, _⟩
  · rw [h2] at hk'; cases hk'
  rw [h1] at hk
  rw [h2] at hk'
  have e1 : g = k := by simpa [Value.ownBlock] using hk
  have e2 : g' = k := by simpa [Value.ownBlock] using hk'
  subst e1; subst e2
  rw [hg1] at hg2
  cases hg2
  exact hne rfl
/-- Numbers in a row. -/
def iG (n : Int) : List Value := [.int .i64 n]
theorem iG_len (n : Int) : (iG n).length = 1 := rfl
theorem infoInt9 : (Tryz.prog.info? 3).map (fun i => (i.zero, i.size, i.bytes)) = some (some (.int .i64 0), 1, 8) := by kernel_rfl
theorem oneInt9 (ys : List Int) : ∀ u ∈ flatS iG ys, u.oneCell' = true := by
  intro u hu
  unfold flatS at hu
  rw [List.mem_flatMap] at hu
  obtain ⟨f, _, hf⟩ := hu
  simp [iG] at hf
  subst hf
  rfl
theorem wpl_Int9 (w : World) {ops : Array Oper} {rest : List Oper} {o : Oper} {a : Act} {Q : Exit → Act → World → Prop} (hgd : o.guard = none) (s x : Operand)
    (ho : o.op = .call { callee := .builtin .append, args := #[s, x], argTypes := #[56, 56] })
    (B : Nat) (v : Value) (L ys : List Int) (hs : a.eval s = v) (hown : OwnS iG 1 3 w B v L)
    (g off m c : Nat) (hm : ys.length = m) (hx : a.eval x = .slice (some ⟨g, off, none⟩) m c) (hc : ∀ j u, (flatS iG ys)[j]? = some u → w.cell? ⟨g, off + j, none⟩ = some u)
    (hlen : L.length + m ≤ 2000000) (hB : B ≤ w.heap.size)
    (h : ∀ v' w', Hid (OwnS iG 1 3 w' B v' (L ++ ys) ∧ Below B w w') → w.grownBy w' v.ownBlock → wpList Tryz.prog ops Q rest (a.put o.dst v') w') : wpList Tryz.prog ops Q (o :: rest) a w := by
  obtain ⟨i0, hi, hz0, hz1, hz2⟩ := info_parts infoInt9
  refine wpList_append_own w hgd s x 56 ho B 3 i0 (.int .i64 0) 1 8 Tryz.underlying56 hi hz0 hz1 hz2 rfl (by decide) v L.length (flatS iG L) hs hown ⟨g, off, none⟩ m c (flatS iG ys) hx (by rw [flatS_len iG_len, hm]) ?_
    (oneInt9 ys) (by unfold maxLen; omega) (by omega) hB ?_
  · intro j u hu
    rw [addn]
    exact hc j u hu
  · intro v' w' h2 h3 _
    subst hm
    exact h v' w' (hown.join hB h2 h3) h3
/-- What ends and what is left. -/
def esS (cs : SessV → Int) (ss : List SessV) (k : Nat) : List SessV := (ss.take k).filter (fun s => cs s == 0)
def esI (cs : SessV → Int) (ss : List SessV) (k : Nat) : List Int := ((ss.take k).filter (fun s => !(cs s == 0))).map (·.id)
def esF (cs : SessV → Int) (now : Int) (acc : List RecV) (s : SessV) : List RecV := if cs s == 0 then acc else if acc.length < 60 then acc ++ [⟨s.id, now, cs s, s.ud, true⟩] else acc
def esR (cs : SessV → Int) (now : Int) (rs : List RecV) (ss : List SessV) (k : Nat) : List RecV := (ss.take k).foldl (esF cs now) rs
theorem take_one {α : Type} {ss : List α} {k : Nat} {s : α} (h : ss[k]? = some s) : ss.take (k + 1) = ss.take k ++ [s] := by
  rw [List.take_add_one, h]; rfl
theorem esS_yes {cs : SessV → Int} {ss : List SessV} {k : Nat} {s : SessV} (h : ss[k]? = some s) (hc : cs s = 0) : esS cs ss (k + 1) = esS cs ss k ++ [s] := by
  unfold esS; rw [take_one h, List.filter_append]; simp [hc]
theorem esS_no {cs : SessV → Int} {ss : List SessV} {k : Nat} {s : SessV} (h : ss[k]? = some s) (hc : cs s ≠ 0) : esS cs ss (k + 1) = esS cs ss k := by
  unfold esS; rw [take_one h, List.filter_append]; simp [hc]
theorem esI_yes {cs : SessV → Int} {ss : List SessV} {k : Nat} {s : SessV} (h : ss[k]? = some s) (hc : cs s = 0) : esI cs ss (k + 1) = esI cs ss k := by
  unfold esI; rw [take_one h, List.filter_append]; simp [hc]
theorem esI_no {cs : SessV → Int} {ss : List SessV} {k : Nat} {s : SessV} (h : ss[k]? = some s) (hc : cs s ≠ 0) : esI cs ss (k + 1) = esI cs ss k ++ [s.id] := by
  unfold esI; rw [take_one h, List.filter_append]; simp [hc]
theorem esR_step {cs : SessV → Int} {now : Int} {rs : List RecV} {ss : List SessV} {k : Nat} {s : SessV} (h : ss[k]? = some s) : esR cs now rs ss (k + 1) = esF cs now (esR cs now rs ss k) s := by
  unfold esR; rw [take_one h, List.foldl_append]; rfl
theorem esR_yes {cs : SessV → Int} {now : Int} {rs : List RecV} {ss : List SessV} {k : Nat} {s : SessV} (h : ss[k]? = some s) (hc : cs s = 0) : esR cs now rs ss (k + 1) = esR cs now rs ss k := by
  rw [esR_step h, esF, if_pos (by simp [hc])]
theorem esR_no {cs : SessV → Int} {now : Int} {rs : List RecV} {ss : List SessV} {k : Nat} {s : SessV} (h : ss[k]? = some s) (hc : cs s ≠ 0) (hl : (esR cs now rs ss k).length < 60) : esR cs now rs ss (k + 1) = esR cs now rs ss k ++ [⟨s.id, now, cs s, s.ud, true⟩] := by
  rw [esR_step h, esF, if_neg (by simp [hc]), if_pos hl]
theorem esR_full {cs : SessV → Int} {now : Int} {rs : List RecV} {ss : List SessV} {k : Nat} {s : SessV} (h : ss[k]? = some s) (hc : cs s ≠ 0) (hl : ¬ (esR cs now rs ss k).length < 60) : esR cs now rs ss (k + 1) = esR cs now rs ss k := by
  rw [esR_step h, esF, if_neg (by simp [hc]), if_neg hl]
theorem esS_len (cs : SessV → Int) (ss : List SessV) (k : Nat) : (esS cs ss k).length ≤ k := Nat.le_trans (List.length_filter_le _ _) (by simp; omega)
theorem esI_len (cs : SessV → Int) (ss : List SessV) (k : Nat) : (esI cs ss k).length ≤ k := by
  unfold esI; rw [List.length_map]; exact Nat.le_trans (List.length_filter_le _ _) (by simp; omega)
theorem esR_len (cs : SessV → Int) (now : Int) (rs : List RecV) (ss : List SessV) : ∀ k, (esR cs now rs ss k).length ≤ rs.length + k
  | 0 => by simp [esR]
  | k + 1 => by
    have ih := esR_len cs now rs ss k
    cases h : ss[k]? with
    | none =>
      have e : esR cs now rs ss (k + 1) = esR cs now rs ss k := by
        unfold esR
        rw [List.take_add_one, h]; simp
      rw [e]; omega
    | some s =>
      rw [esR_step h, esF]
      split
      · omega
      · split
        · simp; omega
        · omega
theorem own4_of {w : World} {B B' : Nat} {vu vs vf vr : Value} {us : List UserV} {ss : List SessV} {fs : List FailV} {rs : List RecV} (u : OwnS uvG 6 86 w B vu us) (s : OwnS svG 10 84 w B vs ss) (f : OwnS fvG 3 131 w B vf fs) (r : OwnS evG 5 134 w B vr rs) (hb : B' ≤ B) : Own4 w B' vu vs vf vr us ss fs rs :=
  ⟨u.lower hb, s.lower hb, f.lower hb, r.lower hb, ap_of u s (by decide), ap_of u f (by decide), ap_of u r (by decide), ap_of s f (by decide), ap_of s r (by decide), ap_of f r (by decide)⟩
theorem one_new {α : Type} (c : α → List Value) (w : World) (vals : Array Value) (t : TypeId) (x : α) (h : vals.toList = c x) : ∀ j u, (flatS c [x])[j]? = some u → (w.alloc (.cells vals t)).cell? ⟨w.heap.size, 0 + j, none⟩ = some u := by
  intro j u hu
  rw [Nat.zero_add]
  refine (Bo.new w vals t).cell j ?_
  rw [h]
  simpa [flatS] using hu
structure ES (w : World) (q8 : Nat) (ua sa fa ra : Option Addr) (ul uc sl sc fl fc rl rc : Nat) (us : List UserV) (ss : List SessV) (fs : List FailV) (rs : List RecV) (nx : Int) (now : Int) (cs : SessV → Int) (vu vf : Value) (k : Nat) (sx : Option Addr) (sy : Nat) (rx : Option Addr) (ry : Nat) (ix : Option Addr) (iy : Nat) (wr : World) : Prop where
  g : Bo wr w.heap.size 41 [.slice ua ul uc, .slice sa sl sc, .slice fa fl fc, .slice ra rl rc, .int .i64 nx]
  r : Bo wr (w.heap.size + 1) 41 [.slice none 0 0, .slice none 0 0, .slice none 0 0, .slice none 0 0, .int .i64 0]
  n : Bo wr q8 41 [vu, .slice sx (esS cs ss k).length sy, vf, .slice rx (esR cs now rs ss k).length ry, .int .i64 nx]
  u : OwnS uvG 6 86 wr (w.heap.size + 2) vu us
  s : OwnS svG 10 84 wr (w.heap.size + 2) (.slice sx (esS cs ss k).length sy) (esS cs ss k)
  f : OwnS fvG 3 131 wr (w.heap.size + 2) vf fs
  rr : OwnS evG 5 134 wr (w.heap.size + 2) (.slice rx (esR cs now rs ss k).length ry) (esR cs now rs ss k)
  i : OwnS iG 1 3 wr (w.heap.size + 2) (.slice ix (esI cs ss k).length iy) (esI cs ss k)
  b : Below w.heap.size w wr
theorem ES.below {w : World} {q8 : Nat} {ua sa fa ra : Option Addr} {ul uc sl sc fl fc rl rc : Nat} {us : List UserV} {ss : List SessV} {fs : List FailV} {rs : List RecV} {nx : Int} {now : Int} {cs : SessV → Int} {vu vf : Value} {k : Nat} {sx : Option Addr} {sy : Nat} {rx : Option Addr} {ry : Nat} {ix : Option Addr} {iy : Nat} {wr wy : World} (h : ES w q8 ua sa fa ra ul uc sl sc fl fc rl rc us ss fs rs nx now cs vu vf k sx sy rx ry ix iy wr) (hb : Below wr.heap.size wr wy) : ES w q8 ua sa fa ra ul uc sl sc fl fc rl rc us ss fs rs nx now cs vu vf k sx sy rx ry ix iy wy :=
  ⟨h.g.below hb, h.r.below hb, h.n.below hb, h.u.now hb, h.s.now hb, h.f.now hb, h.rr.now hb, h.i.now hb, h.b.trans (hb.mono h.b.size)⟩
set_option maxHeartbeats 8000000 in
theorem endSessions_1 (ua sa fa ra : Option Addr) (ul uc sl sc fl fc rl rc : Nat) (us : List UserV) (ss : List SessV) (fs : List FailV) (rs : List RecV) (nx : Int) (now : Int) (gf : Nat) (p0 : Value) (cs : SessV → Int) (w : World) (hu : Src UsR 6 w ua ul uc us) (hs : Src SeR 10 w sa sl sc ss) (hf : Src FaR 3 w fa fl fc fs) (hr : Src ReR 5 w ra rl rc rs)
    (eg : ∀ args w, (callFunc gf args).run Tryz.prog w = .ok (.enter gf args) w)
    (hg : ∀ (id us_ : Int) (mc : ByteArray) (ip be la ud qu un il : Int) (W : World), Below w.heap.size w W → Calls Tryz.prog gf #[.agg #[.int .i64 id, .int .i64 us_, .string mc, .int .i64 ip, .int .i64 be, .int .i64 la, .int .i64 ud, .int .i64 qu, .int .i64 un, .int .i64 il], p0] W fun e w' => e = .returned (.int .i64 (cs ⟨id, us_, mc, ip, be, la, ud, qu, un, il⟩)) ∧ Grw W w') :
    Calls Tryz.prog 65 #[.agg #[.slice ua ul uc, .slice sa sl sc, .slice fa fl fc, .slice ra rl rc, .int .i64 nx], .int .i64 now, .func (.func gf) #[] #[p0]] w fun e w' => ∃ vu vs vf vr vi, e = .returned (.tuple #[.agg #[vu, vs, vf, vr, .int .i64 nx], vi]) ∧ Own4 w' w.heap.size vu vs vf vr us (esS cs ss sl) fs (esR cs now rs ss sl) ∧ OwnS iG 1 3 w' w.heap.size vi (esI cs ss sl) ∧ Below w.heap.size w w' := by
  have HC : Hid (∀ (id us_ : Int) (mc : ByteArray) (ip be la ud qu un il : Int) (W : World), Below w.heap.size w W → Calls Tryz.prog gf #[.agg #[.int .i64 id, .int .i64 us_, .string mc, .int .i64 ip, .int .i64 be, .int .i64 la, .int .i64 ud, .int .i64 qu, .int .i64 un, .int .i64 il], p0] W fun e w' => e = .returned (.int .i64 (cs ⟨id, us_, mc, ip, be, la, ud, qu, un, il⟩)) ∧ Grw W w') := hg
  have RW : Hid (Src SeR 10 w sa sl sc ss) := hs
  have hsl := hs.hmost
  have hrl : rs.length ≤ 1048576 := by have := hr.hlen; have := hr.hmost; omega
  have CP : Hid (∀ wx, Below w.heap.size w wx → Calls Tryz.prog 45 #[.agg #[.slice ua ul uc, .slice sa sl sc, .slice fa fl fc, .slice ra rl rc, .int .i64 nx]] wx fun e w' => ∃ vu vs vf vr, e = .returned (.agg #[vu, vs, vf, vr, .int .i64 nx]) ∧ Own4 w' wx.heap.size vu vs vf vr us ss fs rs ∧ Below wx.heap.size wx w') := fun wx hb => copyGuests_any ua sa fa ra ul uc sl sc fl fc rl rc us ss fs rs nx wx (hu.below UsR.kp hb) (hs.below SeR.kp hb) (hf.below FaR.kp hb) (hr.below ReR.kp hb)
  clear hg hu hs hf hr
  have G0 : Bo ((w.alloc (.cells #[.slice ua ul uc, .slice sa sl sc, .slice fa fl fc, .slice ra rl rc, .int .i64 nx] 41)).alloc (.cells #[.slice none 0 0, .slice none 0 0, .slice none 0 0, .slice none 0 0, .int .i64 0] 41)) w.heap.size 41 [.slice ua ul uc, .slice sa sl sc, .slice fa fl fc, .slice ra rl rc, .int .i64 nx] := (Bo.new w #[.slice ua ul uc, .slice sa sl sc, .slice fa fl fc, .slice ra rl rc, .int .i64 nx] _).below ((Below.refl _ _).alloc (Nat.le_refl _) _)
  have R0 : Bo ((w.alloc (.cells #[.slice ua ul uc, .slice sa sl sc, .slice fa fl fc, .slice ra rl rc, .int .i64 nx] 41)).alloc (.cells #[.slice none 0 0, .slice none 0 0, .slice none 0 0, .slice none 0 0, .int .i64 0] 41)) (w.heap.size + 1) 41 [.slice none 0 0, .slice none 0 0, .slice none 0 0, .slice none 0 0, .int .i64 0] := by
    have := Bo.new (w.alloc (.cells #[.slice ua ul uc, .slice sa sl sc, .slice fa fl fc, .slice ra rl rc, .int .i64 nx] 41)) #[.slice none 0 0, .slice none 0 0, .slice none 0 0, .slice none 0 0, .int .i64 0] 41
    rw [World.size_alloc] at this
    exact this
  have B0 : Hid (Below w.heap.size w ((w.alloc (.cells #[.slice ua ul uc, .slice sa sl sc, .slice fa fl fc, .slice ra rl rc, .int .i64 nx] 41)).alloc (.cells #[.slice none 0 0, .slice none 0 0, .slice none 0 0, .slice none 0 0, .int .i64 0] 41))) := ((Below.refl _ _).alloc (Nat.le_refl _) _).alloc (by simp) _
  have G0x := G0.bx
  go_enter Tryz.func65, Tryz.ntmps65
  go_wp2_with (first | (refine wpl_getT 41 rfl _ rfl _ rfl G0x _ Tryz.underlying41 rfl rfl ?_) | fail)
  refine (CP.out _ B0.out).mono ?_
  rintro e w1 ⟨vu, vs, vf, vr, rfl, o1, b1⟩
  have G1 := G0.below b1
  have R1 := R0.below b1
  have B1 : Hid (Below w.heap.size w w1) := B0.out.trans (b1.mono B0.out.size)
  have hz0 : w.heap.size + 2 = ((w.alloc (.cells #[.slice ua ul uc, .slice sa sl sc, .slice fa fl fc, .slice ra rl rc, .int .i64 nx] 41)).alloc (.cells #[.slice none 0 0, .slice none 0 0, .slice none 0 0, .slice none 0 0, .int .i64 0] 41)).heap.size := by simp
  rw [← hz0] at o1
  have hz1 : w.heap.size + 2 ≤ w1.heap.size := by have := b1.size; omega
  clear G0 R0 B0 b1 G0x CP hz0
  obtain ⟨ux, uy, rfl, -⟩ := o1.u.slice
  obtain ⟨sx, sy, rfl, -⟩ := o1.s.slice
  obtain ⟨fx, fy, rfl, -⟩ := o1.f.slice
  obtain ⟨rx, ry, rfl, -⟩ := o1.r.slice
  have hq8 : w.heap.size + 2 ≤ w1.heap.size := hz1
  have N1 : Bo (w1.alloc (.cells #[.slice none 0 0, .slice none 0 0, .slice none 0 0, .slice none 0 0, .int .i64 0] 41)) w1.heap.size 41 [.slice none 0 0, .slice none 0 0, .slice none 0 0, .slice none 0 0, .int .i64 0] := Bo.new w1 #[.slice none 0 0, .slice none 0 0, .slice none 0 0, .slice none 0 0, .int .i64 0] _
  have N1x := N1.bx
  have al : Below w1.heap.size w1 (w1.alloc (.cells #[.slice none 0 0, .slice none 0 0, .slice none 0 0, .slice none 0 0, .int .i64 0] 41)) := (Below.refl _ _).alloc (Nat.le_refl _) _
  have X1 : Hid (Bo (w1.alloc (.cells #[.slice none 0 0, .slice none 0 0, .slice none 0 0, .slice none 0 0, .int .i64 0] 41)) w.heap.size 41 [.slice ua ul uc, .slice sa sl sc, .slice fa fl fc, .slice ra rl rc, .int .i64 nx] ∧ Bo (w1.alloc (.cells #[.slice none 0 0, .slice none 0 0, .slice none 0 0, .slice none 0 0, .int .i64 0] 41)) (w.heap.size + 1) 41 [.slice none 0 0, .slice none 0 0, .slice none 0 0, .slice none 0 0, .int .i64 0] ∧ Own4 (w1.alloc (.cells #[.slice none 0 0, .slice none 0 0, .slice none 0 0, .slice none 0 0, .int .i64 0] 41)) (w.heap.size + 2) (.slice ux us.length uy) (.slice sx ss.length sy) (.slice fx fs.length fy) (.slice rx rs.length ry) us ss fs rs ∧ Below w.heap.size w (w1.alloc (.cells #[.slice none 0 0, .slice none 0 0, .slice none 0 0, .slice none 0 0, .int .i64 0] 41))) := ⟨G1.below al, R1.below al, o1.now al, B1.out.alloc B1.out.size _⟩
  clear G1 R1 B1 o1 al hz1
  go_wp2_with (first | (refine wpl_putT 41 rfl _ _ rfl w1.heap.size #[.slice ux us.length uy, .slice sx ss.length sy, .slice fx fs.length fy, .slice rx rs.length ry, .int .i64 nx] rfl rfl N1x rfl rfl rfl ?_; intro w2 hw2 N2x; have X2 : Hid (Bo w2 w1.heap.size 41 [.slice ux us.length uy, .slice sx ss.length sy, .slice fx fs.length fy, .slice rx rs.length ry, .int .i64 nx] ∧ Bo w2 w.heap.size 41 [.slice ua ul uc, .slice sa sl sc, .slice fa fl fc, .slice ra rl rc, .int .i64 nx] ∧ Bo w2 (w.heap.size + 1) 41 [.slice none 0 0, .slice none 0 0, .slice none 0 0, .slice none 0 0, .int .i64 0] ∧ (OwnS uvG 6 86 w2 (w.heap.size + 2) (.slice ux us.length uy) us) ∧ (OwnS fvG 3 131 w2 (w.heap.size + 2) (.slice fx fs.length fy) fs) ∧ (OwnS evG 5 134 w2 (w.heap.size + 2) (.slice rx rs.length ry) rs) ∧ Below w.heap.size w w2) := (by rw [hw2]; exact ⟨N1.put _ rfl, Bo.farC (by omega) _ _ _ X1.out.1, Bo.farC (by omega) _ _ _ X1.out.2.1, OwnS.boxes _ _ _ _ X1.out.2.2.1.u N1 (by decide), OwnS.boxes _ _ _ _ X1.out.2.2.1.f N1 (by decide), OwnS.boxes _ _ _ _ X1.out.2.2.1.r N1 (by decide), below_cells (by omega) _ _ _ X1.out.2.2.2⟩); have cn : w2.cell? ⟨w1.heap.size, 1, none⟩ = some (.slice sx ss.length sy) := X2.out.1.cell 1 rfl; have zn : w2.frozen? ⟨w1.heap.size, 1, none⟩ = false := X2.out.1.thaw 1 (by simp); have cg : w2.cell? ⟨w.heap.size, 1, none⟩ = some (.slice sa sl sc) := X2.out.2.1.cell 1 rfl; clear hw2 N2x X1) | fail)
  have E0 : Hid (ES w w1.heap.size ua sa fa ra ul uc sl sc fl fc rl rc us ss fs rs nx now cs (.slice ux us.length uy) (.slice fx fs.length fy) 0 none 0 rx ry none 0 (w2.setCell ⟨w1.heap.size, 1, none⟩ (.slice none 0 0))) := ⟨X2.out.2.1.far _ _ (by show w1.heap.size ≠ w.heap.size; omega), X2.out.2.2.1.far _ _ (by show w1.heap.size ≠ w.heap.size + 1; omega), X2.out.1.field 1 _, X2.out.2.2.2.1.box X2.out.1 (by decide) _ _, OwnS.nil _ _, X2.out.2.2.2.2.1.box X2.out.1 (by decide) _ _, X2.out.2.2.2.2.2.1.box X2.out.1 (by decide) _ _, OwnS.nil _ _, X2.out.2.2.2.2.2.2.setCell (by show w.heap.size ≤ w1.heap.size; omega) _⟩
  clear X2 cn zn cg N1 N1x
  go_loopw [9, 19] (fun vi z wr => ∃ (k : Nat) (sx : Option Addr) (sy : Nat) (rx : Option Addr) (ry : Nat) (ix : Option Addr) (iy : Nat), k ≤ sl ∧ z = .int .i64 k ∧ vi = .slice ix (esI cs ss k).length iy ∧ Hid (ES w w1.heap.size ua sa fa ra ul uc sl sc fl fc rl rc us ss fs rs nx now cs (.slice ux us.length uy) (.slice fx fs.length fy) k sx sy rx ry ix iy wr)) (fun _ z _ => sl - (intOf z).toNat)
  case atStart => exact ⟨0, none, 0, rx, ry, none, 0, Nat.zero_le _, rfl, rfl, E0⟩
  case round =>
    clear E0
    obtain ⟨k, sx, sy, rx, ry, ix, iy, hk, rfl, rfl, E⟩ := hrel
    by_cases hlt : k < sl
    · obtain ⟨x, hx⟩ := at_of RW.out.hlen hlt
      obtain ⟨b, off, vs, rfl, hb, hvl, hR, hc⟩ := RW.out.hrw.at SeR.kp E.out.b hx
      obtain ⟨id, us_, mc, ip, be, la, ud, qu, un, il⟩ := x
      obtain ⟨rfl, -⟩ := hR
      have q0 : wr.cell? ⟨b, off + k * 10, none⟩ = some (.int .i64 id) := hc 0 _ rfl
      have q1 : wr.cell? ⟨b, off + k * 10 + 1, none⟩ = some (.int .i64 us_) := hc 1 _ rfl
      have q2 : wr.cell? ⟨b, off + k * 10 + 2, none⟩ = some (.string mc) := hc 2 _ rfl
      have q3 : wr.cell? ⟨b, off + k * 10 + 3, none⟩ = some (.int .i64 ip) := hc 3 _ rfl
      have q4 : wr.cell? ⟨b, off + k * 10 + 4, none⟩ = some (.int .i64 be) := hc 4 _ rfl
      have q5 : wr.cell? ⟨b, off + k * 10 + 5, none⟩ = some (.int .i64 la) := hc 5 _ rfl
      have q6 : wr.cell? ⟨b, off + k * 10 + 6, none⟩ = some (.int .i64 ud) := hc 6 _ rfl
      have q7 : wr.cell? ⟨b, off + k * 10 + 7, none⟩ = some (.int .i64 qu) := hc 7 _ rfl
      have q8 : wr.cell? ⟨b, off + k * 10 + 8, none⟩ = some (.int .i64 un) := hc 8 _ rfl
      have q9 : wr.cell? ⟨b, off + k * 10 + 9, none⟩ = some (.int .i64 il) := hc 9 _ rfl
      have hltz : (k : Int) < (sl : Int) := by omega
      have HX : Hid (ss[k]? = some ⟨id, us_, mc, ip, be, la, ud, qu, un, il⟩) := hx
      have S1 : Bo (wr.alloc (.cells #[.int .i64 id, .int .i64 us_, .string mc, .int .i64 ip, .int .i64 be, .int .i64 la, .int .i64 ud, .int .i64 qu, .int .i64 un, .int .i64 il] 84)) wr.heap.size 84 [.int .i64 id, .int .i64 us_, .string mc, .int .i64 ip, .int .i64 be, .int .i64 la, .int .i64 ud, .int .i64 qu, .int .i64 un, .int .i64 il] := Bo.new wr #[.int .i64 id, .int .i64 us_, .string mc, .int .i64 ip, .int .i64 be, .int .i64 la, .int .i64 ud, .int .i64 qu, .int .i64 un, .int .i64 il] _
      have E1 : Hid (ES w w1.heap.size ua (some ⟨b, off, none⟩) fa ra ul uc sl sc fl fc rl rc us ss fs rs nx now cs (.slice ux us.length uy) (.slice fx fs.length fy) k sx sy rx ry ix iy (wr.alloc (.cells #[.int .i64 id, .int .i64 us_, .string mc, .int .i64 ip, .int .i64 be, .int .i64 la, .int .i64 ud, .int .i64 qu, .int .i64 un, .int .i64 il] 84))) := E.out.below ((Below.refl _ _).alloc (Nat.le_refl _) _)
      have hqr : w1.heap.size ≠ wr.heap.size := by have := E.out.n.lt; omega
      have lS := esS_len cs ss k
      have lI := esI_len cs ss k
      have lR := esR_len cs now rs ss k
      clear hc hvl E hx
      by_cases h0 : cs ⟨id, us_, mc, ip, be, la, ud, qu, un, il⟩ = 0
      · have HCx : Hid (∀ (W : World), Below w.heap.size w W → Calls Tryz.prog gf #[.agg #[.int .i64 id, .int .i64 us_, .string mc, .int .i64 ip, .int .i64 be, .int .i64 la, .int .i64 ud, .int .i64 qu, .int .i64 un, .int .i64 il], p0] W fun e w' => e = .returned (.int .i64 0) ∧ Grw W w') := fun W hW => by
          have := HC.out id us_ mc ip be la ud qu un il W hW
          rw [h0] at this
          exact this
        have eS := esS_yes HX.out h0
        have eI := esI_yes HX.out h0
        have eR := esR_yes (now := now) (rs := rs) HX.out h0
        clear h0
        go_wp2_with (go_at_fn gf; refine (HCx.out _ E1.out.b).mono ?_)
        first | (rintro e w4 rfl g4) | (rintro e w4 ⟨rfl, g4⟩)
        have E4 : Hid (ES w w1.heap.size ua (some ⟨b, off, none⟩) fa ra ul uc sl sc fl fc rl rc us ss fs rs nx now cs (.slice ux us.length uy) (.slice fx fs.length fy) k sx sy rx ry ix iy w4) := E1.out.below g4.below
        have S4 := S1.below g4.below
        clear E1 S1 g4 HCx q0 q1 q2 q3 q4 q5 q6 q7 q8 q9
        have cn : w4.cell? ⟨w1.heap.size, 1, none⟩ = some (.slice sx (esS cs ss k).length sy) := E4.out.n.cell 1 rfl
        have t0 : w4.cell? ⟨wr.heap.size, 0, none⟩ = some (.int .i64 id) := S4.cell 0 rfl
        have t1 : w4.cell? ⟨wr.heap.size, 1, none⟩ = some (.int .i64 us_) := S4.cell 1 rfl
        have t2 : w4.cell? ⟨wr.heap.size, 2, none⟩ = some (.string mc) := S4.cell 2 rfl
        have t3 : w4.cell? ⟨wr.heap.size, 3, none⟩ = some (.int .i64 ip) := S4.cell 3 rfl
        have t4 : w4.cell? ⟨wr.heap.size, 4, none⟩ = some (.int .i64 be) := S4.cell 4 rfl
        have t5 : w4.cell? ⟨wr.heap.size, 5, none⟩ = some (.int .i64 la) := S4.cell 5 rfl
        have t6 : w4.cell? ⟨wr.heap.size, 6, none⟩ = some (.int .i64 ud) := S4.cell 6 rfl
        have t7 : w4.cell? ⟨wr.heap.size, 7, none⟩ = some (.int .i64 qu) := S4.cell 7 rfl
        have t8 : w4.cell? ⟨wr.heap.size, 8, none⟩ = some (.int .i64 un) := S4.cell 8 rfl
        have t9 : w4.cell? ⟨wr.heap.size, 9, none⟩ = some (.int .i64 il) := S4.cell 9 rfl
        have al : Below w4.heap.size w4 (w4.alloc (.cells #[.int .i64 id, .int .i64 us_, .string mc, .int .i64 ip, .int .i64 be, .int .i64 la, .int .i64 ud, .int .i64 qu, .int .i64 un, .int .i64 il] 84)) := (Below.refl _ _).alloc (Nat.le_refl _) _
        have E5 : Hid (ES w w1.heap.size ua (some ⟨b, off, none⟩) fa ra ul uc sl sc fl fc rl rc us ss fs rs nx now cs (.slice ux us.length uy) (.slice fx fs.length fy) k sx sy rx ry ix iy (w4.alloc (.cells #[.int .i64 id, .int .i64 us_, .string mc, .int .i64 ip, .int .i64 be, .int .i64 la, .int .i64 ud, .int .i64 qu, .int .i64 un, .int .i64 il] 84))) := E4.out.below al
        have OS5 := E5.out.s
        have hB5 : w.heap.size + 2 ≤ (w4.alloc (.cells #[.int .i64 id, .int .i64 us_, .string mc, .int .i64 ip, .int .i64 be, .int .i64 la, .int .i64 ud, .int .i64 qu, .int .i64 un, .int .i64 il] 84)).heap.size := by have := E5.out.n.lt; omega
        have CL := one_new svG w4 #[.int .i64 id, .int .i64 us_, .string mc, .int .i64 ip, .int .i64 be, .int .i64 la, .int .i64 ud, .int .i64 qu, .int .i64 un, .int .i64 il] 84 ⟨id, us_, mc, ip, be, la, ud, qu, un, il⟩ rfl
        clear al E4
        go_wp2_with (at_builtin; go_loud (refine wpl_Session _ rfl (.tmp 29) (.tmp 31) rfl (w.heap.size + 2) _ (esS cs ss k) [⟨id, us_, mc, ip, be, la, ud, qu, un, il⟩] rfl OS5 w4.heap.size 0 1 1 rfl rfl CL (by omega) hB5 ?_))
        intro v6 w6 Y6 g6
        have E6 : Hid (Bo w6 w.heap.size 41 [.slice ua ul uc, .slice (some ⟨b, off, none⟩) sl sc, .slice fa fl fc, .slice ra rl rc, .int .i64 nx] ∧ Bo w6 (w.heap.size + 1) 41 [.slice none 0 0, .slice none 0 0, .slice none 0 0, .slice none 0 0, .int .i64 0] ∧ Bo w6 w1.heap.size 41 [(.slice ux us.length uy), .slice sx (esS cs ss k).length sy, (.slice fx fs.length fy), .slice rx (esR cs now rs ss k).length ry, .int .i64 nx] ∧ (OwnS uvG 6 86 w6 (w.heap.size + 2) (.slice ux us.length uy) us) ∧ (OwnS fvG 3 131 w6 (w.heap.size + 2) (.slice fx fs.length fy) fs) ∧ (OwnS evG 5 134 w6 (w.heap.size + 2) (.slice rx (esR cs now rs ss k).length ry) (esR cs now rs ss k)) ∧ OwnS iG 1 3 w6 (w.heap.size + 2) (.slice ix (esI cs ss k).length iy) (esI cs ss k) ∧ Below w.heap.size w w6) := ⟨E5.out.g.row OS5 (by decide) g6, E5.out.r.row OS5 (by decide) g6, E5.out.n.row OS5 (by decide) g6, E5.out.u.other OS5 (by decide) g6, E5.out.f.other OS5 (by decide) g6, E5.out.rr.other OS5 (by decide) g6, E5.out.i.other OS5 (by decide) g6, E5.out.b.trans (Y6.out.2.mono (by omega))⟩
        have O6 := Y6.out.1
        rw [← eS] at O6
        obtain ⟨s6, c6, rfl, -⟩ := O6.slice
        have cn6 : w6.cell? ⟨w1.heap.size, 1, none⟩ = some (.slice sx (esS cs ss k).length sy) := E6.out.2.2.1.cell 1 rfl
        have zn6 : w6.frozen? ⟨w1.heap.size, 1, none⟩ = false := E6.out.2.2.1.thaw 1 (by simp)
        have E7 : Hid (ES w w1.heap.size ua (some ⟨b, off, none⟩) fa ra ul uc sl sc fl fc rl rc us ss fs rs nx now cs (.slice ux us.length uy) (.slice fx fs.length fy) (k + 1) s6 c6 rx ry ix iy (w6.setCell ⟨w1.heap.size, 1, none⟩ (.slice s6 (esS cs ss (k + 1)).length c6))) := by
          refine ⟨E6.out.1.far _ _ (by show w1.heap.size ≠ w.heap.size; omega), E6.out.2.1.far _ _ (by show w1.heap.size ≠ w.heap.size + 1; omega), ?_, E6.out.2.2.2.1.box E6.out.2.2.1 (by decide) _ _, O6.box E6.out.2.2.1 (by decide) _ _, E6.out.2.2.2.2.1.box E6.out.2.2.1 (by decide) _ _, ?_, ?_, E6.out.2.2.2.2.2.2.2.setCell (by show w.heap.size ≤ w1.heap.size; omega) _⟩
          · rw [eR]; exact E6.out.2.2.1.field 1 _
          · rw [eR]; exact E6.out.2.2.2.2.2.1.box E6.out.2.2.1 (by decide) _ _
          · rw [eI]; exact E6.out.2.2.2.2.2.2.1.box E6.out.2.2.1 (by decide) _ _
        clear E6 O6 Y6 g6 E5 OS5 hB5 CL t0 t1 t2 t3 t4 t5 t6 t7 t8 t9 cn
        rw [← eI]
        clear eS eI eR lS lI lR
        go_wp2
        go_roundw
        case rel => exact ⟨k + 1, s6, c6, rx, ry, ix, iy, by omega, by go_num, rfl, E7⟩
        case measure => simp [intOf]; omega
      · obtain ⟨c, hcq⟩ : ∃ c, c = cs ⟨id, us_, mc, ip, be, la, ud, qu, un, il⟩ := ⟨_, rfl⟩
        have HCx : Hid (∀ (W : World), Below w.heap.size w W → Calls Tryz.prog gf #[.agg #[.int .i64 id, .int .i64 us_, .string mc, .int .i64 ip, .int .i64 be, .int .i64 la, .int .i64 ud, .int .i64 qu, .int .i64 un, .int .i64 il], p0] W fun e w' => e = .returned (.int .i64 c) ∧ Grw W w') := fun W hW => by
          have := HC.out id us_ mc ip be la ud qu un il W hW
          rw [← hcq] at this
          exact this
        have eS := esS_no HX.out h0
        have eI := esI_no HX.out h0
        have eRn := esR_no (now := now) (rs := rs) HX.out h0
        have eRf := esR_full (now := now) (rs := rs) HX.out h0
        have hc0 : (c == 0) = false := by rw [hcq]; exact beq_eq_false_iff_ne.2 h0
        rw [← hcq] at eRn
        replace eRn : Hid _ := eRn
        replace eRf : Hid _ := eRf
        clear h0 hcq
        go_wp2_with (go_at_fn gf; refine (HCx.out _ E1.out.b).mono ?_)
        first | (rintro e w4 rfl g4) | (rintro e w4 ⟨rfl, g4⟩)
        have E4 : Hid (ES w w1.heap.size ua (some ⟨b, off, none⟩) fa ra ul uc sl sc fl fc rl rc us ss fs rs nx now cs (.slice ux us.length uy) (.slice fx fs.length fy) k sx sy rx ry ix iy w4) := E1.out.below g4.below
        have S4 := S1.below g4.below
        clear E1 S1 g4 HCx q0 q1 q2 q3 q4 q5 q6 q7 q8 q9
        have t0 : w4.cell? ⟨wr.heap.size, 0, none⟩ = some (.int .i64 id) := S4.cell 0 rfl
        have al : Below w4.heap.size w4 (w4.alloc (.cells #[.int .i64 id] 3)) := (Below.refl _ _).alloc (Nat.le_refl _) _
        have E5 : Hid (ES w w1.heap.size ua (some ⟨b, off, none⟩) fa ra ul uc sl sc fl fc rl rc us ss fs rs nx now cs (.slice ux us.length uy) (.slice fx fs.length fy) k sx sy rx ry ix iy (w4.alloc (.cells #[.int .i64 id] 3))) := E4.out.below al
        have S5 := S4.below al
        have OI5 := E5.out.i
        have hB5 : w.heap.size + 2 ≤ (w4.alloc (.cells #[.int .i64 id] 3)).heap.size := by have := E5.out.n.lt; omega
        have CL := one_new iG w4 #[.int .i64 id] 3 id rfl
        clear al E4 S4
        go_wp2_with (at_builtin; go_loud (refine wpl_Int9 _ rfl (.tmp 34) (.tmp 37) rfl (w.heap.size + 2) _ (esI cs ss k) [id] rfl OI5 w4.heap.size 0 1 1 rfl rfl CL (by omega) hB5 ?_))
        intro v6 w6 Y6 g6
        have O6 := Y6.out.1
        rw [show esI cs ss k ++ [id] = esI cs ss (k + 1) from eI.symm] at O6
        obtain ⟨s6, c6, rfl, -⟩ := O6.slice
        have S6 := S5.row OI5 (by decide) g6
        have E6 : Hid (Bo w6 w.heap.size 41 [.slice ua ul uc, .slice (some ⟨b, off, none⟩) sl sc, .slice fa fl fc, .slice ra rl rc, .int .i64 nx] ∧ Bo w6 (w.heap.size + 1) 41 [.slice none 0 0, .slice none 0 0, .slice none 0 0, .slice none 0 0, .int .i64 0] ∧ Bo w6 w1.heap.size 41 [(.slice ux us.length uy), .slice sx (esS cs ss k).length sy, (.slice fx fs.length fy), .slice rx (esR cs now rs ss k).length ry, .int .i64 nx] ∧ (OwnS uvG 6 86 w6 (w.heap.size + 2) (.slice ux us.length uy) us) ∧ (OwnS fvG 3 131 w6 (w.heap.size + 2) (.slice fx fs.length fy) fs) ∧ (OwnS evG 5 134 w6 (w.heap.size + 2) (.slice rx (esR cs now rs ss k).length ry) (esR cs now rs ss k)) ∧ (OwnS svG 10 84 w6 (w.heap.size + 2) (.slice sx (esS cs ss k).length sy) (esS cs ss k)) ∧ Below w.heap.size w w6) := ⟨E5.out.g.row OI5 (by decide) g6, E5.out.r.row OI5 (by decide) g6, E5.out.n.row OI5 (by decide) g6, E5.out.u.other OI5 (by decide) g6, E5.out.f.other OI5 (by decide) g6, E5.out.rr.other OI5 (by decide) g6, E5.out.s.other OI5 (by decide) g6, E5.out.b.trans (Y6.out.2.mono (by omega))⟩
        have O6h : Hid (OwnS iG 1 3 w6 (w.heap.size + 2) (.slice s6 (esI cs ss (k + 1)).length c6) (esI cs ss (k + 1))) := O6
        have eSh : Hid (esS cs ss (k + 1) = esS cs ss k) := eS
        clear O6 Y6 g6 E5 OI5 hB5 CL t0 S5 eI eS
        have cr : w6.cell? ⟨w1.heap.size, 3, none⟩ = some (.slice rx (esR cs now rs ss k).length ry) := E6.out.2.2.1.cell 3 rfl
        by_cases h60 : (esR cs now rs ss k).length < 60
        · have eR : Hid (esR cs now rs ss (k + 1) = esR cs now rs ss k ++ [⟨id, now, c, ud, true⟩]) := eRn.out h60
          have h60z : ((esR cs now rs ss k).length : Int) < 60 := by omega
          have u0 : w6.cell? ⟨wr.heap.size, 0, none⟩ = some (.int .i64 id) := S6.cell 0 rfl
          have u6 : w6.cell? ⟨wr.heap.size, 6, none⟩ = some (.int .i64 ud) := S6.cell 6 rfl
          have al : Below w6.heap.size w6 (w6.alloc (.cells #[.int .i64 id, .int .i64 now, .int .i64 c, .int .i64 ud, .bool true] 134)) := (Below.refl _ _).alloc (Nat.le_refl _) _
          have E7 : Hid (Bo (w6.alloc (.cells #[.int .i64 id, .int .i64 now, .int .i64 c, .int .i64 ud, .bool true] 134)) w.heap.size 41 [.slice ua ul uc, .slice (some ⟨b, off, none⟩) sl sc, .slice fa fl fc, .slice ra rl rc, .int .i64 nx] ∧ Bo (w6.alloc (.cells #[.int .i64 id, .int .i64 now, .int .i64 c, .int .i64 ud, .bool true] 134)) (w.heap.size + 1) 41 [.slice none 0 0, .slice none 0 0, .slice none 0 0, .slice none 0 0, .int .i64 0] ∧ Bo (w6.alloc (.cells #[.int .i64 id, .int .i64 now, .int .i64 c, .int .i64 ud, .bool true] 134)) w1.heap.size 41 [(.slice ux us.length uy), .slice sx (esS cs ss k).length sy, (.slice fx fs.length fy), .slice rx (esR cs now rs ss k).length ry, .int .i64 nx] ∧ (OwnS uvG 6 86 (w6.alloc (.cells #[.int .i64 id, .int .i64 now, .int .i64 c, .int .i64 ud, .bool true] 134)) (w.heap.size + 2) (.slice ux us.length uy) us) ∧ (OwnS fvG 3 131 (w6.alloc (.cells #[.int .i64 id, .int .i64 now, .int .i64 c, .int .i64 ud, .bool true] 134)) (w.heap.size + 2) (.slice fx fs.length fy) fs) ∧ (OwnS svG 10 84 (w6.alloc (.cells #[.int .i64 id, .int .i64 now, .int .i64 c, .int .i64 ud, .bool true] 134)) (w.heap.size + 2) (.slice sx (esS cs ss k).length sy) (esS cs ss k)) ∧ OwnS iG 1 3 (w6.alloc (.cells #[.int .i64 id, .int .i64 now, .int .i64 c, .int .i64 ud, .bool true] 134)) (w.heap.size + 2) (.slice s6 (esI cs ss (k + 1)).length c6) (esI cs ss (k + 1)) ∧ Below w.heap.size w (w6.alloc (.cells #[.int .i64 id, .int .i64 now, .int .i64 c, .int .i64 ud, .bool true] 134))) := ⟨E6.out.1.below al, E6.out.2.1.below al, E6.out.2.2.1.below al, E6.out.2.2.2.1.now al, E6.out.2.2.2.2.1.now al, E6.out.2.2.2.2.2.2.1.now al, O6h.out.now al, E6.out.2.2.2.2.2.2.2.trans (al.mono E6.out.2.2.2.2.2.2.2.size)⟩
          have OR7 := E6.out.2.2.2.2.2.1.now al
          have hB7 : w.heap.size + 2 ≤ (w6.alloc (.cells #[.int .i64 id, .int .i64 now, .int .i64 c, .int .i64 ud, .bool true] 134)).heap.size := by have := E7.out.2.2.1.lt; omega
          have CL := one_new evG w6 #[.int .i64 id, .int .i64 now, .int .i64 c, .int .i64 ud, .bool true] 134 ⟨id, now, c, ud, true⟩ rfl
          clear E6 al O6h S6
          go_wp2_with (at_builtin; go_loud (refine wpl_Record _ rfl (.tmp 44) (.tmp 52) rfl (w.heap.size + 2) _ (esR cs now rs ss k) [⟨id, now, c, ud, true⟩] rfl OR7 w6.heap.size 0 1 1 rfl rfl CL (by omega) hB7 ?_))
          intro v8 w8 Y8 g8
          have O8 := Y8.out.1
          rw [← eR.out] at O8
          obtain ⟨s8, c8, rfl, -⟩ := O8.slice
          have n8 := E7.out.2.2.1.row OR7 (by decide) g8
          have cn8 := n8.cell 3 rfl
          have zn8 := n8.thaw 3 (by simp)
          have E9 : Hid (ES w w1.heap.size ua (some ⟨b, off, none⟩) fa ra ul uc sl sc fl fc rl rc us ss fs rs nx now cs (.slice ux us.length uy) (.slice fx fs.length fy) (k + 1) sx sy s8 c8 s6 c6 (w8.setCell ⟨w1.heap.size, 3, none⟩ (.slice s8 (esR cs now rs ss (k + 1)).length c8))) := by
            refine ⟨(E7.out.1.row OR7 (by decide) g8).far _ _ (by show w1.heap.size ≠ w.heap.size; omega), (E7.out.2.1.row OR7 (by decide) g8).far _ _ (by show w1.heap.size ≠ w.heap.size + 1; omega), ?_, (E7.out.2.2.2.1.other OR7 (by decide) g8).box n8 (by decide) _ _, ?_, (E7.out.2.2.2.2.1.other OR7 (by decide) g8).box n8 (by decide) _ _, O8.box n8 (by decide) _ _, (E7.out.2.2.2.2.2.2.1.other OR7 (by decide) g8).box n8 (by decide) _ _, (E7.out.2.2.2.2.2.2.2.trans (Y8.out.2.mono (by omega))).setCell (by show w.heap.size ≤ w1.heap.size; omega) _⟩
            · rw [eSh.out]; exact n8.field 3 _
            · rw [eSh.out]; exact (E7.out.2.2.2.2.2.1.other OR7 (by decide) g8).box n8 (by decide) _ _
          clear O8 Y8 g8 n8 E7 OR7 hB7 CL u0 u6 eR eRn eRf eSh cr lS lI lR h60 h60z
          go_wp2
          go_roundw
          case rel => exact ⟨k + 1, sx, sy, s8, c8, s6, c6, by omega, by go_num, rfl, E9⟩
          case measure => simp [intOf]; omega
        · have eR := eRf.out h60
          have h60z : ¬ ((esR cs now rs ss k).length : Int) < 60 := by omega
          have E9 : Hid (ES w w1.heap.size ua (some ⟨b, off, none⟩) fa ra ul uc sl sc fl fc rl rc us ss fs rs nx now cs (.slice ux us.length uy) (.slice fx fs.length fy) (k + 1) sx sy rx ry s6 c6 w6) := by
            refine ⟨E6.out.1, E6.out.2.1, ?_, E6.out.2.2.2.1, ?_, E6.out.2.2.2.2.1, ?_, O6h.out, E6.out.2.2.2.2.2.2.2⟩
            · rw [eSh.out, eR]; exact E6.out.2.2.1
            · rw [eSh.out]; exact E6.out.2.2.2.2.2.2.1
            · rw [eR]; exact E6.out.2.2.2.2.2.1
          clear E6 O6h S6 eR eRn eRf eSh lS lI lR h60
          go_wp2
          go_roundw
          case rel => exact ⟨k + 1, sx, sy, rx, ry, s6, c6, by omega, by go_num, rfl, E9⟩
          case measure => simp [intOf]; omega
    · obtain rfl : k = sl := by omega
      have nx_ := E.out.n.bx
      have rx_ := E.out.r.bx
      have hq1 : w.heap.size + 1 ≠ w1.heap.size := by omega
      go_wp2_with (first | (refine wpl_getT 41 rfl _ rfl _ rfl nx_ _ Tryz.underlying41 rfl rfl ?_) | (refine wpl_putT 41 rfl _ _ rfl (w.heap.size + 1) _ rfl rfl rx_ rfl rfl rfl ?_; intro w5 hw5 R5; have B5 : Hid (Below w.heap.size w w5) := (by rw [hw5]; exact below_cells (by omega) _ _ _ E.out.b); have O5 : Hid (Own4 w5 w.heap.size (.slice ux us.length uy) (.slice sx (esS cs ss k).length sy) (.slice fx fs.length fy) (.slice rx (esR cs now rs ss k).length ry) us (esS cs ss k) fs (esR cs now rs ss k) ∧ OwnS iG 1 3 w5 w.heap.size (.slice ix (esI cs ss k).length iy) (esI cs ss k)) := (by rw [hw5]; exact ⟨own4_of (OwnS.boxes _ _ _ _ E.out.u E.out.r (by decide)) (OwnS.boxes _ _ _ _ E.out.s E.out.r (by decide)) (OwnS.boxes _ _ _ _ E.out.f E.out.r (by decide)) (OwnS.boxes _ _ _ _ E.out.rr E.out.r (by decide)) (by omega), (OwnS.boxes _ _ _ _ E.out.i E.out.r (by decide)).lower (by omega)⟩); clear hw5) | fail)
      have xx0 : w5.cell? ⟨w.heap.size + 1, 0, none⟩ = some ((.slice ux us.length uy)) := R5.cell 0 rfl
      have xx1 : w5.cell? ⟨w.heap.size + 1, 1, none⟩ = some (.slice sx (esS cs ss k).length sy) := R5.cell 1 rfl
      have xx2 : w5.cell? ⟨w.heap.size + 1, 2, none⟩ = some ((.slice fx fs.length fy)) := R5.cell 2 rfl
      have xx3 : w5.cell? ⟨w.heap.size + 1, 3, none⟩ = some (.slice rx (esR cs now rs ss k).length ry) := R5.cell 3 rfl
      have xx4 : w5.cell? ⟨w.heap.size + 1, 4, none⟩ = some (.int .i64 nx) := R5.cell 4 rfl
      (try simp only [Exit.inBlock, Exit.then])
      refine bodyPost_ret (v := .tuple #[.agg #[(.slice ux us.length uy), .slice sx (esS cs ss k).length sy, (.slice fx fs.length fy), .slice rx (esR cs now rs ss k).length ry, .int .i64 nx], .slice ix (esI cs ss k).length iy]) (by simp [results, Tryz.results65, go_sem, xx0, xx1, xx2, xx3, xx4]; try rfl) rfl ?_
      exact ⟨_, _, _, _, _, rfl, O5.out.1, O5.out.2, B5.out⟩
end Go.Proofs.YtmeejholckelgaaGreat
