/- Guests whose lists are one's own; copyGuests of the program. -/
import Derived.Test.YtnlepjcjakghcaaGreatDoorJ4
namespace Go.Proofs.YtnlepjcjakghcaaGreatDoor
open Go.RowKit Go.PlainAid Go.Proofs.YtnlepjcjakghcaaGreatDoor.Bt Go.Sort
set_option linter.unusedVariables false
set_option maxRecDepth 20000
/-- Rows that are apart. -/
def Ap (v v' : Value) : Prop := ∀ k, v.ownBlock = some k → v'.ownBlock ≠ some k
theorem Ap.symm {v v' : Value} (h : Ap v v') : Ap v' v := fun k h1 h2 => h k h2 h1
/-- A list that is handed in: what may be read of it. -/
structure Src {α : Type} (R : World → α → List Value → Prop) (K : Nat) (w : World) (a : Option Addr) (len cap : Nat) (xs : List α) : Prop where
  hrw : Rw R K w a xs
  hlen : xs.length = len
  hmost : len ≤ 1048576
  hcap : len ≤ cap
  hspot : ∀ p, a = some p → p.spot = none
  hnil : a = none → len = 0 ∧ cap = 0
theorem Src.below {α : Type} {R : World → α → List Value → Prop} {K : Nat} {w w' : World} {a : Option Addr} {len cap : Nat} {xs : List α} (h : Src R K w a len cap xs) (hk : Kp R) (hb : Below w.heap.size w w') : Src R K w' a len cap xs := ⟨h.hrw.keep hk hb, h.hlen, h.hmost, h.hcap, h.hspot, h.hnil⟩
/-- Four lists of one's own, apart from each other. -/
structure Own4 (w : World) (B : Nat) (vu vs vf vr : Value) (us : List UserV) (ss : List SessV) (fs : List FailV) (rs : List RecV) : Prop where
  u : OwnS uvG 6 25 w B vu us
  s : OwnS svG 10 48 w B vs ss
  f : OwnS fvG 3 95 w B vf fs
  r : OwnS evG 5 67 w B vr rs
  us_ : Ap vu vs
  uf : Ap vu vf
  ur : Ap vu vr
  sf : Ap vs vf
  sr : Ap vs vr
  fr : Ap vf vr
theorem Own4.now {w w' : World} {B : Nat} {vu vs vf vr : Value} {us : List UserV} {ss : List SessV} {fs : List FailV} {rs : List RecV} (h : Own4 w B vu vs vf vr us ss fs rs) (hb : Below w.heap.size w w') : Own4 w' B vu vs vf vr us ss fs rs := ⟨h.u.now hb, h.s.now hb, h.f.now hb, h.r.now hb, h.us_, h.uf, h.ur, h.sf, h.sr, h.fr⟩
theorem Own4.lower {w : World} {B B' : Nat} {vu vs vf vr : Value} {us : List UserV} {ss : List SessV} {fs : List FailV} {rs : List RecV} (h : Own4 w B vu vs vf vr us ss fs rs) (hb : B' ≤ B) : Own4 w B' vu vs vf vr us ss fs rs := ⟨h.u.lower hb, h.s.lower hb, h.f.lower hb, h.r.lower hb, h.us_, h.uf, h.ur, h.sf, h.sr, h.fr⟩
theorem own_set {α : Type} {c : α → List Value} {K : Nat} {e : TypeId} {w : World} {B : Nat} {v : Value} {xs : List α} (h : OwnS c K e w B v xs) (a : Addr) (x : Value) (ha : a.block < B) : OwnS c K e (w.setCell a x) B v xs :=
  h.kept (grown_set w a x) (by
    cases hb : v.ownBlock with
    | none => exact Or.inl rfl
    | some k => exact Or.inr (fun he => by have := (h.lt k hb).1; have := Option.some.inj he; omega))
theorem own_cellsB {α : Type} {c : α → List Value} {K : Nat} {e : TypeId} {B q : Nat} {v : Value} {xs : List α} (hq : q < B) : ∀ (vs : List Value) (o : Nat) (W : World), OwnS c K e W B v xs → OwnS c K e (W.setCells q o vs) B v xs
  | [], _, _, h => h
  | x :: r, o, W, h => by
    rw [World.setCells]
    exact own_cellsB hq r (o + 1) _ (own_set h ⟨q, o, none⟩ x hq)
set_option maxHeartbeats 8000000 in
theorem copyGuests_any (ua sa fa ra : Option Addr) (ul uc sl sc fl fc rl rc : Nat) (us : List UserV) (ss : List SessV) (fs : List FailV) (rs : List RecV) (nx : Int) (w : World) (hu : Src UsR 6 w ua ul uc us) (hs : Src SeR 10 w sa sl sc ss) (hf : Src FaR 3 w fa fl fc fs) (hr : Src ReR 5 w ra rl rc rs) :
    Calls Tryz.prog 24 #[.agg #[.slice ua ul uc, .slice sa sl sc, .slice fa fl fc, .slice ra rl rc, .int .i64 nx]] w fun e w' => ∃ vu vs vf vr, e = .returned (.agg #[vu, vs, vf, vr, .int .i64 nx]) ∧ Own4 w' w.heap.size vu vs vf vr us ss fs rs ∧ Below w.heap.size w w' := by
  have Hu : Hid (∀ wx, Below w.heap.size w wx → Calls Tryz.prog 44 #[.slice ua ul uc] wx fun e w' => ∃ v, e = .returned v ∧ OwnS uvG 6 25 w' wx.heap.size v us ∧ Below wx.heap.size wx w') := fun wx hb => cloneUser_any ua ul uc us wx (hu.hrw.keep UsR.kp hb) hu.hlen hu.hmost hu.hcap hu.hspot hu.hnil
  have Hs : Hid (∀ wx, Below w.heap.size w wx → Calls Tryz.prog 45 #[.slice sa sl sc] wx fun e w' => ∃ v, e = .returned v ∧ OwnS svG 10 48 w' wx.heap.size v ss ∧ Below wx.heap.size wx w') := fun wx hb => cloneSession_any sa sl sc ss wx (hs.hrw.keep SeR.kp hb) hs.hlen hs.hmost hs.hcap hs.hspot hs.hnil
  have Hf : Hid (∀ wx, Below w.heap.size w wx → Calls Tryz.prog 46 #[.slice fa fl fc] wx fun e w' => ∃ v, e = .returned v ∧ OwnS fvG 3 95 w' wx.heap.size v fs ∧ Below wx.heap.size wx w') := fun wx hb => cloneFail_any fa fl fc fs wx (hf.hrw.keep FaR.kp hb) hf.hlen hf.hmost hf.hcap hf.hspot hf.hnil
  have Hr : Hid (∀ wx, Below w.heap.size w wx → Calls Tryz.prog 47 #[.slice ra rl rc] wx fun e w' => ∃ v, e = .returned v ∧ OwnS evG 5 67 w' wx.heap.size v rs ∧ Below wx.heap.size wx w') := fun wx hb => cloneRecord_any ra rl rc rs wx (hr.hrw.keep ReR.kp hb) hr.hlen hr.hmost hr.hcap hr.hspot hr.hnil
  clear hu hs hf hr
  have G0 : Bx ((w.alloc (.cells #[.slice ua ul uc, .slice sa sl sc, .slice fa fl fc, .slice ra rl rc, .int .i64 nx] 42)).alloc (.cells #[.slice none 0 0, .slice none 0 0, .slice none 0 0, .slice none 0 0, .int .i64 0] 42)) w.heap.size [.slice ua ul uc, .slice sa sl sc, .slice fa fl fc, .slice ra rl rc, .int .i64 nx] := (Bx.new w #[.slice ua ul uc, .slice sa sl sc, .slice fa fl fc, .slice ra rl rc, .int .i64 nx] _).below ((Below.refl _ _).alloc (Nat.le_refl _) _)
  have R0 : Bx ((w.alloc (.cells #[.slice ua ul uc, .slice sa sl sc, .slice fa fl fc, .slice ra rl rc, .int .i64 nx] 42)).alloc (.cells #[.slice none 0 0, .slice none 0 0, .slice none 0 0, .slice none 0 0, .int .i64 0] 42)) (w.heap.size + 1) [.slice none 0 0, .slice none 0 0, .slice none 0 0, .slice none 0 0, .int .i64 0] := by
    have := Bx.new (w.alloc (.cells #[.slice ua ul uc, .slice sa sl sc, .slice fa fl fc, .slice ra rl rc, .int .i64 nx] 42)) #[.slice none 0 0, .slice none 0 0, .slice none 0 0, .slice none 0 0, .int .i64 0] 42
    rw [World.size_alloc] at this
    exact this
  have B0 : Hid (Below w.heap.size w ((w.alloc (.cells #[.slice ua ul uc, .slice sa sl sc, .slice fa fl fc, .slice ra rl rc, .int .i64 nx] 42)).alloc (.cells #[.slice none 0 0, .slice none 0 0, .slice none 0 0, .slice none 0 0, .int .i64 0] 42))) := ((Below.refl _ _).alloc (Nat.le_refl _) _).alloc (by simp) _
  have c0 : ((w.alloc (.cells #[.slice ua ul uc, .slice sa sl sc, .slice fa fl fc, .slice ra rl rc, .int .i64 nx] 42)).alloc (.cells #[.slice none 0 0, .slice none 0 0, .slice none 0 0, .slice none 0 0, .int .i64 0] 42)).cell? ⟨w.heap.size, 0, none⟩ = some (.slice ua ul uc) := G0.cell 0 rfl
  go_enter Tryz.func24, Tryz.ntmps24
  go_wp2_with fail
  refine (Hu.out _ B0.out).mono ?_
  rintro e w1 ⟨vu, rfl, Ou_, b1⟩
  obtain ⟨ux, uy, rfl, -⟩ := Ou_.slice
  have G1a := G0.below b1
  have R1a := R0.below b1
  have B1a : Hid (Below w.heap.size w w1) := B0.out.trans (b1.mono B0.out.size)
  have hz1 : w.heap.size + 1 < w1.heap.size := World.block_lt_of_cell? w1 _ (R1a.cell 0 rfl)
  have hb1 : w.heap.size + 1 < ((w.alloc (.cells #[.slice ua ul uc, .slice sa sl sc, .slice fa fl fc, .slice ra rl rc, .int .i64 nx] 42)).alloc (.cells #[.slice none 0 0, .slice none 0 0, .slice none 0 0, .slice none 0 0, .int .i64 0] 42)).heap.size := World.block_lt_of_cell? _ _ (R0.cell 0 rfl)
  replace Ou_ := Ou_.lower (B' := w.heap.size + 2) (by omega)
  have c1a := G1a.cell 0 rfl
  have z1a := G1a.thaw 0 (by simp)
  have G1 : Bx (w1.setCell ⟨w.heap.size, 0, none⟩ (.slice ux us.length uy)) w.heap.size [(.slice ux us.length uy), .slice sa sl sc, .slice fa fl fc, .slice ra rl rc, .int .i64 nx] := G1a.field 0 (.slice ux us.length uy)
  have R1 := R1a.far ⟨w.heap.size, 0, none⟩ (.slice ux us.length uy) (by show w.heap.size ≠ w.heap.size + 1; omega)
  have B1 : Hid (Below w.heap.size w (w1.setCell ⟨w.heap.size, 0, none⟩ (.slice ux us.length uy))) := B1a.out.setCell (Nat.le_refl _) _
  replace Ou_ := own_set Ou_ ⟨w.heap.size, 0, none⟩ (.slice ux us.length uy) (by show w.heap.size < _; omega)
  have d1 : w1.cell? ⟨w.heap.size, 1, none⟩ = some (.slice sa sl sc) := G1a.cell 1 rfl
  clear b1 G1a R1a B1a G0 R0 B0 hb1
  go_wp2_with fail
  refine (Hs.out _ B1.out).mono ?_
  rintro e w2 ⟨vs, rfl, Os_, b2⟩
  obtain ⟨sx, sy, rfl, -⟩ := Os_.slice
  have G2a := G1.below b2
  have R2a := R1.below b2
  have B2a : Hid (Below w.heap.size w w2) := B1.out.trans (b2.mono B1.out.size)
  have hz2 : w.heap.size + 1 < w2.heap.size := World.block_lt_of_cell? w2 _ (R2a.cell 0 rfl)
  have hb2 : w.heap.size + 1 < (w1.setCell ⟨w.heap.size, 0, none⟩ (.slice ux us.length uy)).heap.size := World.block_lt_of_cell? _ _ (R1.cell 0 rfl)
  have Aus : Ap (.slice ux us.length uy) (.slice sx ss.length sy) := fun k h1 h2 => by have := (Ou_.lt k h1).2; have := (Os_.lt k h2).1; omega
  replace Ou_ := Ou_.now b2
  replace Os_ := Os_.lower (B' := w.heap.size + 2) (by omega)
  have c2a := G2a.cell 1 rfl
  have z2a := G2a.thaw 1 (by simp)
  have G2 : Bx (w2.setCell ⟨w.heap.size, 1, none⟩ (.slice sx ss.length sy)) w.heap.size [(.slice ux us.length uy), (.slice sx ss.length sy), .slice fa fl fc, .slice ra rl rc, .int .i64 nx] := G2a.field 1 (.slice sx ss.length sy)
  have R2 := R2a.far ⟨w.heap.size, 1, none⟩ (.slice sx ss.length sy) (by show w.heap.size ≠ w.heap.size + 1; omega)
  have B2 : Hid (Below w.heap.size w (w2.setCell ⟨w.heap.size, 1, none⟩ (.slice sx ss.length sy))) := B2a.out.setCell (Nat.le_refl _) _
  replace Ou_ := own_set Ou_ ⟨w.heap.size, 1, none⟩ (.slice sx ss.length sy) (by show w.heap.size < _; omega)
  replace Os_ := own_set Os_ ⟨w.heap.size, 1, none⟩ (.slice sx ss.length sy) (by show w.heap.size < _; omega)
  have d2 : w2.cell? ⟨w.heap.size, 2, none⟩ = some (.slice fa fl fc) := G2a.cell 2 rfl
  clear b2 G2a R2a B2a G1 R1 B1 hb2
  go_wp2_with fail
  refine (Hf.out _ B2.out).mono ?_
  rintro e w3 ⟨vf, rfl, Of_, b3⟩
  obtain ⟨fx, fy, rfl, -⟩ := Of_.slice
  have G3a := G2.below b3
  have R3a := R2.below b3
  have B3a : Hid (Below w.heap.size w w3) := B2.out.trans (b3.mono B2.out.size)
  have hz3 : w.heap.size + 1 < w3.heap.size := World.block_lt_of_cell? w3 _ (R3a.cell 0 rfl)
  have hb3 : w.heap.size + 1 < (w2.setCell ⟨w.heap.size, 1, none⟩ (.slice sx ss.length sy)).heap.size := World.block_lt_of_cell? _ _ (R2.cell 0 rfl)
  have Auf : Ap (.slice ux us.length uy) (.slice fx fs.length fy) := fun k h1 h2 => by have := (Ou_.lt k h1).2; have := (Of_.lt k h2).1; omega
  have Asf : Ap (.slice sx ss.length sy) (.slice fx fs.length fy) := fun k h1 h2 => by have := (Os_.lt k h1).2; have := (Of_.lt k h2).1; omega
  replace Ou_ := Ou_.now b3
  replace Os_ := Os_.now b3
  replace Of_ := Of_.lower (B' := w.heap.size + 2) (by omega)
  have c3a := G3a.cell 2 rfl
  have z3a := G3a.thaw 2 (by simp)
  have G3 : Bx (w3.setCell ⟨w.heap.size, 2, none⟩ (.slice fx fs.length fy)) w.heap.size [(.slice ux us.length uy), (.slice sx ss.length sy), (.slice fx fs.length fy), .slice ra rl rc, .int .i64 nx] := G3a.field 2 (.slice fx fs.length fy)
  have R3 := R3a.far ⟨w.heap.size, 2, none⟩ (.slice fx fs.length fy) (by show w.heap.size ≠ w.heap.size + 1; omega)
  have B3 : Hid (Below w.heap.size w (w3.setCell ⟨w.heap.size, 2, none⟩ (.slice fx fs.length fy))) := B3a.out.setCell (Nat.le_refl _) _
  replace Ou_ := own_set Ou_ ⟨w.heap.size, 2, none⟩ (.slice fx fs.length fy) (by show w.heap.size < _; omega)
  replace Os_ := own_set Os_ ⟨w.heap.size, 2, none⟩ (.slice fx fs.length fy) (by show w.heap.size < _; omega)
  replace Of_ := own_set Of_ ⟨w.heap.size, 2, none⟩ (.slice fx fs.length fy) (by show w.heap.size < _; omega)
  have d3 : w3.cell? ⟨w.heap.size, 3, none⟩ = some (.slice ra rl rc) := G3a.cell 3 rfl
  clear b3 G3a R3a B3a G2 R2 B2 hb3
  go_wp2_with fail
  refine (Hr.out _ B3.out).mono ?_
  rintro e w4 ⟨vr, rfl, Or_, b4⟩
  obtain ⟨rx, ry, rfl, -⟩ := Or_.slice
  have G4a := G3.below b4
  have R4a := R3.below b4
  have B4a : Hid (Below w.heap.size w w4) := B3.out.trans (b4.mono B3.out.size)
  have hz4 : w.heap.size + 1 < w4.heap.size := World.block_lt_of_cell? w4 _ (R4a.cell 0 rfl)
  have hb4 : w.heap.size + 1 < (w3.setCell ⟨w.heap.size, 2, none⟩ (.slice fx fs.length fy)).heap.size := World.block_lt_of_cell? _ _ (R3.cell 0 rfl)
  have Aur : Ap (.slice ux us.length uy) (.slice rx rs.length ry) := fun k h1 h2 => by have := (Ou_.lt k h1).2; have := (Or_.lt k h2).1; omega
  have Asr : Ap (.slice sx ss.length sy) (.slice rx rs.length ry) := fun k h1 h2 => by have := (Os_.lt k h1).2; have := (Or_.lt k h2).1; omega
  have Afr : Ap (.slice fx fs.length fy) (.slice rx rs.length ry) := fun k h1 h2 => by have := (Of_.lt k h1).2; have := (Or_.lt k h2).1; omega
  replace Ou_ := Ou_.now b4
  replace Os_ := Os_.now b4
  replace Of_ := Of_.now b4
  replace Or_ := Or_.lower (B' := w.heap.size + 2) (by omega)
  have c4a := G4a.cell 3 rfl
  have z4a := G4a.thaw 3 (by simp)
  have G4 : Bx (w4.setCell ⟨w.heap.size, 3, none⟩ (.slice rx rs.length ry)) w.heap.size [(.slice ux us.length uy), (.slice sx ss.length sy), (.slice fx fs.length fy), (.slice rx rs.length ry), .int .i64 nx] := G4a.field 3 (.slice rx rs.length ry)
  have R4 := R4a.far ⟨w.heap.size, 3, none⟩ (.slice rx rs.length ry) (by show w.heap.size ≠ w.heap.size + 1; omega)
  have B4 : Hid (Below w.heap.size w (w4.setCell ⟨w.heap.size, 3, none⟩ (.slice rx rs.length ry))) := B4a.out.setCell (Nat.le_refl _) _
  replace Ou_ := own_set Ou_ ⟨w.heap.size, 3, none⟩ (.slice rx rs.length ry) (by show w.heap.size < _; omega)
  replace Os_ := own_set Os_ ⟨w.heap.size, 3, none⟩ (.slice rx rs.length ry) (by show w.heap.size < _; omega)
  replace Of_ := own_set Of_ ⟨w.heap.size, 3, none⟩ (.slice rx rs.length ry) (by show w.heap.size < _; omega)
  replace Or_ := own_set Or_ ⟨w.heap.size, 3, none⟩ (.slice rx rs.length ry) (by show w.heap.size < _; omega)
  clear b4 G4a R4a B4a G3 R3 B3 hb4
  go_wp2_with (first | (refine wpl_getT 42 rfl _ rfl _ rfl G4 _ Tryz.underlying42 rfl rfl ?_) | (refine wpl_putT 42 rfl _ _ rfl (w.heap.size + 1) _ rfl rfl R4 rfl rfl rfl ?_; intro w5 hw5 R5; have B5 : Hid (Below w.heap.size w w5) := (by rw [hw5]; exact below_cells (by omega) _ _ _ B4.out); have O5 : Hid (Own4 w5 w.heap.size (.slice ux us.length uy) (.slice sx ss.length sy) (.slice fx fs.length fy) (.slice rx rs.length ry) us ss fs rs) := (by rw [hw5]; exact (Own4.mk (own_cellsB (by omega) _ _ _ Ou_) (own_cellsB (by omega) _ _ _ Os_) (own_cellsB (by omega) _ _ _ Of_) (own_cellsB (by omega) _ _ _ Or_) Aus Auf Aur Asf Asr Afr).lower (by omega)); clear hw5) | fail)
  have xx0 : w5.cell? ⟨w.heap.size + 1, 0, none⟩ = some ((.slice ux us.length uy)) := R5.cell 0 rfl
  have xx1 : w5.cell? ⟨w.heap.size + 1, 1, none⟩ = some ((.slice sx ss.length sy)) := R5.cell 1 rfl
  have xx2 : w5.cell? ⟨w.heap.size + 1, 2, none⟩ = some ((.slice fx fs.length fy)) := R5.cell 2 rfl
  have xx3 : w5.cell? ⟨w.heap.size + 1, 3, none⟩ = some ((.slice rx rs.length ry)) := R5.cell 3 rfl
  have xx4 : w5.cell? ⟨w.heap.size + 1, 4, none⟩ = some (.int .i64 nx) := R5.cell 4 rfl
  (try simp only [Exit.inBlock, Exit.then])
  refine bodyPost_ret (v := .agg #[(.slice ux us.length uy), (.slice sx ss.length sy), (.slice fx fs.length fy), (.slice rx rs.length ry), .int .i64 nx]) (by simp [results, Tryz.results24, go_sem, xx0, xx1, xx2, xx3, xx4]; try rfl) rfl ?_
  exact ⟨_, _, _, _, rfl, O5.out, B5.out⟩
end Go.Proofs.YtnlepjcjakghcaaGreatDoor
