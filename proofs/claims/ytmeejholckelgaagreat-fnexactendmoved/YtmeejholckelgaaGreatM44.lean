/- l08Ask, l08Session, l08End of the model. -/
import Derived.Test.YtmeejholckelgaaGreatM39
import Derived.Test.YtmeejholckelgaaGreatM41
import Derived.Test.YtmeejholckelgaaGreatM43
namespace Go.Proofs.YtmeejholckelgaaGreat
open Go.RowKit Go.PlainAid Go.Proofs.YtmeejholckelgaaGreat.Bt Go.Sort
set_option linter.unusedVariables false
set_option maxRecDepth 20000
set_option maxHeartbeats 4000000 in
theorem l08Ask_any (ip b gt : Int) (gm wm : ByteArray) (rv : Int) (x y : Option Addr) (lenx capx leny capy : Nat) (ua sa fa ra : Option Addr) (ul uc sl sc fl fc rl rc : Nat) (nx now : Int) (z : Bool) (w : World) (hg : ∀ wx, Below w.heap.size w wx → Calls Tryz.prog 73 #[.agg #[.int .i64 ip, .int .i64 b, .int .i64 gt, .string gm, .string wm, .int .i64 rv, .slice x lenx capx, .slice y leny capy], .agg #[.slice ua ul uc, .slice sa sl sc, .slice fa fl fc, .slice ra rl rc, .int .i64 nx]] wx fun e w' => e = .returned (.bool z) ∧ Below wx.heap.size wx w') :
    Calls Tryz.prog 30 #[.agg #[.int .i64 ip, .int .i64 b, .int .i64 gt, .string gm, .string wm, .int .i64 rv, .slice x lenx capx, .slice y leny capy], .agg #[.slice ua ul uc, .slice sa sl sc, .slice fa fl fc, .slice ra rl rc, .int .i64 nx], .int .i64 now] w fun e w' => e = .returned (.int .i64 (fauC z now)) ∧ Below w.heap.size w w' := by
  have HG : Hid (∀ wx, Below w.heap.size w wx → Calls Tryz.prog 73 #[.agg #[.int .i64 ip, .int .i64 b, .int .i64 gt, .string gm, .string wm, .int .i64 rv, .slice x lenx capx, .slice y leny capy], .agg #[.slice ua ul uc, .slice sa sl sc, .slice fa fl fc, .slice ra rl rc, .int .i64 nx]] wx fun e w' => e = .returned (.bool z) ∧ Below wx.heap.size wx w') := hg
  clear hg
  have C0 : Bx ((w.alloc (.cells #[.int .i64 ip, .int .i64 b, .int .i64 gt, .string gm, .string wm, .int .i64 rv, .slice x lenx capx, .slice y leny capy] 48)).alloc (.cells #[.slice ua ul uc, .slice sa sl sc, .slice fa fl fc, .slice ra rl rc, .int .i64 nx] 41)) w.heap.size [.int .i64 ip, .int .i64 b, .int .i64 gt, .string gm, .string wm, .int .i64 rv, .slice x lenx capx, .slice y leny capy] := ((Bo.new w #[.int .i64 ip, .int .i64 b, .int .i64 gt, .string gm, .string wm, .int .i64 rv, .slice x lenx capx, .slice y leny capy] 48).below ((Below.refl _ _).alloc (Nat.le_refl _) _)).bx
  have G0 : Bx ((w.alloc (.cells #[.int .i64 ip, .int .i64 b, .int .i64 gt, .string gm, .string wm, .int .i64 rv, .slice x lenx capx, .slice y leny capy] 48)).alloc (.cells #[.slice ua ul uc, .slice sa sl sc, .slice fa fl fc, .slice ra rl rc, .int .i64 nx] 41)) (w.heap.size + 1) [.slice ua ul uc, .slice sa sl sc, .slice fa fl fc, .slice ra rl rc, .int .i64 nx] := by
    have h := (Bo.new (w.alloc (.cells #[.int .i64 ip, .int .i64 b, .int .i64 gt, .string gm, .string wm, .int .i64 rv, .slice x lenx capx, .slice y leny capy] 48)) #[.slice ua ul uc, .slice sa sl sc, .slice fa fl fc, .slice ra rl rc, .int .i64 nx] 41).bx
    rw [World.size_alloc] at h
    exact h
  have B0 : Hid (Below w.heap.size w ((w.alloc (.cells #[.int .i64 ip, .int .i64 b, .int .i64 gt, .string gm, .string wm, .int .i64 rv, .slice x lenx capx, .slice y leny capy] 48)).alloc (.cells #[.slice ua ul uc, .slice sa sl sc, .slice fa fl fc, .slice ra rl rc, .int .i64 nx] 41))) := ((Below.refl _ _).alloc (Nat.le_refl _) _).alloc (by simp) _
  have TM : Hid (∀ w, Calls Tryz.prog 31 #[.int .i64 now, .int .i64 0, .int .i64 100000] w fun e w' => e = .returned (.bool (dec (0 ≤ now ∧ now ≤ 100000))) ∧ w' = w) := fun w => l01In_any now 0 100000 w
  rw [show fauC z now = fau2 z (dec (0 ≤ now ∧ now ≤ 100000)) from rfl]
  generalize dec (0 ≤ now ∧ now ≤ 100000) = d at TM ⊢
  go_enter Tryz.func30, Tryz.ntmps30
  go_wp2_with (first | (refine wpl_getT 48 rfl _ rfl _ rfl C0 _ Tryz.underlying48 rfl rfl ?_) | (refine wpl_getT 41 rfl _ rfl _ rfl G0 _ Tryz.underlying41 rfl rfl ?_) | fail)
  refine (HG.out _ B0.out).mono ?_
  rintro e w1 ⟨rfl, b1⟩
  have B1 : Hid (Below w.heap.size w w1) := B0.out.trans (b1.mono B0.out.size)
  clear b1 B0 C0 G0 HG
  cases z with
  | false =>
    go_wp2
    go_ret
    exact ⟨rfl, B1.out⟩
  | true =>
    go_wp2_with fail
    refine (TM.out _).mono ?_
    rintro e w2 ⟨rfl, rfl⟩
    cases d with
    | false =>
      go_wp2
      go_ret
      exact ⟨rfl, B1.out⟩
    | true =>
      go_wp2
      go_ret
      exact ⟨rfl, B1.out⟩
/-- Guests that are handed in: what may be read of them. -/
structure HuS (w : World) (A : HuA) (h : HuV) : Prop where
  us : Src UsR 6 w A.u h.us.length A.uc h.us
  ss : Src SeR 10 w A.s h.ss.length A.sc h.ss
  fs : Src FaR 3 w A.f h.fs.length A.fc h.fs
  es : Src ReR 5 w A.r h.es.length A.rc h.es
theorem HuS.below {w w' : World} {A : HuA} {h : HuV} (o : HuS w A h) (hb : Below w.heap.size w w') : HuS w' A h := ⟨o.us.below UsR.kp hb, o.ss.below SeR.kp hb, o.fs.below FaR.kp hb, o.es.below ReR.kp hb⟩
structure HuL (h : HuV) : Prop where
  us : h.us.length ≤ 1048576
  ss : h.ss.length ≤ 1048576
  fs : h.fs.length ≤ 1048576
  es : h.es.length ≤ 1048576
theorem OwnHu.srcs {w : World} {B : Nat} {A : HuA} {h : HuV} (o : OwnHu w B A h) (hk : HuOk h) (hl : HuL h) : HuS w A h :=
  ⟨o.u.src (ok := UsRok) uvG_len hk.us hl.us, o.s.src (ok := SeRok) svG_len hk.ss hl.ss, o.f.src (ok := FaRok) fvG_len hk.fs hl.fs, o.r.src (ok := ReRok) evG_len hk.es hl.es⟩
/-- Guests that may be read as long as the blocks of P stay. -/
def HuP (P : Nat → Prop) (w : World) (A : HuA) (h : HuV) : Prop := ∀ W, w.heap.size ≤ W.heap.size → (∀ b, P b → b < w.heap.size → W.heap[b]? = w.heap[b]?) → HuS W A h
theorem HuP.now {P : Nat → Prop} {w : World} {A : HuA} {h : HuV} (o : HuP P w A h) : HuS w A h := o w (Nat.le_refl _) (fun _ _ _ => rfl)
theorem HuP.step {P Q : Nat → Prop} {w w' : World} {A : HuA} {h : HuV} (o : HuP P w A h) (hs : w.heap.size ≤ w'.heap.size) (hk : ∀ b, P b → b < w.heap.size → Q b ∧ w'.heap[b]? = w.heap[b]?) : HuP Q w' A h :=
  fun W h1 h2 => o W (Nat.le_trans hs h1) (fun b hb hl => (h2 b (hk b hb hl).1 (Nat.lt_of_lt_of_le hl hs)).trans (hk b hb hl).2)
theorem Src.heap {α : Type} {R : World → α → List Value → Prop} {K : Nat} {w w' : World} {a : Option Addr} {len cap : Nat} {xs : List α} (h : Src R K w a len cap xs) (hR : ∀ x vs, R w x vs → R w' x vs) (hs : w.heap.size ≤ w'.heap.size) (hk : ∀ b, b < w.heap.size → w'.heap[b]? = w.heap[b]?) : Src R K w' a len cap xs :=
  ⟨rw_keepB (B := fun b => b < w.heap.size) h.hrw hs hk (fun b off _ hl => hl) hR, h.hlen, h.hmost, h.hcap, h.hspot, h.hnil⟩
theorem HuS.keepP {w : World} {A : HuA} {h : HuV} (o : HuS w A h) : HuP (fun _ => True) w A h :=
  fun W h1 h2 => ⟨o.us.heap (fun _ _ h => h) h1 (fun b => h2 b trivial), o.ss.heap (fun _ _ h => h) h1 (fun b => h2 b trivial), o.fs.heap (fun _ _ h => h) h1 (fun b => h2 b trivial), o.es.heap (fun _ _ h => h) h1 (fun b => h2 b trivial)⟩
/-- A session ended: it is gone, and a record tells of it, if there is room. -/
def enR (now ca : Int) (es : List RecV) (x : SessV) : List RecV := if es.length < 60 then es ++ [⟨x.id, now, ca, x.ud, true⟩] else es
def enG (now ca : Int) (h : HuV) (pre pst : List SessV) (x : SessV) : HuV := { h with ss := pre ++ pst, es := enR now ca h.es x }
set_option maxHeartbeats 8000000 in
theorem l08End_keep (P : Nat → Prop) (A : HuA) (h : HuV) (pre pst : List SessV) (x : SessV) (k : Nat) (now ca : Int) (w : World) (hp : HuP P w A h) (he : h.ss = pre ++ x :: pst) (hk : pre.length = k) (hn1 : 0 ≤ now ∧ now ≤ 100000) (hc1 : 0 ≤ ca ∧ ca ≤ 6) :
    Calls Tryz.prog 74 #[.agg #[.slice A.u h.us.length A.uc, .slice A.s h.ss.length A.sc, .slice A.f h.fs.length A.fc, .slice A.r h.es.length A.rc, .int .i64 h.nx], .int .i64 (k : Int), .int .i64 now, .int .i64 ca] w fun e w' => ∃ A' : HuA, e = .returned (.agg #[.slice A'.u (enG now ca h pre pst x).us.length A'.uc, .slice A'.s (enG now ca h pre pst x).ss.length A'.sc, .slice A'.f (enG now ca h pre pst x).fs.length A'.fc, .slice A'.r (enG now ca h pre pst x).es.length A'.rc, .int .i64 (enG now ca h pre pst x).nx]) ∧ HuP (fun b => P b ∨ w.heap.size ≤ b) w' A' (enG now ca h pre pst x) ∧ Below w.heap.size w w' := by
  have hs := hp.now
  have HP : Hid (HuP P w A h) := hp
  clear hp
  obtain ⟨sa, hsa⟩ : ∃ sa, A.s = sa := ⟨_, rfl⟩
  obtain ⟨c, hc⟩ : ∃ c, A.sc = c := ⟨_, rfl⟩
  obtain ⟨n, hn⟩ : ∃ n, h.ss.length = n := ⟨_, rfl⟩
  obtain ⟨ra, hra⟩ : ∃ ra, A.r = ra := ⟨_, rfl⟩
  obtain ⟨rc, hrc⟩ : ∃ rc, A.rc = rc := ⟨_, rfl⟩
  obtain ⟨es, hes⟩ : ∃ es, h.es = es := ⟨_, rfl⟩
  have ES := hs.es
  rw [hra, hrc, hes] at ES
  have hcap := hs.ss.hcap
  have hmost := hs.ss.hmost
  have SS := hs.ss
  rw [hsa, hc, hn] at SS
  rw [hc, hn] at hcap
  rw [hn] at hmost
  have hkn : k + 1 + pst.length = n := by rw [← hn, he]; simp; omega
  cases sa with
  | none => exact absurd (SS.hnil rfl).1 (by omega)
  | some pa =>
  obtain ⟨b, off, pt⟩ := pa
  obtain rfl : pt = none := SS.hspot _ rfl
  have hx : h.ss[k]? = some x := by rw [he, ← hk]; simp
  have HS : Hid (HuS w A h) := hs
  have RW : Hid (Rw SeR 10 w (some ⟨b, off, none⟩) h.ss) := SS.hrw
  have hbl : b < w.heap.size := by
    obtain ⟨b', off', e, hb, _⟩ := SS.hrw (by omega)
    cases e; exact hb
  obtain ⟨b', off', vs, e, _, hvl, hR, hcx⟩ := RW.out.at SeR.kp (((Below.refl w.heap.size w).alloc (Nat.le_refl _) (.cells #[.slice A.u h.us.length A.uc, .slice (some ⟨b, off, none⟩) n c, .slice A.f h.fs.length A.fc, .slice ra es.length rc, .int .i64 h.nx] 41)).alloc (by simp) (.cells #[.slice none 0 0, .slice none 0 0, .slice none 0 0, .slice none 0 0, .int .i64 0] 41)) hx
  cases e
  obtain ⟨rfl, hxok⟩ := hR
  rw [hsa, hc, hn, hra, hrc, hes]
  clear SS
  have hkz : (k : Int) < (n : Int) := by omega
  go_enter Tryz.func74, Tryz.ntmps74
  go_wp2_with (first | (refine wpList_load_mid rfl 84 _ rfl b (off + k * 10) rfl [.int .i64 x.id, .int .i64 x.us, .string x.mc, .int .i64 x.ip, .int .i64 x.be, .int .i64 x.la, .int .i64 x.ud, .int .i64 x.qu, .int .i64 x.un, .int .i64 x.il] _ (fun j u hu => hcx j u hu) Tryz.underlying84 rfl rfl ?_) | fail)
  obtain ⟨W, hW⟩ : ∃ W, W = (((w.alloc (.cells #[.slice A.u h.us.length A.uc, .slice (some ⟨b, off, none⟩) n c, .slice A.f h.fs.length A.fc, .slice ra es.length rc, .int .i64 h.nx] 41)).alloc (.cells #[.slice none 0 0, .slice none 0 0, .slice none 0 0, .slice none 0 0, .int .i64 0] 41)).alloc (.cells #[.int .i64 x.id, .int .i64 x.us, .string x.mc, .int .i64 x.ip, .int .i64 x.be, .int .i64 x.la, .int .i64 x.ud, .int .i64 x.qu, .int .i64 x.un, .int .i64 x.il] 84)) := ⟨_, rfl⟩
  have hsz : W.heap.size = w.heap.size + 1 + 1 + 1 := by rw [hW]; simp
  have B1 : Below w.heap.size w W := by rw [hW]; exact (((Below.refl _ _).alloc (Nat.le_refl _) _).alloc (by simp) _).alloc (by simp; omega) _
  have G1 : Bx W w.heap.size [.slice A.u h.us.length A.uc, .slice (some ⟨b, off, none⟩) n c, .slice A.f h.fs.length A.fc, .slice ra es.length rc, .int .i64 h.nx] := by
    rw [hW]
    exact (((Bx.new w #[.slice A.u h.us.length A.uc, .slice (some ⟨b, off, none⟩) n c, .slice A.f h.fs.length A.fc, .slice ra es.length rc, .int .i64 h.nx] 41).below ((Below.refl _ _).alloc (Nat.le_refl _) _)).below ((Below.refl _ _).alloc (Nat.le_refl _) _))
  have R1 : Bx W (w.heap.size + 1) [.slice none 0 0, .slice none 0 0, .slice none 0 0, .slice none 0 0, .int .i64 0] := by
    rw [hW]
    have h := Bx.new (w.alloc (.cells #[.slice A.u h.us.length A.uc, .slice (some ⟨b, off, none⟩) n c, .slice A.f h.fs.length A.fc, .slice ra es.length rc, .int .i64 h.nx] 41)) #[.slice none 0 0, .slice none 0 0, .slice none 0 0, .slice none 0 0, .int .i64 0] 41
    rw [World.size_alloc] at h
    exact h.below ((Below.refl _ _).alloc (Nat.le_refl _) _)
  have X1 : Bx W (w.heap.size + 1 + 1) (svG x) := by
    rw [hW]
    have h := Bx.new ((w.alloc (.cells #[.slice A.u h.us.length A.uc, .slice (some ⟨b, off, none⟩) n c, .slice A.f h.fs.length A.fc, .slice ra es.length rc, .int .i64 h.nx] 41)).alloc (.cells #[.slice none 0 0, .slice none 0 0, .slice none 0 0, .slice none 0 0, .int .i64 0] 41)) #[.int .i64 x.id, .int .i64 x.us, .string x.mc, .int .i64 x.ip, .int .i64 x.be, .int .i64 x.la, .int .i64 x.ud, .int .i64 x.qu, .int .i64 x.un, .int .i64 x.il] 84
    rw [World.size_alloc, World.size_alloc] at h
    exact h
  rw [← hW]
  clear hW hcx hvl
  have hpre : pre.length = k := hk
  have hpost : pst.length = n - (k + 1) := by omega
  have hq1 : (k : Int) ≤ (n : Int) := by omega
  have hq2 : (n : Int) ≤ (c : Int) := by omega
  have hq3 : (k : Int) ≤ (c : Int) := by omega
  have hq4 : (k : Int) + 1 ≤ (n : Int) := by omega
  have hq5 : (k : Int) + 1 ≤ (c : Int) := by omega
  have hq6 : IntKind.i64.wrap ((k : Int) + 1) = (k : Int) + 1 := by rw [IntKind.wrap_i64]; omega
  have hq7 : (0 : Int) ≤ (k : Int) + 1 := by omega
  have KF : Hid (∀ wx, Rel.Keep (fun b => b < W.heap.size ∧ b ≠ w.heap.size) W wx → ∀ j u, (flatS svG h.ss)[j]? = some u → wx.cell? ⟨b, off + j, none⟩ = some u) := by
    intro wx hk2 j u hu
    have h1 := flat_rw (c := svG) (ok := SeRok) RW.out svG_len (by omega) j u hu
    exact (Rlw.cell_of (a := ⟨b, off + j, none⟩) ((hk2.block b ⟨by omega, by omega⟩).trans (B1.block b hbl))).trans h1
  have KP : Hid (∀ wx, Rel.Keep (fun b => b < W.heap.size ∧ b ≠ w.heap.size) W wx → ∀ j u, (flatS svG pre)[j]? = some u → wx.cell? ⟨b, off + j, none⟩ = some u) := by
    intro wx hk2 j u hu
    refine KF.out wx hk2 j u ?_
    rw [he, flatS_append, List.getElem?_append_left (List.getElem?_eq_some_iff.1 hu).1]
    exact hu
  obtain ⟨off2, hoff⟩ : ∃ off2, off2 = (if c = k + 1 then off else off + (k + 1) * 10) := ⟨_, rfl⟩
  have OE : Hid ((if c = k + 1 then (some ⟨b, off, none⟩ : Option Addr) else some ⟨b, off + (k + 1) * 10, none⟩) = some ⟨b, off2, none⟩) := by
    show _ = _
    rw [hoff]
    split <;> rfl
  have KQ : Hid (∀ wx, Rel.Keep (fun b => b < W.heap.size ∧ b ≠ w.heap.size) W wx → ∀ j u, (flatS svG pst)[j]? = some u → wx.cell? ⟨b, off2 + j, none⟩ = some u) := by
    intro wx hk2 j u hu
    by_cases hkc : c = k + 1
    · have : pst = [] := List.length_eq_zero_iff.1 (by omega)
      subst this
      simp [flatS] at hu
    · have h1 := KF.out wx hk2 ((k + 1) * 10 + j) u (by
        rw [he, show pre ++ x :: pst = (pre ++ [x]) ++ pst by simp, flatS_append, List.getElem?_append_right (by rw [flatS_len svG_len]; simp; omega), flatS_len svG_len]
        rw [show (k + 1) * 10 + j - (pre ++ [x]).length * 10 = j by simp; omega]
        exact hu)
      rw [hoff, if_neg hkc, Nat.add_assoc]
      exact h1
  clear KF
  have GH : Hid (Bx W w.heap.size [.slice A.u h.us.length A.uc, .slice (some ⟨b, off, none⟩) n c, .slice A.f h.fs.length A.fc, .slice ra es.length rc, .int .i64 h.nx]) := G1
  refine Rlw.wp_region_rel (w := W) [Rlw.kndR 0 [] (Knd.row svG 10 84 ([] : List SessV)) W.heap.size, Rlw.valR 1 [] (.pointer (some ⟨w.heap.size, 1, none⟩)), Rlw.valR 2 [1, 14] (.slice (some ⟨b, off, none⟩) n c), Rlw.valR 3 [] (.int .i64 (k : Int)), Rlw.valR 4 [2, 3] (.slice (some ⟨b, off, none⟩) k c), Rlw.kndT 5 0 [4] (Knd.row svG 10 84 (([] : List SessV) ++ pre)) W.heap.size, Rlw.valR 6 [] (.pointer (some ⟨w.heap.size, 1, none⟩)), Rlw.valR 7 [6, 14] (.slice (some ⟨b, off, none⟩) n c), Rlw.valR 8 [] (.int .i64 (k : Int)), Rlw.valR 9 [8] (.int .i64 ((k : Int) + 1)), Rlw.valR 10 [7, 9] (.slice (some ⟨b, off2, none⟩) (n - (k + 1)) (c - (k + 1))), Rlw.kndT 11 5 [10] (Knd.row svG 10 84 ((([] : List SessV) ++ pre) ++ pst)) W.heap.size, Rlw.valR 12 [] (.pointer (some ⟨w.heap.size, 1, none⟩)), Rlw.fillR w.heap.size 14 11 [11, 12] (fun v => [.slice A.u h.us.length A.uc, v, .slice A.f h.fs.length A.fc, .slice ra es.length rc, .int .i64 h.nx]), Rlw.iniR w.heap.size [.slice A.u h.us.length A.uc, .slice (some ⟨b, off, none⟩) n c, .slice A.f h.fs.length A.fc, .slice ra es.length rc, .int .i64 h.nx]] [14] [1, 2, 3, 4, 6, 7, 8, 9, 10, 11, 12, 13] (fun b => b < W.heap.size ∧ b ≠ w.heap.size) (by kernel_rfl) (by kernel_rfl) (by kernel_rfl) ?_ (fun b h => h.1) ?ini ?ap ?_ ?_
  · exact List.forall_mem_cons.2 ⟨Rlw.kndR_ok _ _ _ _, List.forall_mem_cons.2 ⟨Rlw.valR_ok _ _ _, List.forall_mem_cons.2 ⟨Rlw.valR_ok _ _ _, List.forall_mem_cons.2 ⟨Rlw.valR_ok _ _ _, List.forall_mem_cons.2 ⟨Rlw.valR_ok _ _ _, List.forall_mem_cons.2 ⟨Rlw.kndT_ok _ _ _ _ _, List.forall_mem_cons.2 ⟨Rlw.valR_ok _ _ _, List.forall_mem_cons.2 ⟨Rlw.valR_ok _ _ _, List.forall_mem_cons.2 ⟨Rlw.valR_ok _ _ _, List.forall_mem_cons.2 ⟨Rlw.valR_ok _ _ _, List.forall_mem_cons.2 ⟨Rlw.valR_ok _ _ _, List.forall_mem_cons.2 ⟨Rlw.kndT_ok _ _ _ _ _, List.forall_mem_cons.2 ⟨Rlw.valR_ok _ _ _, List.forall_mem_cons.2 ⟨Rlw.fillR_ok _ _ _ _ _, List.forall_mem_cons.2 ⟨Rlw.iniR_ok _ _, List.forall_mem_nil _⟩⟩⟩⟩⟩⟩⟩⟩⟩⟩⟩⟩⟩⟩⟩
  case ini =>
    intro q r hq hr
    rw [List.mem_singleton] at hq
    subst hq
    cases hr
    exact ⟨Rlw.bx_loc G1 rfl, fun b hb => ⟨by have hb2 : b = w.heap.size := hb; show b < W.heap.size; omega, fun e => e.2 hb⟩⟩
  case ap =>
    intro q1 q2 r1 r2 h1 h2 hne
    rw [List.mem_singleton] at h1 h2
    exact absurd (h1.trans h2.symm) hne
  · refine (Rlw.walk_cons ?s0 (Rlw.walk_cons ?s1 (Rlw.walk_cons ?s2 (Rlw.walk_cons ?s3 (Rlw.walk_cons ?s4 (Rlw.walk_cons ?s5 (Rlw.walk_cons ?s6 (Rlw.walk_cons ?s7 (Rlw.walk_cons ?s8 (Rlw.walk_cons ?s9 (Rlw.walk_cons ?s10 (Rlw.walk_cons ?s11 (Rlw.walk_cons ?s12 (Rlw.walk_cons ?s13 Rlw.walk_nil))))))))))))))
    case s0 =>
      refine Rlw.step_want ?_ ?_
      · rfl
      intro σ wx hK hF post hp
      go_simp
      refine Rlw.yld_val ?_
      exact hp _ _ (Rlw.left_knd (OwnS.lit wx _ (Nat.le_refl _)) hK.size ((Below.refl _ _).alloc (Nat.le_refl _) _))
    case s1 =>
      refine Rlw.step_want ?_ ?_
      · rfl
      intro σ wx hK hF post hp
      go_simp
      refine Rlw.yld_val ?_
      exact hp _ _ Rlw.left_val
    case s2 =>
      refine Rlw.step_want ?_ ?_
      · rfl
      intro σ wx hK hF post hp
      have f1 : σ 1 = .pointer (some ⟨w.heap.size, 1, none⟩) := Rlw.fact_of hF (j := 1) rfl rfl
      have f14 : Bx wx w.heap.size [.slice A.u h.us.length A.uc, .slice (some ⟨b, off, none⟩) n c, .slice A.f h.fs.length A.fc, .slice ra es.length rc, .int .i64 h.nx] := Rlw.fact_of hF (j := 14) rfl rfl
      have q1 := f14.cell 1 rfl
      go_simp
      refine Rlw.yld_val ?_
      exact hp _ _ Rlw.left_val
    case s3 =>
      refine Rlw.step_want ?_ ?_
      · rfl
      intro σ wx hK hF post hp
      go_simp
      refine Rlw.yld_val ?_
      exact hp _ _ Rlw.left_val
    case s4 =>
      refine Rlw.step_want ?_ ?_
      · rfl
      intro σ wx hK hF post hp
      have f2 : σ 2 = .slice (some ⟨b, off, none⟩) n c := Rlw.fact_of hF (j := 2) rfl rfl
      have f3 : σ 3 = .int .i64 (k : Int) := Rlw.fact_of hF (j := 3) rfl rfl
      go_simp
      refine Rlw.yld_val ?_
      exact hp _ _ Rlw.left_val
    case s5 =>
      refine Rlw.step_want ?_ ?_
      · rfl
      intro σ wx hK hF post hp
      have f0 : OwnS svG 10 84 wx W.heap.size (σ 0) ([] : List SessV) := Rlw.fact_of hF (j := 0) rfl rfl
      have f4 : σ 4 = .slice (some ⟨b, off, none⟩) k c := Rlw.fact_of hF (j := 4) rfl rfl
      obtain ⟨i0, hi, hz0, hz1, hz2⟩ := info_parts infoSession
      have hm9 : (pre).length = k := hpre
      refine Rlw.yld_append (.tmp 15) (.tmp 19) 37 rfl W.heap.size 84 i0 (.agg #[.int .i64 0, .int .i64 0, .string ⟨#[]⟩, .int .i64 0, .int .i64 0, .int .i64 0, .int .i64 0, .int .i64 0, .int .i64 0, .int .i64 0]) 10 88 Tryz.underlying37 hi hz0 hz1 hz2 rfl (by decide) (σ 0) ([] : List SessV).length (flatS svG ([] : List SessV)) (by go_simp) f0 ⟨b, off, none⟩ k c (flatS svG pre) (by go_simp; try exact f4) ((flatS_len svG_len _).trans (congrArg (fun z => z * 10) hm9)) (fun j u hu => by rw [addn]; exact KP.out wx (Rlw.keep_drew hK) j u hu) (oneSession _) (by unfold maxLen; simp; omega) (by simp; omega) hK.size ?_
      intro v' w' h2 h3 h4
      rw [← flatS_append] at h2
      have h5 : OwnS svG 10 84 w' W.heap.size v' (([] : List SessV) ++ pre) := by unfold OwnS; rw [(List.length_append.trans (congrArg (fun z => ([] : List SessV).length + z) hm9) : (([] : List SessV) ++ pre).length = ([] : List SessV).length + k)]; exact h2
      exact hp _ _ (Rlw.left_app (v := σ 0) (rj := Rlw.kndR 0 [] (Knd.row svG 10 84 ([] : List SessV)) W.heap.size) rfl (fun b hb => hb) h5 h3 h4)
    case s6 =>
      refine Rlw.step_want ?_ ?_
      · rfl
      intro σ wx hK hF post hp
      go_simp
      refine Rlw.yld_val ?_
      exact hp _ _ Rlw.left_val
    case s7 =>
      refine Rlw.step_want ?_ ?_
      · rfl
      intro σ wx hK hF post hp
      have f6 : σ 6 = .pointer (some ⟨w.heap.size, 1, none⟩) := Rlw.fact_of hF (j := 6) rfl rfl
      have f14 : Bx wx w.heap.size [.slice A.u h.us.length A.uc, .slice (some ⟨b, off, none⟩) n c, .slice A.f h.fs.length A.fc, .slice ra es.length rc, .int .i64 h.nx] := Rlw.fact_of hF (j := 14) rfl rfl
      have q1 := f14.cell 1 rfl
      go_simp
      refine Rlw.yld_val ?_
      exact hp _ _ Rlw.left_val
    case s8 =>
      refine Rlw.step_want ?_ ?_
      · rfl
      intro σ wx hK hF post hp
      go_simp
      refine Rlw.yld_val ?_
      exact hp _ _ Rlw.left_val
    case s9 =>
      refine Rlw.step_want ?_ ?_
      · rfl
      intro σ wx hK hF post hp
      have f8 : σ 8 = .int .i64 (k : Int) := Rlw.fact_of hF (j := 8) rfl rfl
      go_simp
      refine Rlw.yld_val ?_
      exact hp _ _ Rlw.left_val
    case s10 =>
      refine Rlw.step_want ?_ ?_
      · rfl
      intro σ wx hK hF post hp
      have f7 : σ 7 = .slice (some ⟨b, off, none⟩) n c := Rlw.fact_of hF (j := 7) rfl rfl
      have f9 : σ 9 = .int .i64 ((k : Int) + 1) := Rlw.fact_of hF (j := 9) rfl rfl
      go_simp
      rw [OE.out]
      refine Rlw.yld_val ?_
      exact hp _ _ Rlw.left_val
    case s11 =>
      refine Rlw.step_want ?_ ?_
      · rfl
      intro σ wx hK hF post hp
      have f5 : OwnS svG 10 84 wx W.heap.size (σ 5) (([] : List SessV) ++ pre) := Rlw.fact_of hF (j := 5) rfl rfl
      have f10 : σ 10 = .slice (some ⟨b, off2, none⟩) (n - (k + 1)) (c - (k + 1)) := Rlw.fact_of hF (j := 10) rfl rfl
      obtain ⟨i0, hi, hz0, hz1, hz2⟩ := info_parts infoSession
      have hm9 : (pst).length = (n - (k + 1)) := hpost
      refine Rlw.yld_append (.tmp 20) (.tmp 25) 37 rfl W.heap.size 84 i0 (.agg #[.int .i64 0, .int .i64 0, .string ⟨#[]⟩, .int .i64 0, .int .i64 0, .int .i64 0, .int .i64 0, .int .i64 0, .int .i64 0, .int .i64 0]) 10 88 Tryz.underlying37 hi hz0 hz1 hz2 rfl (by decide) (σ 5) (([] : List SessV) ++ pre).length (flatS svG (([] : List SessV) ++ pre)) (by go_simp) f5 ⟨b, off2, none⟩ (n - (k + 1)) (c - (k + 1)) (flatS svG pst) (by go_simp; try exact f10) ((flatS_len svG_len _).trans (congrArg (fun z => z * 10) hm9)) (fun j u hu => by rw [addn]; exact KQ.out wx (Rlw.keep_drew hK) j u hu) (oneSession _) (by unfold maxLen; rw [List.nil_append]; omega) (by rw [List.nil_append]; omega) hK.size ?_
      intro v' w' h2 h3 h4
      rw [← flatS_append] at h2
      have h5 : OwnS svG 10 84 w' W.heap.size v' ((([] : List SessV) ++ pre) ++ pst) := by unfold OwnS; rw [(List.length_append.trans (congrArg (fun z => (([] : List SessV) ++ pre).length + z) hm9) : ((([] : List SessV) ++ pre) ++ pst).length = (([] : List SessV) ++ pre).length + (n - (k + 1)))]; exact h2
      exact hp _ _ (Rlw.left_app (v := σ 5) (rj := Rlw.kndT 5 0 [4] (Knd.row svG 10 84 (([] : List SessV) ++ pre)) W.heap.size) rfl (fun b hb => hb) h5 h3 h4)
    case s12 =>
      refine Rlw.step_want ?_ ?_
      · rfl
      intro σ wx hK hF post hp
      go_simp
      refine Rlw.yld_val ?_
      exact hp _ _ Rlw.left_val
    case s13 =>
      refine Rlw.step_want ?_ ?_
      · rfl
      intro σ wx hK hF post hp
      have f12 : σ 12 = .pointer (some ⟨w.heap.size, 1, none⟩) := Rlw.fact_of hF (j := 12) rfl rfl
      have f11 : OwnS svG 10 84 wx W.heap.size (σ 11) ((([] : List SessV) ++ pre) ++ pst) := Rlw.fact_of hF (j := 11) rfl rfl
      have f14 : Bx wx w.heap.size [.slice A.u h.us.length A.uc, .slice (some ⟨b, off, none⟩) n c, .slice A.f h.fs.length A.fc, .slice ra es.length rc, .int .i64 h.nx] := Rlw.fact_of hF (j := 14) rfl rfl
      obtain ⟨az, cz, hzz, -, -⟩ := f11.slice
      refine Rlw.yld_put1 37 _ _ rfl (q := w.heap.size) (j := 1) (v := σ 11) (by go_simp) (by go_simp) f14 (by rfl) rfl (by rw [hzz]; rfl) ?_
      exact hp _ _ (Rlw.left_fill (t := 11) rfl (by decide) f14 [σ 11] rfl)
  · intro σ W2 hK hF hA
    have f11 : OwnS svG 10 84 W2 W.heap.size (σ 11) ((([] : List SessV) ++ pre) ++ pst) := Rlw.fact_of hF (j := 11) rfl rfl
    have f13 : Bx W2 w.heap.size [.slice A.u h.us.length A.uc, σ 11, .slice A.f h.fs.length A.fc, .slice ra es.length rc, .int .i64 h.nx] := Rlw.fact_of hF (j := 13) rfl rfl
    have KW := Rlw.keep_drew hK
    clear hF hA hK
    rw [List.nil_append] at f11
    obtain ⟨ps, hps⟩ : ∃ ps, pre ++ pst = ps := ⟨_, rfl⟩
    rw [hps] at f11
    obtain ⟨sx, sy, hsx, -⟩ := f11.slice
    rw [hsx] at f11 f13
    have G2 : Hid (Bx W2 w.heap.size [.slice A.u h.us.length A.uc, .slice sx ps.length sy, .slice A.f h.fs.length A.fc, .slice ra es.length rc, .int .i64 h.nx]) := f13
    have O2 : Hid (OwnS svG 10 84 W2 W.heap.size (.slice sx ps.length sy) ps) := f11
    have R2 : Hid (Bx W2 (w.heap.size + 1) [.slice none 0 0, .slice none 0 0, .slice none 0 0, .slice none 0 0, .int .i64 0]) := Rlw.bx_keepW R1 KW ⟨by omega, by omega⟩
    have X2x : Hid (Bx W2 (w.heap.size + 2) (svG x)) := Rlw.bx_keepW X1 KW ⟨by omega, by omega⟩
    have B2 : Hid (Below w.heap.size w W2) := ⟨KW.os.trans B1.os, KW.tape.trans B1.tape, KW.output.trans B1.output, Nat.le_trans B1.size KW.size, fun b hb => (KW.block b ⟨by omega, by omega⟩).trans (B1.block b hb)⟩
    have HX : Hid (w.heap.size + 2 < W2.heap.size) := by have := KW.size; show _ < _; omega
    have HW : Hid (W.heap.size = w.heap.size + 3) := hsz
    have LE : Hid (es.length ≤ 1048576) := ES.hlen ▸ ES.hmost
    have NL : Hid (ra = none → es.length = 0 ∧ rc = 0) := ES.hnil
    have SP : Hid (∀ q, ra = some q → q.spot = none) := ES.hspot
    have RR : Hid (Rw ReR 5 w ra es) := ES.hrw
    have UK : Hid (∀ z, z ∈ ps → SeRok z) := fun z hz => rw_okG (c := svG) (ok := SeRok) RW.out z (by
      rw [he]
      rw [← hps] at hz
      rcases List.mem_append.1 hz with h1 | h1
      · exact List.mem_append_left _ h1
      · exact List.mem_append_right _ (List.mem_cons_of_mem _ h1))
    have LS : Hid (ps.length ≤ 1048576) := by show _ ≤ _; rw [← hps, List.length_append]; omega
    have hlz := LE.out
    simp only [Rlw.putAll, Nat.zero_add, Nat.reduceAdd]
    have c3 := G2.out.cell 3 rfl
    clear f11 f13 KW R1 X1 G1 B1 GH KP KQ OE hsx
    by_cases h60 : es.length < 60
    · have h60z : decide ((es.length : Int) < 60) = true := decide_eq_true (by omega)
      go_wp2_with fail
      have RQ : Hid (∀ wx, Rel.Keep (fun b => b < W2.heap.size ∧ b ≠ w.heap.size) W2 wx → ∀ bb oo, ra = some ⟨bb, oo, none⟩ → Rw (FR evG ReRok) 5 wx (some ⟨bb, oo, none⟩) es) := by
        intro wx hk2 bb oo hra2
        intro h0
        obtain ⟨b1, o1, e1, hb1, hc1⟩ := RR.out h0
        rw [hra2] at e1
        cases e1
        refine ⟨bb, oo, rfl, Nat.lt_of_lt_of_le hb1 (Nat.le_trans B2.out.size hk2.size), fun i z hz => ?_⟩
        obtain ⟨vs, hv1, hv2, hv3⟩ := hc1 i z hz
        exact ⟨vs, hv1, hv2, fun j u hu => (Rlw.cell_of (a := ⟨bb, oo + i * 5 + j, none⟩) ((hk2.block bb ⟨by have := B2.out.size; omega, by omega⟩).trans (B2.out.block bb hb1))).trans (hv3 j u hu)⟩
      clear c3
      refine Rlw.wp_region_rel (w := W2) [Rlw.kndR 0 [] (Knd.row evG 5 134 ([] : List RecV)) W2.heap.size, Rlw.valR 1 [] (.pointer (some ⟨w.heap.size, 3, none⟩)), Rlw.valR 2 [1, 15] (.slice ra es.length rc), Rlw.kndT 3 0 [2] (Knd.row evG 5 134 (([] : List RecV) ++ es)) W2.heap.size, Rlw.valR 4 [] (.pointer (some ⟨w.heap.size + 2, 0, none⟩)), Rlw.valR 5 [4] (.int .i64 x.id), Rlw.valR 6 [] (.int .i64 now), Rlw.valR 7 [] (.int .i64 ca), Rlw.valR 8 [] (.pointer (some ⟨w.heap.size + 2, 6, none⟩)), Rlw.valR 9 [8] (.int .i64 x.ud), Rlw.valR 10 [5, 6, 7, 9] (.agg #[.int .i64 x.id, .int .i64 now, .int .i64 ca, .int .i64 x.ud, .bool true]), Rlw.kndR 11 [10] (Knd.row evG 5 134 ([⟨x.id, now, ca, x.ud, true⟩] : List RecV)) W2.heap.size, Rlw.kndT 12 3 [11] (Knd.row evG 5 134 ((([] : List RecV) ++ es) ++ [⟨x.id, now, ca, x.ud, true⟩])) W2.heap.size, Rlw.valR 13 [] (.pointer (some ⟨w.heap.size, 3, none⟩)), Rlw.fillR w.heap.size 15 12 [12, 13] (fun v => [.slice A.u h.us.length A.uc, .slice sx ps.length sy, .slice A.f h.fs.length A.fc, v, .int .i64 h.nx]), Rlw.iniR w.heap.size [.slice A.u h.us.length A.uc, .slice sx ps.length sy, .slice A.f h.fs.length A.fc, .slice ra es.length rc, .int .i64 h.nx]] [15] [1, 2, 4, 5, 6, 7, 8, 9, 10, 12, 13, 14] (fun b => b < W2.heap.size ∧ b ≠ w.heap.size) (by kernel_rfl) (by kernel_rfl) (by kernel_rfl) ?_ (fun b h => h.1) ?ini ?ap ?_ ?_
      · exact List.forall_mem_cons.2 ⟨Rlw.kndR_ok _ _ _ _, List.forall_mem_cons.2 ⟨Rlw.valR_ok _ _ _, List.forall_mem_cons.2 ⟨Rlw.valR_ok _ _ _, List.forall_mem_cons.2 ⟨Rlw.kndT_ok _ _ _ _ _, List.forall_mem_cons.2 ⟨Rlw.valR_ok _ _ _, List.forall_mem_cons.2 ⟨Rlw.valR_ok _ _ _, List.forall_mem_cons.2 ⟨Rlw.valR_ok _ _ _, List.forall_mem_cons.2 ⟨Rlw.valR_ok _ _ _, List.forall_mem_cons.2 ⟨Rlw.valR_ok _ _ _, List.forall_mem_cons.2 ⟨Rlw.valR_ok _ _ _, List.forall_mem_cons.2 ⟨Rlw.valR_ok _ _ _, List.forall_mem_cons.2 ⟨Rlw.kndR_ok _ _ _ _, List.forall_mem_cons.2 ⟨Rlw.kndT_ok _ _ _ _ _, List.forall_mem_cons.2 ⟨Rlw.valR_ok _ _ _, List.forall_mem_cons.2 ⟨Rlw.fillR_ok _ _ _ _ _, List.forall_mem_cons.2 ⟨Rlw.iniR_ok _ _, List.forall_mem_nil _⟩⟩⟩⟩⟩⟩⟩⟩⟩⟩⟩⟩⟩⟩⟩⟩
      case ini =>
        intro q r hq hr
        rw [List.mem_singleton] at hq
        subst hq
        cases hr
        exact ⟨Rlw.bx_loc G2.out rfl, fun b hb => ⟨by have hb2 : b = w.heap.size := hb; have := HX.out; show b < W2.heap.size; omega, fun e => e.2 hb⟩⟩
      case ap =>
        intro q1 q2 r1 r2 h1 h2 hne
        rw [List.mem_singleton] at h1 h2
        exact absurd (h1.trans h2.symm) hne
      · refine (Rlw.walk_cons ?s0 (Rlw.walk_cons ?s1 (Rlw.walk_cons ?s2 (Rlw.walk_cons ?s3 (Rlw.walk_cons ?s4 (Rlw.walk_cons ?s5 (Rlw.walk_cons ?s6 (Rlw.walk_cons ?s7 (Rlw.walk_cons ?s8 (Rlw.walk_cons ?s9 (Rlw.walk_cons ?s10 (Rlw.walk_cons ?s11 (Rlw.walk_cons ?s12 (Rlw.walk_cons ?s13 (Rlw.walk_cons ?s14 Rlw.walk_nil)))))))))))))))
        case s0 =>
          refine Rlw.step_want ?_ ?_
          · rfl
          intro σ wx hK hF post hp
          go_simp
          refine Rlw.yld_val ?_
          exact hp _ _ (Rlw.left_knd (OwnS.lit wx _ (Nat.le_refl _)) hK.size ((Below.refl _ _).alloc (Nat.le_refl _) _))
        case s1 =>
          refine Rlw.step_want ?_ ?_
          · rfl
          intro σ wx hK hF post hp
          go_simp
          refine Rlw.yld_val ?_
          exact hp _ _ Rlw.left_val
        case s2 =>
          refine Rlw.step_want ?_ ?_
          · rfl
          intro σ wx hK hF post hp
          have f1 : σ 1 = .pointer (some ⟨w.heap.size, 3, none⟩) := Rlw.fact_of hF (j := 1) rfl rfl
          have f15 : Bx wx w.heap.size [.slice A.u h.us.length A.uc, .slice sx ps.length sy, .slice A.f h.fs.length A.fc, .slice ra es.length rc, .int .i64 h.nx] := Rlw.fact_of hF (j := 15) rfl rfl
          have q1 := f15.cell 3 rfl
          go_simp
          refine Rlw.yld_val ?_
          exact hp _ _ Rlw.left_val
        case s3 =>
          refine Rlw.step_want ?_ ?_
          · rfl
          intro σ wx hK hF post hp
          have f0 : OwnS evG 5 134 wx W2.heap.size (σ 0) ([] : List RecV) := Rlw.fact_of hF (j := 0) rfl rfl
          have f2 : σ 2 = .slice ra es.length rc := Rlw.fact_of hF (j := 2) rfl rfl
          cases ra with
          | none =>
            obtain ⟨e0, rfl⟩ := NL.out rfl
            obtain rfl : es = [] := List.length_eq_zero_iff.1 e0
            obtain ⟨i0, hi, hz0, hz1, hz2⟩ := info_parts infoRecord
            refine Rlw.yld_append_none (.tmp 32) (.tmp 34) 39 rfl W2.heap.size 134 i0 5 Tryz.underlying39 hi (σ 0) 0 [] (by go_simp) f0 (by go_simp; try exact f2) ?_
            exact hp _ _ (Rlw.left_app (v := σ 0) (rj := Rlw.kndR 0 [] (Knd.row evG 5 134 ([] : List RecV)) W2.heap.size) rfl (fun b hb => hb) f0 (grown_refl _ _) (fun k hk => .inl hk))
          | some pa =>
            obtain ⟨b, off, pt⟩ := pa
            obtain rfl : pt = none := SP.out _ rfl
            obtain ⟨i0, hi, hz0, hz1, hz2⟩ := info_parts infoRecord
            have hm9 : (es).length = es.length := rfl
            refine Rlw.yld_append (.tmp 32) (.tmp 34) 39 rfl W2.heap.size 134 i0 (.agg #[.int .i64 0, .int .i64 0, .int .i64 0, .int .i64 0, .bool false]) 5 40 Tryz.underlying39 hi hz0 hz1 hz2 rfl (by decide) (σ 0) ([] : List RecV).length (flatS evG ([] : List RecV)) (by go_simp) f0 ⟨b, off, none⟩ es.length rc (flatS evG es) (by go_simp; try exact f2) ((flatS_len evG_len _).trans (congrArg (fun z => z * 5) hm9)) (fun j u hu => by rw [addn]; exact flat_rw (RQ.out wx (Rlw.keep_drew hK) _ _ rfl) evG_len (by omega) j u hu) (oneRecord _) (by unfold maxLen; simp; omega) (by simp; omega) hK.size ?_
            intro v' w' h2 h3 h4
            rw [← flatS_append] at h2
            have h5 : OwnS evG 5 134 w' W2.heap.size v' (([] : List RecV) ++ es) := by unfold OwnS; rw [(List.length_append.trans (congrArg (fun z => ([] : List RecV).length + z) hm9) : (([] : List RecV) ++ es).length = ([] : List RecV).length + es.length)]; exact h2
            exact hp _ _ (Rlw.left_app (v := σ 0) (rj := Rlw.kndR 0 [] (Knd.row evG 5 134 ([] : List RecV)) W2.heap.size) rfl (fun b hb => hb) h5 h3 h4)
        case s4 =>
          refine Rlw.step_want ?_ ?_
          · rfl
          intro σ wx hK hF post hp
          go_simp
          refine Rlw.yld_val ?_
          exact hp _ _ Rlw.left_val
        case s5 =>
          refine Rlw.step_want ?_ ?_
          · rfl
          intro σ wx hK hF post hp
          have f4 : σ 4 = .pointer (some ⟨w.heap.size + 2, 0, none⟩) := Rlw.fact_of hF (j := 4) rfl rfl
          have kq : Rel.Keep (fun b => b < W2.heap.size ∧ b ≠ w.heap.size) W2 wx := ⟨hK.os, hK.tape, hK.output, hK.size, hK.block⟩
          have qx := (Rlw.bx_keepW X2x.out kq ⟨HX.out, by omega⟩).cell 0 rfl
          go_simp
          refine Rlw.yld_val ?_
          exact hp _ _ Rlw.left_val
        case s6 =>
          refine Rlw.step_want ?_ ?_
          · rfl
          intro σ wx hK hF post hp
          go_simp
          refine Rlw.yld_val ?_
          exact hp _ _ Rlw.left_val
        case s7 =>
          refine Rlw.step_want ?_ ?_
          · rfl
          intro σ wx hK hF post hp
          go_simp
          refine Rlw.yld_val ?_
          exact hp _ _ Rlw.left_val
        case s8 =>
          refine Rlw.step_want ?_ ?_
          · rfl
          intro σ wx hK hF post hp
          go_simp
          refine Rlw.yld_val ?_
          exact hp _ _ Rlw.left_val
        case s9 =>
          refine Rlw.step_want ?_ ?_
          · rfl
          intro σ wx hK hF post hp
          have f8 : σ 8 = .pointer (some ⟨w.heap.size + 2, 6, none⟩) := Rlw.fact_of hF (j := 8) rfl rfl
          have kq : Rel.Keep (fun b => b < W2.heap.size ∧ b ≠ w.heap.size) W2 wx := ⟨hK.os, hK.tape, hK.output, hK.size, hK.block⟩
          have qx := (Rlw.bx_keepW X2x.out kq ⟨HX.out, by omega⟩).cell 6 rfl
          go_simp
          refine Rlw.yld_val ?_
          exact hp _ _ Rlw.left_val
        case s10 =>
          refine Rlw.step_want ?_ ?_
          · rfl
          intro σ wx hK hF post hp
          have f5 : σ 5 = .int .i64 x.id := Rlw.fact_of hF (j := 5) rfl rfl
          have f6 : σ 6 = .int .i64 now := Rlw.fact_of hF (j := 6) rfl rfl
          have f7 : σ 7 = .int .i64 ca := Rlw.fact_of hF (j := 7) rfl rfl
          have f9 : σ 9 = .int .i64 x.ud := Rlw.fact_of hF (j := 9) rfl rfl
          go_simp
          refine Rlw.yld_val ?_
          exact hp _ _ Rlw.left_val
        case s11 =>
          refine Rlw.step_want ?_ ?_
          · rfl
          intro σ wx hK hF post hp
          have f10 : σ 10 = .agg #[.int .i64 x.id, .int .i64 now, .int .i64 ca, .int .i64 x.ud, .bool true] := Rlw.fact_of hF (j := 10) rfl rfl
          go_simp
          refine Rlw.yld_val ?_
          exact hp _ _ (Rlw.left_knd (World.ownsRow_lit wx #[.int .i64 x.id, .int .i64 now, .int .i64 ca, .int .i64 x.ud, .bool true] 1 (Nat.le_refl _) (by unfold maxLen; omega) rfl) hK.size ((Below.refl _ _).alloc (Nat.le_refl _) _))
        case s12 =>
          refine Rlw.step_want ?_ ?_
          · rfl
          intro σ wx hK hF post hp
          have f3 : OwnS evG 5 134 wx W2.heap.size (σ 3) (([] : List RecV) ++ es) := Rlw.fact_of hF (j := 3) rfl rfl
          have f11 : OwnS evG 5 134 wx W2.heap.size (σ 11) ([⟨x.id, now, ca, x.ud, true⟩] : List RecV) := Rlw.fact_of hF (j := 11) rfl rfl
          obtain ⟨gz, cz, hzz, hnz, -⟩ := f11.slice
          cases gz with
          | none => exact absurd (f11.2) (by rw [hzz]; simp)
          | some pz =>
            obtain ⟨q, o, pt⟩ := pz
            have hq0 : (⟨q, o, pt⟩ : Addr) = ⟨q, 0, none⟩ := by
              obtain ⟨g, hg, -⟩ := (show OwnS evG 5 134 wx W2.heap.size (.slice (some ⟨q, o, pt⟩) _ cz) _ from hzz ▸ f11).form (by simp)
              exact (Option.some.inj hg).trans (by have := Option.some.inj hg; cases this; rfl)
            cases hq0
            have hcl : ∀ j u, (flatS evG ([⟨x.id, now, ca, x.ud, true⟩] : List RecV))[j]? = some u → wx.cell? ⟨q, 0 + j, none⟩ = some u := fun j u hu => by
              have := World.ownsRow.cells f11 (g := q) (by rw [hzz]; rfl) j u hu
              rw [addn] at this
              exact this
            obtain ⟨i0, hi, hz0, hz1, hz2⟩ := info_parts infoRecord
            have hm9 : (([⟨x.id, now, ca, x.ud, true⟩] : List RecV)).length = 1 := rfl
            refine Rlw.yld_append (.tmp 35) (.tmp 43) 39 rfl W2.heap.size 134 i0 (.agg #[.int .i64 0, .int .i64 0, .int .i64 0, .int .i64 0, .bool false]) 5 40 Tryz.underlying39 hi hz0 hz1 hz2 rfl (by decide) (σ 3) (([] : List RecV) ++ es).length (flatS evG (([] : List RecV) ++ es)) (by go_simp) f3 ⟨q, 0, none⟩ 1 cz (flatS evG ([⟨x.id, now, ca, x.ud, true⟩] : List RecV)) (by go_simp; try (rw [hzz]; rfl)) ((flatS_len evG_len _).trans (congrArg (fun z => z * 5) hm9)) (fun j u hu => by rw [addn]; exact hcl j u hu) (oneRecord _) (by unfold maxLen; rw [List.nil_append]; omega) (by rw [List.nil_append]; omega) hK.size ?_
            intro v' w' h2 h3 h4
            rw [← flatS_append] at h2
            have h5 : OwnS evG 5 134 w' W2.heap.size v' ((([] : List RecV) ++ es) ++ ([⟨x.id, now, ca, x.ud, true⟩] : List RecV)) := by unfold OwnS; rw [(List.length_append.trans (congrArg (fun z => (([] : List RecV) ++ es).length + z) hm9) : ((([] : List RecV) ++ es) ++ ([⟨x.id, now, ca, x.ud, true⟩] : List RecV)).length = (([] : List RecV) ++ es).length + 1)]; exact h2
            exact hp _ _ (Rlw.left_app (v := σ 3) (rj := Rlw.kndT 3 0 [2] (Knd.row evG 5 134 (([] : List RecV) ++ es)) W2.heap.size) rfl (fun b hb => hb) h5 h3 h4)
        case s13 =>
          refine Rlw.step_want ?_ ?_
          · rfl
          intro σ wx hK hF post hp
          go_simp
          refine Rlw.yld_val ?_
          exact hp _ _ Rlw.left_val
        case s14 =>
          refine Rlw.step_want ?_ ?_
          · rfl
          intro σ wx hK hF post hp
          have f13 : σ 13 = .pointer (some ⟨w.heap.size, 3, none⟩) := Rlw.fact_of hF (j := 13) rfl rfl
          have f12 : OwnS evG 5 134 wx W2.heap.size (σ 12) ((([] : List RecV) ++ es) ++ [⟨x.id, now, ca, x.ud, true⟩]) := Rlw.fact_of hF (j := 12) rfl rfl
          have f15 : Bx wx w.heap.size [.slice A.u h.us.length A.uc, .slice sx ps.length sy, .slice A.f h.fs.length A.fc, .slice ra es.length rc, .int .i64 h.nx] := Rlw.fact_of hF (j := 15) rfl rfl
          obtain ⟨az, cz, hzz, -, -⟩ := f12.slice
          refine Rlw.yld_put1 39 _ _ rfl (q := w.heap.size) (j := 3) (v := σ 12) (by go_simp) (by go_simp) f15 (by rfl) rfl (by rw [hzz]; rfl) ?_
          exact hp _ _ (Rlw.left_fill (t := 12) rfl (by decide) f15 [σ 12] rfl)
      · intro σ W4 hK hF hA
        have f12 : OwnS evG 5 134 W4 W2.heap.size (σ 12) ((([] : List RecV) ++ es) ++ [⟨x.id, now, ca, x.ud, true⟩]) := Rlw.fact_of hF (j := 12) rfl rfl
        have f14 : Bx W4 w.heap.size [.slice A.u h.us.length A.uc, .slice sx ps.length sy, .slice A.f h.fs.length A.fc, σ 12, .int .i64 h.nx] := Rlw.fact_of hF (j := 14) rfl rfl
        have KW := Rlw.keep_drew hK
        clear hF hA hK
        rw [List.nil_append] at f12
        obtain ⟨e2, he2⟩ : ∃ e2, es ++ [⟨x.id, now, ca, x.ud, true⟩] = e2 := ⟨_, rfl⟩
        rw [he2] at f12
        obtain ⟨rx, ry, hrx, -⟩ := f12.slice
        rw [hrx] at f12 f14
        have R4 : Bx W4 (w.heap.size + 1) [.slice none 0 0, .slice none 0 0, .slice none 0 0, .slice none 0 0, .int .i64 0] := Rlw.bx_keepW R2.out KW ⟨by have := HX.out; omega, by omega⟩
        have O4 : OwnS svG 10 84 W4 W.heap.size (.slice sx ps.length sy) ps := Rlw.own_loc O2.out (fun kk e => KW.block kk ⟨(O2.out.lt kk e).2, by have := (O2.out.lt kk e).1; have := HW.out; omega⟩)
        have B4 : Hid (Below w.heap.size w W4) := ⟨KW.os.trans B2.out.os, KW.tape.trans B2.out.tape, KW.output.trans B2.out.output, Nat.le_trans B2.out.size KW.size, fun b hb => (KW.block b ⟨by have := HX.out; omega, by omega⟩).trans (B2.out.block b hb)⟩
        simp only [Rlw.putAll, Nat.zero_add, Nat.reduceAdd]
        clear KW
        go_simp
        go_wp2_with (first | (refine wpl_getT 41 rfl _ rfl _ rfl f14 _ Tryz.underlying41 rfl rfl ?_) | (refine wpl_putT 41 rfl _ _ rfl (w.heap.size + 1) _ rfl rfl R4 rfl rfl rfl ?_; intro W5 hw5 R5; have B5 : Hid (Below w.heap.size w W5) := (by rw [hw5]; exact below_cells (by omega) _ _ _ B4.out); have O5 : Hid (OwnS svG 10 84 W5 W.heap.size (.slice sx ps.length sy) ps) := (by rw [hw5]; exact own_cellsB (by have := HW.out; omega) _ _ _ O4); have Q5 : Hid (OwnS evG 5 134 W5 W2.heap.size (.slice rx e2.length ry) e2) := (by rw [hw5]; exact own_cellsB (by have := HX.out; omega) _ _ _ f12); clear hw5) | fail)
        refine bodyPost_ret (v := .agg #[.slice A.u h.us.length A.uc, .slice sx ps.length sy, .slice A.f h.fs.length A.fc, .slice rx e2.length ry, .int .i64 h.nx]) (results_cell Tryz.results74 (w.heap.size + 1) rfl R5 _ Tryz.underlying41 rfl rfl) rfl ?_
        have e9 : enR now ca h.es x = e2 := by unfold enR; rw [hes, if_pos h60, he2]
        have RK : ∀ z, z ∈ e2 → ReRok z := by
          intro z hz
          rw [← he2] at hz
          rcases List.mem_append.1 hz with h1 | h1
          · exact rw_okG (c := evG) (ok := ReRok) RR.out z h1
          · rw [List.mem_singleton] at h1
            subst h1
            exact ⟨hxok.1, int_wf9 (n := now) hn1.1 (Int.le_trans hn1.2 (by decide)), int_wf9 (n := ca) hc1.1 (Int.le_trans hc1.2 (by decide)), hxok.2.2.2.2.2.2.1⟩
        subst hps
        refine ⟨⟨A.u, sx, A.f, rx, A.uc, sy, A.fc, ry⟩, ?_, fun W9 hs9 hk9 => ?_, B5.out⟩
        · show _ = Ending.returned (.agg #[_, _, _, .slice rx (enR now ca h.es x).length ry, _])
          rw [e9]
          rfl
        · have h9 := HP.out W9 (Nat.le_trans B5.out.size hs9) (fun b hb hl => (hk9 b (.inl hb) (Nat.lt_of_lt_of_le hl B5.out.size)).trans (B5.out.block b hl))
          have o9 := Rlw.own_loc O5.out (fun kk e => hk9 kk (.inr (by have := (O5.out.lt kk e).1; have := HW.out; omega)) (O5.out.lt kk e).2)
          have q9 := Rlw.own_loc Q5.out (fun kk e => hk9 kk (.inr (by have := (Q5.out.lt kk e).1; have := HX.out; omega)) (Q5.out.lt kk e).2)
          refine ⟨h9.us, OwnS.src (ok := SeRok) o9 svG_len UK.out LS.out, h9.fs, ?_⟩
          show Src ReR 5 W9 rx (enR now ca h.es x).length ry (enR now ca h.es x)
          rw [e9]
          exact OwnS.src (ok := ReRok) q9 evG_len RK (by rw [← he2]; simp; omega)
    · have h60z : decide ((es.length : Int) < 60) = false := decide_eq_false (by omega)
      go_wp2_with (first | (refine wpl_getT 41 rfl _ rfl _ rfl G2.out _ Tryz.underlying41 rfl rfl ?_) | (refine wpl_putT 41 rfl _ _ rfl (w.heap.size + 1) _ rfl rfl R2.out rfl rfl rfl ?_; intro W5 hw5 R5; have B5 : Hid (Below w.heap.size w W5) := (by rw [hw5]; exact below_cells (by omega) _ _ _ B2.out); have O5 : Hid (OwnS svG 10 84 W5 W.heap.size (.slice sx ps.length sy) ps) := (by rw [hw5]; exact own_cellsB (by have := HW.out; omega) _ _ _ O2.out); clear hw5) | fail)
      refine bodyPost_ret (v := .agg #[.slice A.u h.us.length A.uc, .slice sx ps.length sy, .slice A.f h.fs.length A.fc, .slice ra es.length rc, .int .i64 h.nx]) (results_cell Tryz.results74 (w.heap.size + 1) rfl R5 _ Tryz.underlying41 rfl rfl) rfl ?_
      have e9 : enR now ca h.es x = es := by unfold enR; rw [hes, if_neg h60]
      subst hps
      refine ⟨⟨A.u, sx, A.f, ra, A.uc, sy, A.fc, rc⟩, ?_, fun W9 hs9 hk9 => ?_, B5.out⟩
      · show _ = Ending.returned (.agg #[_, _, _, .slice ra (enR now ca h.es x).length rc, _])
        rw [e9]
        rfl
      · have h9 := HP.out W9 (Nat.le_trans B5.out.size hs9) (fun b hb hl => (hk9 b (.inl hb) (Nat.lt_of_lt_of_le hl B5.out.size)).trans (B5.out.block b hl))
        have o9 := Rlw.own_loc O5.out (fun kk e => hk9 kk (.inr (by have := (O5.out.lt kk e).1; have := HW.out; omega)) (O5.out.lt kk e).2)
        refine ⟨h9.us, OwnS.src (ok := SeRok) o9 svG_len UK.out LS.out, h9.fs, ?_⟩
        show Src ReR 5 W9 ra (enR now ca h.es x).length rc (enR now ca h.es x)
        rw [e9]
        have e8 := h9.es
        rw [hra, hrc, hes] at e8
        exact e8

end Go.Proofs.YtmeejholckelgaaGreat
