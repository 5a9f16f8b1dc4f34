/- ReadDhcp, the model, and both. -/
import Derived.Test.YtdhjbbnggeamhacReadH
import Derived.Test.YtdhjbbnggeamhacDhcpS
import Derived.Test.YtdhjbbnggeamhacLawReadDhcp
namespace Go.Proofs.Ytdhjbbnggeamhac
open Go.RowKit Go.PlainAid
set_option linter.unusedVariables false
set_option maxRecDepth 20000

theorem specInD (n lo hi : Int) (w : World) : Calls Try.prog 16 #[.int .i64 n, .int .i64 lo, .int .i64 hi] w fun e w' => e = .returned (.bool (dec (lo ≤ n ∧ n ≤ hi))) ∧ w' = w := l01In_any n lo hi w
theorem l03ReadDh_form (s : ByteArray) (w : World) (hs : s.size ≤ 65536) (h : s.size < 240) :
    Calls Try.prog 9 #[.string s] w fun e w' => e = .returned (.tuple #[.agg #[.int .i64 0, .int .i64 0, .int .i64 0, .bool false, .string ⟨#[]⟩], .int .i64 3]) ∧ Below w.heap.size w w' := by
  go_enter Try.func9, Try.ntmps9
  go_wp2
  go_returns
  exact ⟨rfl, (Below.refl _ _).alloc (Nat.le_refl _) _⟩

set_option maxHeartbeats 1000000 in
theorem l03ReadDh_head (f : Nat → Int) (hf : ∀ k, 0 ≤ f k ∧ f k ≤ 255) (len : Nat) (w : World) (h240 : 240 ≤ len) (hl : len ≤ 65536) (hh : headB f = false) :
    Calls Try.prog 9 #[.string (strOf f len)] w fun e w' => e = .returned (.tuple #[.agg #[.int .i64 0, .int .i64 0, .int .i64 0, .bool false, .string ⟨#[]⟩], .int .i64 3]) ∧ Below w.heap.size w w' := by
  obtain ⟨s, hs⟩ : ∃ s, s = strOf f len := ⟨_, rfl⟩
  have hz0 : s.size = len := by rw [hs]; exact strOf_size _ _
  have hb := get_bt s
  have HBT : Hid (∀ i, i < len → bt s i = f i) := fun i hi => by rw [hs]; exact strOf_bt f len hf i hi
  have t0 : bt s 0 = f 0 := HBT.out 0 (by omega)
  obtain ⟨P1, p1⟩ : ∃ P, P = ps f 1 2 := ⟨_, rfl⟩
  obtain ⟨P2, p2⟩ : ∃ P, P = ps f 236 4 := ⟨_, rfl⟩
  obtain ⟨PM, pm⟩ : ∃ P, P = ps f 28 6 := ⟨_, rfl⟩
  have zPM : PM.size = 6 := by rw [pm]; exact ps_size _ _ _
  have e1 : s.extract 1 3 = P1 := by rw [hs, p1]; exact strOf_extract f hf len 1 3 (by omega) (by omega)
  have e2 : s.extract 236 240 = P2 := by rw [hs, p2]; exact strOf_extract f hf len 236 240 (by omega) (by omega)
  have e3 : s.extract 28 34 = PM := by rw [hs, pm]; exact strOf_extract f hf len 28 34 (by omega) (by omega)
  obtain ⟨A4, a4⟩ : ∃ P, P = ps f 4 4 := ⟨_, rfl⟩
  obtain ⟨o4, q4⟩ : ∃ o, o = pn f 4 4 := ⟨_, rfl⟩
  have ob4 := pn4 f hf 4
  rw [← q4] at ob4
  have ee4 : s.extract 4 8 = A4 := by rw [hs, a4]; exact strOf_extract f hf len 4 8 (by omega) (by omega)
  have HO4 : Hid (∀ wx : World, Calls Try.prog 17 #[.string A4] wx fun e w' => e = .returned (.int .i64 o4) ∧ w' = wx) := fun wx => by rw [a4, q4]; exact of_ps f hf 4 4 (by omega) wx
  obtain ⟨A16, a16⟩ : ∃ P, P = ps f 16 4 := ⟨_, rfl⟩
  obtain ⟨o16, q16⟩ : ∃ o, o = pn f 16 4 := ⟨_, rfl⟩
  have ob16 := pn4 f hf 16
  rw [← q16] at ob16
  have ee16 : s.extract 16 20 = A16 := by rw [hs, a16]; exact strOf_extract f hf len 16 20 (by omega) (by omega)
  have HO16 : Hid (∀ wx : World, Calls Try.prog 17 #[.string A16] wx fun e w' => e = .returned (.int .i64 o16) ∧ w' = wx) := fun wx => by rw [a16, q16]; exact of_ps f hf 16 4 (by omega) wx
  have b240 : decide ((len : Int) < 240) = false := by simp; omega
  have i3 : (3 : Int) ≤ (len : Int) := by omega
  have i8 : (8 : Int) ≤ (len : Int) := by omega
  have i20 : (20 : Int) ≤ (len : Int) := by omega
  have i34 : (34 : Int) ≤ (len : Int) := by omega
  have i240 : (240 : Int) ≤ (len : Int) := by omega
  have hw0 : IntKind.i64.wrap (f 0) = f 0 := by have := hf 0; rw [IntKind.wrap_i64]; omega
  have hh' : (((f 0 == 1) || (f 0 == 2)) && (P1.toList == ([1, 6] : List UInt8)) && (P2.toList == ([99, 130, 83, 99] : List UInt8))) = false := by rw [p1, p2]; exact hh
  rw [← hs]
  clear hs p1 p2 pm a4 a16 q4 q16 hh
  by_cases h0 : 1 ≤ f 0 ∧ f 0 ≤ 2
  · have x0 : ((f 0 == 1) || (f 0 == 2)) = true := by
      rcases (show f 0 = 1 ∨ f 0 = 2 by omega) with h | h <;> rw [h] <;> rfl
    rw [x0, Bool.true_and] at hh'
    have d0 := dec_y h0
    clear x0 h0 hf
    cases x1 : (P1.toList == ([1, 6] : List UInt8))
    · clear hh'
      go_enter Try.func9, Try.ntmps9
      go_wp2_with fail
      refine (specInD _ _ _ _).mono ?_
      rintro e wt ⟨rfl, hwt⟩
      obtain rfl := hwt.symm
      clear hwt
      go_wp2
      go_returns
      exact ⟨rfl, (Below.refl _ _).alloc (Nat.le_refl _) _⟩
    · rw [x1, Bool.true_and] at hh'
      go_enter Try.func9, Try.ntmps9
      go_wp2_with fail
      refine (specInD _ _ _ _).mono ?_
      rintro e wt ⟨rfl, hwt⟩
      obtain rfl := hwt.symm
      clear hwt
      go_wp2
      go_returns
      exact ⟨rfl, (Below.refl _ _).alloc (Nat.le_refl _) _⟩
  · have d0 := dec_n h0
    clear h0 hf hh'
    go_enter Try.func9, Try.ntmps9
    go_wp2_with fail
    refine (specInD _ _ _ _).mono ?_
    rintro e wt ⟨rfl, hwt⟩
    obtain rfl := hwt.symm
    clear hwt
    go_wp2
    go_returns
    exact ⟨rfl, (Below.refl _ _).alloc (Nat.le_refl _) _⟩

/-- A reader of the model that writes into its struct. -/
def RdU (w : World) (cs ds : List Value) (W : World) : Prop := Slots W w.heap.size cs ∧ Slots W (w.heap.size + 1) ds ∧ Below w.heap.size w W ∧ w.heap.size + 1 < W.heap.size
theorem RdU.next {w : World} {cs ds : List Value} {W W' : World} (h : RdU w cs ds W) (b : Below W.heap.size W W') : RdU w cs ds W' :=
  ⟨h.1.below b (by have := h.2.2.2; omega), h.2.1.below b h.2.2.2, h.2.2.1.trans (b.mono (by have := h.2.2.2; omega)), Nat.lt_of_lt_of_le h.2.2.2 b.size⟩
theorem Slots.drew' {w : World} {q : Nat} {cs : List Value} (h : Slots w q cs) : Slots w.drew q cs := h
theorem RdU.a (w : World) (cs ds : List Value) (t u : TypeId) : RdU w cs ds ((w.alloc (.cells cs.toArray t)).alloc (.cells ds.toArray u)).drew := by
  have B1 : Below (w.alloc (.cells cs.toArray t)).heap.size (w.alloc (.cells cs.toArray t)) ((w.alloc (.cells cs.toArray t)).alloc (.cells ds.toArray u)) := (Below.refl _ _).alloc (Nat.le_refl _) _
  have h2 := Slots.new (w.alloc (.cells cs.toArray t)) ds u
  have h3 : Slots ((w.alloc (.cells cs.toArray t)).alloc (.cells ds.toArray u)) (w.heap.size + 1) ds := by simpa using h2
  exact ⟨(Slots.new w cs t).below B1.drew (by simp), h3.drew', (((Below.refl _ _).alloc (Nat.le_refl _) _).alloc (by simp) _).drew, by show _ < ((w.alloc _).alloc _).heap.size; simp⟩
theorem RdU.b (w : World) (cs ds : List Value) (t u : TypeId) : RdU w cs ds ((w.alloc (.cells cs.toArray t)).drew.alloc (.cells ds.toArray u)) := by
  have hz : (w.alloc (.cells cs.toArray t)).drew.heap.size = w.heap.size + 1 := by show (w.alloc _).heap.size = _; simp
  have B1 : Below (w.alloc (.cells cs.toArray t)).drew.heap.size (w.alloc (.cells cs.toArray t)).drew ((w.alloc (.cells cs.toArray t)).drew.alloc (.cells ds.toArray u)) := (Below.refl _ _).alloc (Nat.le_refl _) _
  have h2 := Slots.new (w.alloc (.cells cs.toArray t)).drew ds u
  rw [hz] at h2
  refine ⟨Slots.below (w := (w.alloc (.cells cs.toArray t)).drew) (Slots.new w cs t) B1 (by rw [hz]; omega), h2, ((Below.refl _ _).alloc (Nat.le_refl _) _).drew.alloc (by rw [hz]; omega) _, ?_⟩
  have : ((w.alloc (.cells cs.toArray t)).drew.alloc (.cells ds.toArray u)).heap.size = (w.alloc (.cells cs.toArray t)).drew.heap.size + 1 := by simp
  omega
/-- A field of the struct set. -/
theorem RdU.set {w : World} {cs ds : List Value} {W : World} (h : RdU w cs ds W) (i : Nat) (v : Value) (hi : i < ds.length) : RdU w cs (ds.set i v) (W.setCell ⟨w.heap.size + 1, i, none⟩ v) := by
  refine ⟨⟨fun j x hj => ?_, fun j => by simpa using h.1.2 j⟩, ⟨fun j x hj => ?_, fun j => by simpa using h.2.1.2 j⟩, h.2.2.1.setCell (by simp) _, by simpa using h.2.2.2⟩
  · rw [World.cell?_setCell_other _ _ _ _ (fun hh => by have := (Addr.mk.inj hh).1; omega)]
    exact h.1.1 j x hj
  · rw [List.getElem?_set] at hj
    split at hj
    · rename_i e
      subst e
      cases hj
      exact World.cell?_setCell_same _ _ _ (h.2.1.1 i _ (List.getElem?_eq_getElem hi))
    · rename_i e
      rw [World.cell?_setCell_other _ _ _ _ (fun hh => e (Addr.mk.inj hh).2.1)]
      exact h.2.1.1 j x hj

/-- A cut behind a piece of code that ends in one state. -/
theorem cut_at {P : Program} {c : Code} {Q' : Exit → Act → World → Prop} {I : World → Prop} {a : Act} {w : World} (A0 : Act) (h : c.wp P (fun e a W => match e with | .normal => a = A0 ∧ I W | _ => False) a w) (k : ∀ W, Hid (I W) → Q' .normal A0 W) : c.wp P Q' a w := by
  refine Code.wp_mono (fun e a W hq => ?_) h
  cases e with
  | normal => obtain ⟨rfl, hi⟩ := hq; exact k W hi
  | _ => exact hq.elim
/-- What the model answers: by the kind that is told last. -/
def LkD (R : Option Int) (o4 o16 : Int) (rp : Bool) (PM : ByteArray) (e : Ending) : Prop :=
  (∀ kd, R = some kd → 1 ≤ kd → kd ≤ 8 → e = .returned (.tuple #[.agg #[.int .i64 o4, .int .i64 o16, .int .i64 kd, .bool rp, .string PM], .int .i64 0])) ∧
  ((∀ kd, R = some kd → ¬ (1 ≤ kd ∧ kd ≤ 8)) → e = .returned (.tuple #[.agg #[.int .i64 0, .int .i64 0, .int .i64 0, .bool false, .string ⟨#[]⟩], .int .i64 3]))
theorem LkD.bad {R : Option Int} {o4 o16 : Int} {rp : Bool} {PM : ByteArray} (h : ∀ kd, R = some kd → ¬ (1 ≤ kd ∧ kd ≤ 8)) : LkD R o4 o16 rp PM (.returned (.tuple #[.agg #[.int .i64 0, .int .i64 0, .int .i64 0, .bool false, .string ⟨#[]⟩], .int .i64 3])) :=
  ⟨fun kd h1 h2 h3 => absurd ⟨h2, h3⟩ (h kd h1), fun _ => rfl⟩
theorem LkD.good {R : Option Int} {o4 o16 : Int} {rp : Bool} {PM : ByteArray} {kd : Int} (h : R = some kd) (h1 : 1 ≤ kd ∧ kd ≤ 8) : LkD R o4 o16 rp PM (.returned (.tuple #[.agg #[.int .i64 o4, .int .i64 o16, .int .i64 kd, .bool rp, .string PM], .int .i64 0])) :=
  ⟨fun kd' h' _ _ => by rw [h] at h'; cases h'; rfl, fun hh => absurd h1 (hh kd h)⟩

set_option maxHeartbeats 8000000 in
theorem l03ReadDh_read (f : Nat → Int) (hf : ∀ k, 0 ≤ f k ∧ f k ≤ 255) (len : Nat) (w : World) (h240 : 240 ≤ len) (hl : len ≤ 65536) (hh : headB f = true) :
    Calls Try.prog 9 #[.string (strOf f len)] w fun e w' => LkD (dk (len - 239) (len - 240) (fun j => f (240 + j)) 0) (pn f 4 4) (pn f 16 4) (f 0 == 2) (ps f 28 6) e ∧ Below w.heap.size w w' := by
  obtain ⟨s, hs⟩ : ∃ s, s = strOf f len := ⟨_, rfl⟩
  have hz0 : s.size = len := by rw [hs]; exact strOf_size _ _
  have hb := get_bt s
  have HBT : Hid (∀ i, i < len → bt s i = f i) := fun i hi => by rw [hs]; exact strOf_bt f len hf i hi
  have t0 : bt s 0 = f 0 := HBT.out 0 (by omega)
  obtain ⟨P1, p1⟩ : ∃ P, P = ps f 1 2 := ⟨_, rfl⟩
  obtain ⟨P2, p2⟩ : ∃ P, P = ps f 236 4 := ⟨_, rfl⟩
  obtain ⟨PM, pm⟩ : ∃ P, P = ps f 28 6 := ⟨_, rfl⟩
  have zPM : PM.size = 6 := by rw [pm]; exact ps_size _ _ _
  have e1 : s.extract 1 3 = P1 := by rw [hs, p1]; exact strOf_extract f hf len 1 3 (by omega) (by omega)
  have e2 : s.extract 236 240 = P2 := by rw [hs, p2]; exact strOf_extract f hf len 236 240 (by omega) (by omega)
  have e3 : s.extract 28 34 = PM := by rw [hs, pm]; exact strOf_extract f hf len 28 34 (by omega) (by omega)
  obtain ⟨A4, a4⟩ : ∃ P, P = ps f 4 4 := ⟨_, rfl⟩
  obtain ⟨o4, q4⟩ : ∃ o, o = pn f 4 4 := ⟨_, rfl⟩
  have ob4 := pn4 f hf 4
  rw [← q4] at ob4
  have ee4 : s.extract 4 8 = A4 := by rw [hs, a4]; exact strOf_extract f hf len 4 8 (by omega) (by omega)
  have HO4 : Hid (∀ wx : World, Calls Try.prog 17 #[.string A4] wx fun e w' => e = .returned (.int .i64 o4) ∧ w' = wx) := fun wx => by rw [a4, q4]; exact of_ps f hf 4 4 (by omega) wx
  obtain ⟨A16, a16⟩ : ∃ P, P = ps f 16 4 := ⟨_, rfl⟩
  obtain ⟨o16, q16⟩ : ∃ o, o = pn f 16 4 := ⟨_, rfl⟩
  have ob16 := pn4 f hf 16
  rw [← q16] at ob16
  have ee16 : s.extract 16 20 = A16 := by rw [hs, a16]; exact strOf_extract f hf len 16 20 (by omega) (by omega)
  have HO16 : Hid (∀ wx : World, Calls Try.prog 17 #[.string A16] wx fun e w' => e = .returned (.int .i64 o16) ∧ w' = wx) := fun wx => by rw [a16, q16]; exact of_ps f hf 16 4 (by omega) wx
  have b240 : decide ((len : Int) < 240) = false := by simp; omega
  have i3 : (3 : Int) ≤ (len : Int) := by omega
  have i8 : (8 : Int) ≤ (len : Int) := by omega
  have i20 : (20 : Int) ≤ (len : Int) := by omega
  have i34 : (34 : Int) ≤ (len : Int) := by omega
  have i240 : (240 : Int) ≤ (len : Int) := by omega
  have hw0 : IntKind.i64.wrap (f 0) = f 0 := by have := hf 0; rw [IntKind.wrap_i64]; omega
  have hh' : (((f 0 == 1) || (f 0 == 2)) && (P1.toList == ([1, 6] : List UInt8)) && (P2.toList == ([99, 130, 83, 99] : List UInt8))) = true := by rw [p1, p2]; exact hh
  simp only [Bool.and_eq_true, Bool.or_eq_true] at hh'
  obtain ⟨⟨x0, x1⟩, x2⟩ := hh'
  have d0 := dec_y (show 1 ≤ f 0 ∧ f 0 ≤ 2 by simp at x0; omega)
  obtain ⟨R, hR⟩ : ∃ R, R = dk (len - 239) (len - 240) (fun j => f (240 + j)) 0 := ⟨_, rfl⟩
  obtain ⟨rp, hrp⟩ : ∃ r, r = (f 0 == 2) := ⟨_, rfl⟩
  have hrp' := hrp.symm
  have HR : Hid (dk (len - 239) (len - 240) (fun j => f (240 + j)) 0 = R) := hR.symm
  have HF : Hid (∀ k, 0 ≤ f k ∧ f k ≤ 255) := hf
  have HT : Hid (∀ (kd : Int) (wx : World), kd ≤ 255 → Calls Try.prog 18 #[.agg #[.int .i64 o4, .int .i64 o16, .int .i64 kd, .bool rp, .string PM]] wx fun e w' => e = .returned (.bool (dec (1 ≤ kd ∧ kd ≤ 8))) ∧ Below wx.heap.size wx w') := fun kd wx hk => by
    refine (l03Dhcp_any o4 o16 kd rp PM wx (by omega) (by omega) (by omega) (by omega)).mono fun e w' hh => ⟨?_, hh.2.1⟩
    rw [hh.1]
    congr 2
    unfold dec
    rw [decide_eq_decide]
    constructor
    · exact fun h => h.2.2.1
    · exact fun h => ⟨ob4, ob16, h, zPM⟩
  rw [← hs, ← hR, ← q4, ← q16, ← hrp, ← pm]
  clear hs p1 p2 pm a4 a16 q4 q16 hh hR hrp x0 hf ob4 ob16
  have G1 : Hid (RdU w [.int .i64 0, .int .i64 0, .int .i64 0, .bool false, .string ⟨#[]⟩] [.int .i64 o4, .int .i64 o16, .int .i64 0, .bool rp, .string PM] ((w.alloc (.cells #[.int .i64 0, .int .i64 0, .int .i64 0, .bool false, .string ⟨#[]⟩] 24)).alloc (.cells #[.int .i64 o4, .int .i64 o16, .int .i64 0, .bool rp, .string PM] 24)).drew) := RdU.a w _ _ _ _
  have G2 : Hid (RdU w [.int .i64 0, .int .i64 0, .int .i64 0, .bool false, .string ⟨#[]⟩] [.int .i64 o4, .int .i64 o16, .int .i64 0, .bool rp, .string PM] ((w.alloc (.cells #[.int .i64 0, .int .i64 0, .int .i64 0, .bool false, .string ⟨#[]⟩] 24)).drew.alloc (.cells #[.int .i64 o4, .int .i64 o16, .int .i64 0, .bool rp, .string PM] 24))) := RdU.b w _ _ _ _
  go_enter Try.func9, Try.ntmps9
  go_wp2_with fail
  refine (specInD _ _ _ _).mono ?_
  rintro e wt ⟨rfl, hwt⟩
  obtain rfl := hwt.symm
  clear hwt
  go_wp2
  apply cut_at (I := fun W => RdU w [.int .i64 0, .int .i64 0, .int .i64 0, .bool false, .string ⟨#[]⟩] [.int .i64 o4, .int .i64 o16, .int .i64 0, .bool rp, .string PM] W)
  case h =>
   go_region_held3 (fun _ => True) (trivial)
    (first | (go_at_call 17; (with_reducible refine (HO4.out _).mono ?_); rintro e w1 ⟨rfl, rfl⟩) | (go_at_call 17; (with_reducible refine (HO16.out _).mono ?_); rintro e w1 ⟨rfl, rfl⟩))
   all_goals
    (try dsimp only)
    exact ⟨rfl, by first | exact G1.out | exact G2.out⟩
  case k =>
    intro W X0
    clear G1 G2 HO4 HO16 e1 e2 e3 ee4 ee16 i3 i8 i20 i34 i240 x1 x2 b240
    go_wp2
    go_loopw [5] (fun atv wr => ∃ (p : Nat) (kd : Int) (fu : Nat), atv = .int .i64 p ∧ 240 ≤ p ∧ p ≤ len ∧ RdU w [.int .i64 0, .int .i64 0, .int .i64 0, .bool false, .string ⟨#[]⟩] [.int .i64 o4, .int .i64 o16, .int .i64 kd, .bool rp, .string PM] wr ∧ len - p < fu ∧ kd ≤ 255 ∧ dk fu (len - p) (fun j => f (p + j)) kd = R) (fun atv _ => len - (intOf atv).toNat)
    case atStart => exact ⟨240, 0, len - 239, rfl, Nat.le_refl _, h240, X0.out, by omega, by omega, HR.out⟩
    case round =>
      obtain ⟨p, kd, fu, rfl, hp1, hp2, hU, hfu, hkd, hD⟩ := hrel
      have X : Hid (RdU w [.int .i64 0, .int .i64 0, .int .i64 0, .bool false, .string ⟨#[]⟩] [.int .i64 o4, .int .i64 o16, .int .i64 kd, .bool rp, .string PM] wr ∧ dk fu (len - p) (fun j => f (p + j)) kd = R) := ⟨hU, hD⟩
      clear hU hD X0 HR
      obtain ⟨fx, rfl⟩ : ∃ fx, fu = fx + 1 := ⟨fu - 1, by omega⟩
      by_cases hend : p = len
      · subst hend
        have HN : Hid (∀ kd', R = some kd' → ¬ (1 ≤ kd' ∧ kd' ≤ 8)) := fun kd' h' => by
          rw [← X.out.2, show p - p = 0 by omega, dk_0] at h'
          cases h'
        have k0 := X.out.1.1.1.at 0 _ rfl
        have y0 := X.out.1.1.2 0
        have k1 := X.out.1.1.1.at 1 _ rfl
        have y1 := X.out.1.1.2 1
        have k2 := X.out.1.1.1.at 2 _ rfl
        have y2 := X.out.1.1.2 2
        have k3 := X.out.1.1.1.at 3 _ rfl
        have y3 := X.out.1.1.2 3
        have k4 := X.out.1.1.1.at 4 _ rfl
        have y4 := X.out.1.1.2 4
        go_wp2
        (try simp only [Exit.inBlock, Exit.then])
        refine bodyPost_ret (v := .tuple #[.agg #[.int .i64 0, .int .i64 0, .int .i64 0, .bool false, .string ⟨#[]⟩], .int .i64 3]) (by simp [results, Try.results9, go_sem, *]; try rfl) rfl ?_
        exact ⟨LkD.bad HN.out, ((((X.out.1.2.2.1.setCell (by simp) _).setCell (by simp) _).setCell (by simp) _).setCell (by simp) _).setCell (by simp) _⟩
      · obtain ⟨c, hc⟩ : ∃ c, c = f p := ⟨_, rfl⟩
        have tp : bt s p = c := by rw [hc]; exact HBT.out p (by omega)
        have hcb := HF.out p
        rw [← hc] at hcb
        have HC : Hid ((fun j => f (p + j)) 0 = c) := hc.symm
        have hlt : p < len := by omega
        clear hc hend
        by_cases c255 : c = 255
        · have HY : Hid (R = some kd) := by show R = _; rw [← X.out.2]; exact dk_end fx _ _ kd (by omega) (HC.out.trans c255)
          subst c255
          have j0 := X.out.1.2.1.1.at 0 _ rfl
          have j1 := X.out.1.2.1.1.at 1 _ rfl
          have j2 := X.out.1.2.1.1.at 2 _ rfl
          have j3 := X.out.1.2.1.1.at 3 _ rfl
          have j4 := X.out.1.2.1.1.at 4 _ rfl
          go_wp2_with fail
          refine (HT.out kd _ hkd).mono ?_
          rintro e w2 ⟨he, b2⟩
          have X2 : Hid (RdU w [.int .i64 0, .int .i64 0, .int .i64 0, .bool false, .string ⟨#[]⟩] [.int .i64 o4, .int .i64 o16, .int .i64 kd, .bool rp, .string PM] w2) := RdU.next X.out.1 b2
          clear b2 j0 j1 j2 j3 j4
          have k0 := X2.out.1.1.at 0 _ rfl
          have y0 := X2.out.1.2 0
          have j0 := X2.out.2.1.1.at 0 _ rfl
          have k1 := X2.out.1.1.at 1 _ rfl
          have y1 := X2.out.1.2 1
          have j1 := X2.out.2.1.1.at 1 _ rfl
          have k2 := X2.out.1.1.at 2 _ rfl
          have y2 := X2.out.1.2 2
          have j2 := X2.out.2.1.1.at 2 _ rfl
          have k3 := X2.out.1.1.at 3 _ rfl
          have y3 := X2.out.1.2 3
          have j3 := X2.out.2.1.1.at 3 _ rfl
          have k4 := X2.out.1.1.at 4 _ rfl
          have y4 := X2.out.1.2 4
          have j4 := X2.out.2.1.1.at 4 _ rfl
          by_cases hk : 1 ≤ kd ∧ kd ≤ 8
          · rw [dec_y hk] at he
            subst he
            have HK : Hid (1 ≤ kd ∧ kd ≤ 8) := hk
            clear hk
            go_wp2
            (try simp only [Exit.inBlock, Exit.then])
            refine bodyPost_ret (v := .tuple #[.agg #[.int .i64 o4, .int .i64 o16, .int .i64 kd, .bool rp, .string PM], .int .i64 0]) (by simp [results, Try.results9, go_sem, *]; try rfl) rfl ?_
            exact ⟨LkD.good HY.out HK.out, ((((X2.out.2.2.1.setCell (by simp) _).setCell (by simp) _).setCell (by simp) _).setCell (by simp) _).setCell (by simp) _⟩
          · rw [dec_n hk] at he
            subst he
            have HK : Hid (¬ (1 ≤ kd ∧ kd ≤ 8)) := hk
            clear hk
            go_wp2
            (try simp only [Exit.inBlock, Exit.then])
            refine bodyPost_ret (v := .tuple #[.agg #[.int .i64 0, .int .i64 0, .int .i64 0, .bool false, .string ⟨#[]⟩], .int .i64 3]) (by simp [results, Try.results9, go_sem, *]; try rfl) rfl ?_
            exact ⟨LkD.bad (fun kd' h' => by rw [HY.out] at h'; cases h'; exact HK.out), ((((X2.out.2.2.1.setCell (by simp) _).setCell (by simp) _).setCell (by simp) _).setCell (by simp) _).setCell (by simp) _⟩
        · have b255 : (c == 255) = false := beq_eq_false_iff_ne.2 c255
          have C255 : Hid (c ≠ 255) := c255
          clear c255
          by_cases c0 : c = 0
          · have HN2 : Hid (dk fx (len - (p + 1)) (fun j => f (p + 1 + j)) kd = R) := by
              show _ = _
              rw [← X.out.2, dk_nought fx (len - p) _ kd (by omega) (HC.out.trans c0)]
              rw [show len - (p + 1) = len - p - 1 by omega]
              congr 1
              funext j
              show f (p + 1 + j) = f (p + (1 + j))
              congr 1
              omega
            subst c0
            go_wp2
            go_roundw
            case rel => exact ⟨p + 1, kd, fx, by go_num, by omega, by omega, X.out.1, by omega, hkd, HN2.out⟩
            case measure => simp [intOf]; omega
          · have b0 : (c == 0) = false := beq_eq_false_iff_ne.2 c0
            have C0 : Hid (c ≠ 0) := c0
            clear c0
            by_cases h2 : p + 1 < len
            · obtain ⟨v, hv⟩ : ∃ v : Nat, (v : Int) = f (p + 1) := ⟨(f (p + 1)).toNat, by have := HF.out (p + 1); omega⟩
              have tq : bt s (p + 1) = (v : Int) := by rw [hv]; exact HBT.out (p + 1) (by omega)
              have hvb : v ≤ 255 := by have := HF.out (p + 1); omega
              have HV : Hid ((v : Int) = (fun j => f (p + j)) 1) := hv
              have hwv : IntKind.i64.wrap (v : Int) = (v : Int) := by rw [IntKind.wrap_i64]; omega
              clear hv
              by_cases hfit : p + 2 + v ≤ len
              · by_cases c53 : c = 53
                · by_cases v1 : v = 1
                  · obtain ⟨k2, hk2⟩ : ∃ k2, k2 = f (p + 2) := ⟨_, rfl⟩
                    have hk2b := HF.out (p + 2)
                    rw [← hk2] at hk2b
                    have t2 : bt s (p + 2) = k2 := by rw [hk2]; exact HBT.out (p + 2) (by omega)
                    have hwk : IntKind.i64.wrap k2 = k2 := by rw [IntKind.wrap_i64]; omega
                    have HN2 : Hid (dk fx (len - (p + 3)) (fun j => f (p + 3 + j)) k2 = R) := by
                      show _ = _
                      rw [← X.out.2, dk_kind fx (len - p) _ kd (by omega) (HC.out.trans c53) (HV.out.symm.trans (by rw [v1]; rfl)), hk2]
                      rw [show len - (p + 3) = len - p - 3 by omega]
                      congr 1
                      funext j
                      show f (p + 3 + j) = f (p + (3 + j))
                      congr 1
                      omega
                    have XS : Hid (RdU w [.int .i64 0, .int .i64 0, .int .i64 0, .bool false, .string ⟨#[]⟩] [.int .i64 o4, .int .i64 o16, .int .i64 k2, .bool rp, .string PM] (wr.setCell ⟨w.heap.size + 1, 2, none⟩ (.int .i64 k2))) := X.out.1.set 2 _ (by simp)
                    subst c53 v1
                    clear hk2
                    have j2 := X.out.1.2.1.1.at 2 _ rfl
                    have f2 := X.out.1.2.1.2 2
                    go_wp2
                    go_roundw
                    case rel => exact ⟨p + 3, k2, fx, by go_num, by omega, by omega, XS.out, by omega, by omega, HN2.out⟩
                    case measure => simp [intOf]; omega
                  · have n1 : ((v : Int) != 1) = true := by simp; omega
                    have HN : Hid (∀ kd', R = some kd' → ¬ (1 ≤ kd' ∧ kd' ≤ 8)) := fun kd' h' => by
                      rw [← X.out.2, dk_bad fx _ _ kd (HC.out.trans c53) (fun h => by have := HV.out.trans h; omega)] at h'
                      cases h'
                    have k0 := X.out.1.1.1.at 0 _ rfl
                    have y0 := X.out.1.1.2 0
                    have k1 := X.out.1.1.1.at 1 _ rfl
                    have y1 := X.out.1.1.2 1
                    have k2 := X.out.1.1.1.at 2 _ rfl
                    have y2 := X.out.1.1.2 2
                    have k3 := X.out.1.1.1.at 3 _ rfl
                    have y3 := X.out.1.1.2 3
                    have k4 := X.out.1.1.1.at 4 _ rfl
                    have y4 := X.out.1.1.2 4
                    subst c53
                    go_wp2
                    (try simp only [Exit.inBlock, Exit.then])
                    refine bodyPost_ret (v := .tuple #[.agg #[.int .i64 0, .int .i64 0, .int .i64 0, .bool false, .string ⟨#[]⟩], .int .i64 3]) (by simp [results, Try.results9, go_sem, *]; try rfl) rfl ?_
                    exact ⟨LkD.bad HN.out, ((((X.out.1.2.2.1.setCell (by simp) _).setCell (by simp) _).setCell (by simp) _).setCell (by simp) _).setCell (by simp) _⟩
                · have b53 : (c == 53) = false := beq_eq_false_iff_ne.2 c53
                  have HN2 : Hid (dk fx (len - (p + 2 + v)) (fun j => f (p + 2 + v + j)) kd = R) := by
                    show _ = _
                    rw [← X.out.2, dk_other fx (len - p) _ kd v HV.out (by omega) (fun h => C0.out (HC.out.symm.trans h)) (fun h => C255.out (HC.out.symm.trans h)) (fun h => c53 (HC.out.symm.trans h))]
                    rw [show len - (p + 2 + v) = len - p - 2 - v by omega]
                    congr 1
                    funext j
                    show f (p + 2 + v + j) = f (p + (2 + v + j))
                    congr 1
                    omega
                  clear c53
                  go_wp2
                  go_roundw
                  case rel => exact ⟨p + 2 + v, kd, fx, by go_num, by omega, by omega, X.out.1, by omega, hkd, HN2.out⟩
                  case measure => simp [intOf]; omega
              · have HN : Hid (∀ kd', R = some kd' → ¬ (1 ≤ kd' ∧ kd' ≤ 8)) := fun kd' h' => by
                  rw [← X.out.2, dk_short fx _ _ kd (fun h => C0.out (HC.out.symm.trans h)) (fun h => C255.out (HC.out.symm.trans h)) (.inr (by show _ < 2 + f (p + 1); have : (v : Int) = f (p + 1) := HV.out; omega))] at h'
                  cases h'
                have k0 := X.out.1.1.1.at 0 _ rfl
                have y0 := X.out.1.1.2 0
                have k1 := X.out.1.1.1.at 1 _ rfl
                have y1 := X.out.1.1.2 1
                have k2 := X.out.1.1.1.at 2 _ rfl
                have y2 := X.out.1.1.2 2
                have k3 := X.out.1.1.1.at 3 _ rfl
                have y3 := X.out.1.1.2 3
                have k4 := X.out.1.1.1.at 4 _ rfl
                have y4 := X.out.1.1.2 4
                go_wp2
                (try simp only [Exit.inBlock, Exit.then])
                refine bodyPost_ret (v := .tuple #[.agg #[.int .i64 0, .int .i64 0, .int .i64 0, .bool false, .string ⟨#[]⟩], .int .i64 3]) (by simp [results, Try.results9, go_sem, *]; try rfl) rfl ?_
                exact ⟨LkD.bad HN.out, ((((X.out.1.2.2.1.setCell (by simp) _).setCell (by simp) _).setCell (by simp) _).setCell (by simp) _).setCell (by simp) _⟩
            · have HN : Hid (∀ kd', R = some kd' → ¬ (1 ≤ kd' ∧ kd' ≤ 8)) := fun kd' h' => by
                rw [← X.out.2, dk_short fx _ _ kd (fun h => C0.out (HC.out.symm.trans h)) (fun h => C255.out (HC.out.symm.trans h)) (.inl (by omega))] at h'
                cases h'
              have k0 := X.out.1.1.1.at 0 _ rfl
              have y0 := X.out.1.1.2 0
              have k1 := X.out.1.1.1.at 1 _ rfl
              have y1 := X.out.1.1.2 1
              have k2 := X.out.1.1.1.at 2 _ rfl
              have y2 := X.out.1.1.2 2
              have k3 := X.out.1.1.1.at 3 _ rfl
              have y3 := X.out.1.1.2 3
              have k4 := X.out.1.1.1.at 4 _ rfl
              have y4 := X.out.1.1.2 4
              go_wp2
              (try simp only [Exit.inBlock, Exit.then])
              refine bodyPost_ret (v := .tuple #[.agg #[.int .i64 0, .int .i64 0, .int .i64 0, .bool false, .string ⟨#[]⟩], .int .i64 3]) (by simp [results, Try.results9, go_sem, *]; try rfl) rfl ?_
              exact ⟨LkD.bad HN.out, ((((X.out.1.2.2.1.setCell (by simp) _).setCell (by simp) _).setCell (by simp) _).setCell (by simp) _).setCell (by simp) _⟩
end Go.Proofs.Ytdhjbbnggeamhac
