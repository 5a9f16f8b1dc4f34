/- The program PacketBytes. -/
import Derived.Test.YtmhlanbmlkidhaaStructs
import Derived.Test.YtmhlanbmlkidhaaSum
namespace Go.Proofs.Ytmhlanbmlkidhaa
open Go.RowKit Go.PlainAid
set_option linter.unusedVariables false
set_option maxRecDepth 20000

/-- The ten bytes ahead of a packet's sum, and the eight behind it. -/
def packetA (pro ttl idn : Int) (body : ByteArray) : List Int := [69, 0] ++ nbl (20 + (body.size : Int)) 2 ++ nbl idn 2 ++ [0, 0, ttl, pro]
def packetB (src dst : Int) : List Int := nbl src 4 ++ nbl dst 4
def packetSum (src dst pro ttl idn : Int) (body : ByteArray) : Int := chkL (packetA pro ttl idn body ++ [0, 0] ++ packetB src dst)
def packetL (src dst pro ttl idn : Int) (body : ByteArray) : List Int := packetA pro ttl idn body ++ nbl (packetSum src dst pro ttl idn body) 2 ++ packetB src dst ++ nums body
theorem packetA_len (pro ttl idn : Int) (body : ByteArray) : (packetA pro ttl idn body).length = 10 := by simp [packetA, nbl_len]
theorem packetB_len (src dst : Int) : (packetB src dst).length = 8 := by simp [packetB, nbl_len]
theorem two_bd {a b : Int} (ha : 0 ≤ a ∧ a ≤ 255) (hb : 0 ≤ b ∧ b ≤ 255) : ∀ x ∈ [a, b], 0 ≤ x ∧ x ≤ 255 := by
  intro x hx; simp at hx; rcases hx with rfl | rfl <;> assumption
theorem four_bd {a b c d : Int} (ha : 0 ≤ a ∧ a ≤ 255) (hb : 0 ≤ b ∧ b ≤ 255) (hc : 0 ≤ c ∧ c ≤ 255) (hd : 0 ≤ d ∧ d ≤ 255) : ∀ x ∈ [a, b, c, d], 0 ≤ x ∧ x ≤ 255 := by
  intro x hx; simp at hx; rcases hx with rfl | rfl | rfl | rfl <;> assumption
theorem bdA {L M : List Int} (h : ∀ x ∈ L, 0 ≤ x ∧ x ≤ 255) (k : ∀ x ∈ M, 0 ≤ x ∧ x ≤ 255) : ∀ x ∈ L ++ M, 0 ≤ x ∧ x ≤ 255 := fun x hx => (List.mem_append.1 hx).elim (h x) (k x)
theorem packetA_bd (pro ttl idn : Int) (body : ByteArray) (h1 : 0 ≤ pro ∧ pro ≤ 255) (h2 : 0 ≤ ttl ∧ ttl ≤ 255) : ∀ x ∈ packetA pro ttl idn body, 0 ≤ x ∧ x ≤ 255 :=
  bdA (bdA (bdA (two_bd (by omega) (by omega)) (nbl_bd _ _)) (nbl_bd _ _)) (four_bd (by omega) (by omega) h2 h1)
theorem packetB_bd (src dst : Int) : ∀ x ∈ packetB src dst, 0 ≤ x ∧ x ≤ 255 := bdA (nbl_bd _ _) (nbl_bd _ _)
theorem over_mid (A N M R : List Int) (h : N.length = M.length) : over (A ++ N ++ R) A.length M = A ++ M ++ R := by
  have h1 : (A ++ N ++ R).take A.length = A := by rw [List.append_assoc, List.take_left]
  have h2 : (A ++ N ++ R).drop (A.length + M.length) = R := by rw [← h, ← List.length_append, List.drop_left]
  unfold over
  rw [h1, h2, List.append_assoc]

/-- What Check16 answers of a row of the call's own. -/
theorem check_own (v : Value) (L : List Int) (w : World) (B : Nat) (h : OwnL 5 w B v L) (hL : ∀ x ∈ L, 0 ≤ x ∧ x ≤ 255) (hl : L.length ≤ 65536) :
    Calls Try.prog 47 #[v] w fun e w' => e = .returned (.int .i64 (chkL L)) ∧ w' = w := by
  obtain ⟨a, cap, rfl, hb, _⟩ := h.slice hL
  exact check16_any a L.length cap _ w hb hl

set_option maxHeartbeats 4000000 in
theorem packetBytes_yes (src : Int) (dst : Int) (pro : Int) (ttl : Int) (idn : Int) (body : ByteArray) (w : World) (xsrc : src ≤ 9223372036854775807) (xdst : dst ≤ 9223372036854775807) (xpro : pro ≤ 9223372036854775807) (xttl : ttl ≤ 9223372036854775807) (xidn : idn ≤ 9223372036854775807) (xbody : body.size ≤ 1048576) (h : (0 ≤ src ∧ src ≤ 4294967295) ∧ (0 ≤ dst ∧ dst ≤ 4294967295) ∧ (0 ≤ pro ∧ pro ≤ 255) ∧ (0 ≤ ttl ∧ ttl ≤ 255) ∧ (0 ≤ idn ∧ idn ≤ 65535) ∧ (body.size ≤ 380)) :
    Calls Try.prog 16 #[.agg #[.int .i64 src, .int .i64 dst, .int .i64 pro, .int .i64 ttl, .int .i64 idn, .string body]] w fun e w' => ∃ v B, e = .returned (.tuple #[v, .int .i64 0]) ∧ OwnL 5 w' B v (packetL src dst pro ttl idn body) ∧ w.heap.size ≤ B ∧ Below w.heap.size w w' := by
  have H : Hid ((0 ≤ src ∧ src ≤ 4294967295) ∧ (0 ≤ dst ∧ dst ≤ 4294967295) ∧ (0 ≤ pro ∧ pro ≤ 255) ∧ (0 ≤ ttl ∧ ttl ≤ 255) ∧ (0 ≤ idn ∧ idn ≤ 65535) ∧ (body.size ≤ 380)) := h
  have hb := dec_y h
  have g0 := h.1.1
  have g1 := h.1.2
  have g2 := h.2.1.1
  have g3 := h.2.1.2
  have g4 := h.2.2.1.1
  have g5 := h.2.2.1.2
  have g6 := h.2.2.2.1.1
  have g7 := h.2.2.2.1.2
  have g8 := h.2.2.2.2.1.1
  have g9 := h.2.2.2.2.1.2
  have g10 := h.2.2.2.2.2
  clear h
  have LA := packetA_len pro ttl idn body
  have LB := packetB_len src dst
  go_enter Try.func16, Try.ntmps16
  go_wp2_with fail
  refine (packetOK_any src dst pro ttl idn body _ xsrc xdst xpro xttl xidn xbody).mono ?_
  rintro e w1 ⟨rfl, b1, z1⟩
  simp only [World.size_alloc] at z1
  have X : Hid (Boxed w1 w.heap.size [.int .i64 src, .int .i64 dst, .int .i64 pro, .int .i64 ttl, .int .i64 idn, .string body] ∧ Below w.heap.size w w1) :=
    ⟨(Boxed.new w _ _).below b1 (by simp), ((Below.refl _ _).alloc (Nat.le_refl _) _).trans (b1.mono (by simp))⟩
  clear b1
  have x5 := X.out.1.at 5 _ rfl
  obtain ⟨MC, hMC⟩ := make_room (20 + body.size) (by omega)
  have O0 : Hid (OwnL 5 (w1.alloc (.cells MC 5)) w1.heap.size (.slice (some ⟨w1.heap.size, 0, none⟩) 0 (20 + body.size)) []) := (hMC w1).2
  have hmk : (Instr.makeSlice 22 (.int .i64 0) (.int .i64 (20 + (body.size : Int)))).run Try.prog w1 = .ok (.slice (some ⟨w1.heap.size, 0, none⟩) 0 (20 + body.size)) (w1.alloc (.cells MC 5)) := by
    have := (hMC w1).1
    simpa using this
  clear hMC
  have B0 : Hid (Below w1.heap.size w1 (w1.alloc (.cells MC 5))) := (Below.refl _ _).alloc (Nat.le_refl _) _
  have N0 : Hid (Boxed ((w1.alloc (.cells MC 5)).alloc (.cells #[.int .u8 69, .int .u8 0] 5)) (w1.heap.size + 1) ([69, 0].map (Value.int .u8))) := by
    show Boxed _ _ _
    have := Boxed.new (w1.alloc (.cells MC 5)) ([69, 0].map (Value.int .u8)) 5
    simpa using this
  go_wp2_with (at_builtin; refine wpl_app _ rfl _ _ rfl w1.heap.size _ [] rfl (World.ownsRow.alloc O0.out _) ⟨w1.heap.size + 1, 0, none⟩ 2 2 [69, 0] rfl rfl (news_row N0.out) (by simp) (by simp; try omega) ?_)
  intro v1_ w1_ Y1
  have B1 : Hid (Below w1.heap.size w1 w1_) := (B0.out.alloc (by simp) _).trans Y1.out.below
  have z1_ := B1.out.size
  have j1_5 := (X.out.1.below B1.out (by omega)).at 5 _ rfl
  go_wp2_with fail
  refine (addNum v1_ _ (20 + (body.size : Int)) 2 _ w1.heap.size Y1.out.own (by omega) (by omega) (by omega) (by omega) (by simp; omega) (by omega) (by simp)).mono ?_
  rintro e w2_ ⟨v2_, rfl, Y2⟩
  have B2 : Hid (Below w1.heap.size w1 w2_) := B1.out.trans Y2.out.below
  have z2_ := B2.out.size
  clear j1_5
  have j2_4 := (X.out.1.below B2.out (by omega)).at 4 _ rfl
  go_wp2_with fail
  refine (addNum v2_ _ idn 2 _ w1.heap.size Y2.out.own (by omega) (by omega) (by omega) (by omega) (by simp; omega) (by omega) (by simp [nbl_len])).mono ?_
  rintro e w3_ ⟨v3_, rfl, Y3⟩
  have B3 : Hid (Below w1.heap.size w1 w3_) := B2.out.trans Y3.out.below
  have z3_ := B3.out.size
  clear j2_4
  have j3_3 := (X.out.1.below B3.out (by omega)).at 3 _ rfl
  have j3_2 := (X.out.1.below B3.out (by omega)).at 2 _ rfl
  have N3 : Hid (Boxed (w3_.alloc (.cells #[.int .u8 0, .int .u8 0, .int .u8 ttl, .int .u8 pro, .int .u8 0, .int .u8 0] 5)) (w3_.heap.size) ([0, 0, ttl, pro, 0, 0].map (Value.int .u8))) := by
    show Boxed _ _ _
    have := Boxed.new w3_ ([0, 0, ttl, pro, 0, 0].map (Value.int .u8)) 5
    simpa using this
  go_wp2_with (at_builtin; refine wpl_app _ rfl _ _ rfl w1.heap.size _ _ rfl (World.ownsRow.alloc Y3.out.own _) ⟨w3_.heap.size, 0, none⟩ 6 6 [0, 0, ttl, pro, 0, 0] rfl rfl (news_row N3.out) (by simp [nbl_len]) (by simp; try omega) ?_)
  intro v4_ w4_ Y4
  have B4 : Hid (Below w1.heap.size w1 w4_) := (B3.out.alloc (by omega) _).trans Y4.out.below
  have z4_ := B4.out.size
  clear j3_3 j3_2
  have j4_0 := (X.out.1.below B4.out (by omega)).at 0 _ rfl
  go_wp2_with fail
  refine (addNum v4_ _ src 4 _ w1.heap.size Y4.out.own (by omega) (by omega) (by omega) (by omega) (by simp; omega) (by omega) (by simp [nbl_len])).mono ?_
  rintro e w5_ ⟨v5_, rfl, Y5⟩
  have B5 : Hid (Below w1.heap.size w1 w5_) := B4.out.trans Y5.out.below
  have z5_ := B5.out.size
  clear j4_0
  have j5_1 := (X.out.1.below B5.out (by omega)).at 1 _ rfl
  go_wp2_with fail
  refine (addNum v5_ _ dst 4 _ w1.heap.size Y5.out.own (by omega) (by omega) (by omega) (by omega) (by simp; omega) (by omega) (by simp [nbl_len])).mono ?_
  rintro e w6_ ⟨v6_, rfl, Y6⟩
  have B6 : Hid (Below w1.heap.size w1 w6_) := B5.out.trans Y6.out.below
  have z6_ := B6.out.size
  clear j5_1
  have O6 : Hid (OwnL 5 w6_ w1.heap.size v6_ (packetA pro ttl idn body ++ [0, 0] ++ packetB src dst)) := by
    show OwnL _ _ _ _ _
    have := Y6.out.own
    simpa [packetA, packetB] using this
  have hbd := bdA (bdA (packetA_bd pro ttl idn body ⟨g4, g5⟩ ⟨g6, g7⟩) (two_bd (a := 0) (b := 0) (by omega) (by omega))) (packetB_bd src dst)
  have hsm := chkL_bd _ hbd
  have HBD : Hid (∀ x ∈ packetA pro ttl idn body ++ [0, 0] ++ packetB src dst, 0 ≤ x ∧ x ≤ 255) := hbd
  clear hbd
  obtain ⟨sm, hsmE⟩ : ∃ sm, sm = packetSum src dst pro ttl idn body := ⟨_, rfl⟩
  have sm0 : 0 ≤ sm := by rw [hsmE]; exact hsm.1
  have sm1 : sm ≤ 65535 := by rw [hsmE]; exact hsm.2
  have HSM : Hid (sm = packetSum src dst pro ttl idn body) := hsmE
  clear hsm hsmE
  go_wp2_with fail
  refine (check_own v6_ _ w6_ _ O6.out HBD.out (by simp [LA, LB])).mono ?_
  rintro e w7 ⟨rfl, hw7⟩
  obtain rfl := hw7.symm
  clear hw7
  have hsm2 : chkL (packetA pro ttl idn body ++ [0, 0] ++ packetB src dst) = sm := HSM.out.symm
  rw [hsm2]
  clear hsm2
  go_wp2_with fail
  refine (setNum v6_ _ 10 sm 2 w6_ w1.heap.size O6.out (by omega) (by simp [LA, LB]) (by omega) (by omega) sm0 (by simp; omega) (by omega) (by simp [LA, LB])).mono ?_
  rintro e w7_ ⟨rfl, Y7⟩
  have eO : over (packetA pro ttl idn body ++ [0, 0] ++ packetB src dst) 10 (nbl sm 2) = packetA pro ttl idn body ++ nbl sm 2 ++ packetB src dst := by
    have := over_mid (packetA pro ttl idn body) [0, 0] (nbl sm 2) (packetB src dst) (by simp [nbl_len])
    rwa [LA] at this
  have Z7 : Hid (Laid w6_ w7_ w1.heap.size v6_ (packetA pro ttl idn body ++ nbl sm 2 ++ packetB src dst)) := by
    have := Y7.out
    rw [eO] at this
    exact this
  clear eO Y7
  have B7 : Hid (Below w1.heap.size w1 w7_) := B6.out.trans Z7.out.below
  have z7_ := B7.out.size
  have j5 := (X.out.1.below B7.out (by omega)).at 5 _ rfl
  go_wp2_with (at_builtin; refine wpl_str _ rfl _ _ rfl w1.heap.size _ _ rfl Z7.out.own body rfl (by simp [LA, LB, nbl_len]; omega) (by omega) ?_)
  intro v8_ w8_ Y8
  go_wp2
  go_ret2
  refine ⟨v8_, w1.heap.size, rfl, ?_, by omega, X.out.2.trans ((B7.out.trans Y8.out.below).mono (by omega))⟩
  have := Y8.out.own
  rw [HSM.out] at this
  exact this

set_option maxHeartbeats 1000000 in
theorem packetBytes_no (src : Int) (dst : Int) (pro : Int) (ttl : Int) (idn : Int) (body : ByteArray) (w : World) (xsrc : src ≤ 9223372036854775807) (xdst : dst ≤ 9223372036854775807) (xpro : pro ≤ 9223372036854775807) (xttl : ttl ≤ 9223372036854775807) (xidn : idn ≤ 9223372036854775807) (xbody : body.size ≤ 1048576) (h : ¬ ((0 ≤ src ∧ src ≤ 4294967295) ∧ (0 ≤ dst ∧ dst ≤ 4294967295) ∧ (0 ≤ pro ∧ pro ≤ 255) ∧ (0 ≤ ttl ∧ ttl ≤ 255) ∧ (0 ≤ idn ∧ idn ≤ 65535) ∧ (body.size ≤ 380))) :
    Calls Try.prog 16 #[.agg #[.int .i64 src, .int .i64 dst, .int .i64 pro, .int .i64 ttl, .int .i64 idn, .string body]] w fun e w' => e = .returned (.tuple #[.slice none 0 0, .int .i64 1]) ∧ Below w.heap.size w w' := by
  have hb := dec_n h
  clear h
  go_enter Try.func16, Try.ntmps16
  go_wp2_with fail
  refine (packetOK_any src dst pro ttl idn body _ xsrc xdst xpro xttl xidn xbody).mono ?_
  rintro e w1 ⟨rfl, b1, z1⟩
  have X : Hid (Below w.heap.size w w1) := ((Below.refl _ _).alloc (Nat.le_refl _) _).trans (b1.mono (by simp))
  clear b1 z1
  go_wp2
  go_ret2
  exact ⟨rfl, X.out⟩
end Go.Proofs.Ytmhlanbmlkidhaa
