/- The model's l04Hash and Hash. The contracts of impl.Check16, spec.l01Sum16 and spec.Check16: each answers the folded sum of the bytes, 0 above 65536 of them, and turns nothing. The walk of laws.FnExactCheck16: it answers true at every row of bytes, and turns nothing that was there. The walk of laws.FnExactHash: it answers true at every row of bytes where the two tables lie in their variables, and turns nothing that was there. PassHash, the program's and the model's; the walk of its law. Login, as pure words. Nothing of the program is used. The first login of a user, worked out. Regions by resources: the same in fewer words. Nothing of the program is used. Rules and places copied and compared by the laws; the walk of laws.FnExactRuleOK. Lists of rules and roles in the laws: szRuleS, toRuleS, eqRuleS, szRole, toRole, eqRole; the walk of laws.FnExactRoleOK. -/
import Derived.Test.YtnlepjcjakghcaaGreatDoorJ12
import Derived.Deep.AppendLies
import Derived.Test.YtnlepjcjakghcaaGreatDoorJ11
import Derived.Lib.Bytealg
namespace Go.Proofs.YtnlepjcjakghcaaGreatDoor
open Go.RowKit Go.PlainAid
set_option linter.unusedVariables false
set_option maxRecDepth 20000

theorem kk_list : words KK 64 = [.int .u32 1116352408, .int .u32 1899447441, .int .u32 3049323471, .int .u32 3921009573, .int .u32 961987163, .int .u32 1508970993, .int .u32 2453635748, .int .u32 2870763221, .int .u32 3624381080, .int .u32 310598401, .int .u32 607225278, .int .u32 1426881987, .int .u32 1925078388, .int .u32 2162078206, .int .u32 2614888103, .int .u32 3248222580, .int .u32 3835390401, .int .u32 4022224774, .int .u32 264347078, .int .u32 604807628, .int .u32 770255983, .int .u32 1249150122, .int .u32 1555081692, .int .u32 1996064986, .int .u32 2554220882, .int .u32 2821834349, .int .u32 2952996808, .int .u32 3210313671, .int .u32 3336571891, .int .u32 3584528711, .int .u32 113926993, .int .u32 338241895, .int .u32 666307205, .int .u32 773529912, .int .u32 1294757372, .int .u32 1396182291, .int .u32 1695183700, .int .u32 1986661051, .int .u32 2177026350, .int .u32 2456956037, .int .u32 2730485921, .int .u32 2820302411, .int .u32 3259730800, .int .u32 3345764771, .int .u32 3516065817, .int .u32 3600352804, .int .u32 4094571909, .int .u32 275423344, .int .u32 430227734, .int .u32 506948616, .int .u32 659060556, .int .u32 883997877, .int .u32 958139571, .int .u32 1322822218, .int .u32 1537002063, .int .u32 1747873779, .int .u32 1955562222, .int .u32 2024104815, .int .u32 2227730452, .int .u32 2361852424, .int .u32 2428436474, .int .u32 2756734187, .int .u32 3204031479, .int .u32 3329325298] := by kernel_rfl
theorem l04Consts_any (w : World) : Calls Tryz.prog 83 #[] w fun e w' => e = .returned (.slice (some ⟨w.heap.size, 0, none⟩) 64 64) ∧ Below w.heap.size w w' ∧ w.heap.size < w'.heap.size ∧ ∀ i, i < 64 → w'.cell? ⟨w.heap.size, i, none⟩ = some (.int .u32 (KK i)) := by
  go_enter Tryz.func83, Tryz.ntmps83
  go_wp2
  go_ret
  refine ⟨rfl, (Below.refl _ _).alloc (Nat.le_refl _) _, by simp, fun i hi => ?_⟩
  rw [World.cell?_alloc_new]
  have := words_at KK 64 i hi
  rw [kk_list] at this
  simpa using this

/-- A row of one's own as a row of bytes. -/
theorem rowS_of {w : World} {B : Nat} {v : Value} {L : List Int} (O : OwnL 5 w B v L) (hL : ∀ x ∈ L, 0 ≤ x ∧ x ≤ 255) (h0 : 0 < L.length) : ∃ g cp, v = .slice (some ⟨g, 0, none⟩) L.length cp ∧ Bytes w (some ⟨g, 0, none⟩) L.length (fun j => L.getD j 0) ∧ g < w.heap.size ∧ L.length ≤ cp ∧ cp ≤ 9223372036854775807 := by
  obtain ⟨g, cp, hv, h1, h2, h3, h4, h5, h6⟩ := Laid.writ (w' := w) O hL h0
  refine ⟨g, cp, hv, ⟨fun k => getD_bd hL k, fun _ => ⟨g, 0, rfl, fun i hi => by rw [Nat.zero_add]; exact h6 i hi⟩⟩, h4, h1, by unfold maxLen at h2; omega⟩
def lenS : Value → Nat
  | .slice _ n _ => n
  | _ => 0
/-- What the model holds while it takes the blocks in. -/
structure HLd (w wr : World) (ga gk len : Nat) (F cur : Nat → Int) : Prop where
  bel : Below w.heap.size w wr
  h : ∀ i, i < 8 → wr.cell? ⟨w.heap.size, i, none⟩ = some (.int .u32 (cur i)) ∧ wr.frozen? ⟨w.heap.size, i, none⟩ = false
  row : Bytes wr (some ⟨ga, 0, none⟩) len F
  kk : ∀ i, i < 64 → wr.cell? ⟨gk, i, none⟩ = some (.int .u32 (KK i))
  na : ga ≠ w.heap.size
  nk : gk ≠ w.heap.size
theorem HLd.next {w wr w' : World} {ga gk len : Nat} {F cur nx : Nat → Int} (h : HLd w wr ga gk len F cur) (g : wr.grownBy w' (some w.heap.size)) (hn : ∀ i, i < 8 → w'.cell? ⟨w.heap.size, i, none⟩ = some (.int .u32 (nx i)) ∧ w'.frozen? ⟨w.heap.size, i, none⟩ = false) : HLd w w' ga gk len F nx := by
  refine ⟨h.bel.grown g h.bel.size (fun k hk => by cases hk; exact Nat.le_refl _), hn, ⟨h.row.1, fun h0 => ?_⟩, fun i hi => g.cell (h.kk i hi) (fun e => h.nk (by injection e)), h.na, h.nk⟩
  obtain ⟨b, off, e, hc⟩ := h.row.2 h0
  cases e
  exact ⟨ga, 0, rfl, fun i hi => g.cell (hc i hi) (fun e => h.na (by injection e))⟩
theorem slice_lh (g len cap k : Nat) (h : 64 * k + 64 ≤ len) (hc : len ≤ cap) (w : World) : (Instr.slice 22 (.slice (some ⟨g, 0, none⟩) len cap) (some (.int .i64 (64 * (k : Int)))) (some (.int .i64 (64 * (k : Int) + 64))) none).run Tryz.prog w = .ok (.slice (some ⟨g, 64 * k, none⟩) 64 (cap - 64 * k)) w := by
  have tn : (64 * (k : Int)).toNat = 64 * k := by omega
  have tm : (64 * (k : Int) + 64).toNat = 64 * k + 64 := by omega
  obtain ⟨i0, hi, hz0, hz1, hz2⟩ := info_parts Tryz.infoB
  have ht : Tryz.prog.underlying 22 = some (.slice (Tryz.prog.elem 22)) := by kernel_rfl
  have he : Tryz.prog.elem 22 = 5 := by kernel_rfl
  have hcap : ¬ cap = 64 * k := by omega
  rw [run_slice_lh w 22 _ len cap ht .i64 .i64 _ _ (by omega) (by omega) (by omega)]
  simp [sliced, sizeOf, typeInfo, he, hi, hz1, tn, tm, hcap]
  rw [Addr.add_mid, Nat.zero_add]

set_option maxHeartbeats 2000000 in
theorem l04Hash_any (a : Option Addr) (n cap : Nat) (f : Nat → Int) (w : World) (h : Bytes w a n f) (hz : n ≤ 65536) (hn : a = none → n = 0 ∧ cap = 0) (hp : ∀ b off, 0 < n → a = some ⟨b, off, none⟩ → b < w.heap.size) :
    Calls Tryz.prog 59 #[.slice a n cap] w fun e w' => e = .returned (.string (hashF f n)) ∧ Below w.heap.size w w' := by
  have H : Hid (Bytes w a n f) := h
  have HN : Hid (a = none → n = 0 ∧ cap = 0) := hn
  have HP : Hid (∀ b off, 0 < n → a = some ⟨b, off, none⟩ → b < w.heap.size) := hp
  clear h hn hp
  obtain ⟨W1, hW1⟩ : ∃ W1, W1 = w.alloc (.cells #[.int .u32 1779033703, .int .u32 3144134277, .int .u32 1013904242, .int .u32 2773480762, .int .u32 1359893119, .int .u32 2600822924, .int .u32 528734635, .int .u32 1541459225] 75) := ⟨_, rfl⟩
  have Z1 : W1.heap.size = w.heap.size + 1 := by rw [hW1]; simp
  have B1 : Hid (Below w.heap.size w W1) := by rw [hW1]; exact (Below.refl _ _).alloc (Nat.le_refl _) _
  have HC : Hid (∀ i, i < 8 → W1.cell? ⟨w.heap.size, i, none⟩ = some (.int .u32 (HB i)) ∧ W1.frozen? ⟨w.heap.size, i, none⟩ = false) := fun i hi => by
    rw [hW1]
    refine ⟨?_, by simp⟩
    rw [World.cell?_alloc_new]
    have := words_at HB 8 i hi
    rw [show words HB 8 = [.int .u32 1779033703, .int .u32 3144134277, .int .u32 1013904242, .int .u32 2773480762, .int .u32 1359893119, .int .u32 2600822924, .int .u32 528734635, .int .u32 1541459225] by kernel_rfl] at this
    simpa using this
  have HBy : Hid (∀ o, Bytes (W1.alloc o) a n f) := fun o => H.out.below (B1.out.alloc (by omega) o) HP.out
  have HO : Hid (OwnL 5 (W1.alloc (.cells #[] 5)) (w.heap.size + 1) (.slice (some ⟨w.heap.size + 1, 0, none⟩) 0 0) []) := by
    have := World.ownsRow_made (base := w.heap.size + 1) (e := 5) (size := 1) W1 #[] 0 (by omega) (Nat.zero_le _) rfl
    rw [Z1] at this
    exact this
  have HB2 : Hid (Below w.heap.size w (W1.alloc (.cells #[] 5))) := B1.out.alloc (by omega) _
  have HB3 : Hid (Below (w.heap.size + 1) W1 (W1.alloc (.cells #[] 5))) := (Below.refl _ _).alloc (by omega) _
  go_enter Tryz.func59, Tryz.ntmps59
  rw [hW1] at HBy HO
  go_wp2_with (at_builtin; refine wpl_byt _ rfl _ _ rfl (w.heap.size + 1) _ [] rfl HO.out a n cap f rfl (HBy.out _) HN.out (by simp; omega) (by simp) ?_)
  rw [← hW1]
  intro v1 w1 Y1
  have Y1' : Hid (OwnL 5 w1 (w.heap.size + 1) v1 ((List.range n).map f)) := Y1.out.own
  have F1 : Hid (Below (w.heap.size + 1) W1 w1) := HB3.out.trans Y1.out.below
  have z1 : w.heap.size + 1 ≤ w1.heap.size := by have := F1.out.size; omega
  clear Y1 HBy HO HB2 HB3 HN HP hW1
  go_wp2_with (at_builtin; refine wpl_app _ rfl _ _ rfl (w.heap.size + 1) _ _ rfl (World.ownsRow.alloc Y1'.out _) ⟨w1.heap.size, 0, none⟩ 1 1 [128] rfl rfl (news_row (Boxed.new w1 [.int .u8 128] _)) (by simp; omega) (by simp; omega) ?_)
  intro v2 w2 Y2
  have Y2' : Hid (OwnL 5 w2 (w.heap.size + 1) v2 ((List.range n).map f ++ [128])) := Y2.out.own
  have F2 : Hid (Below (w.heap.size + 1) W1 w2) := (F1.out.alloc z1 _).trans Y2.out.below
  clear Y2 Y1' F1 z1
  obtain ⟨L0, hL0⟩ : ∃ L, L = (List.range n).map f ++ [128] := ⟨_, rfl⟩
  have sL0 : L0.length = n + 1 := by rw [hL0]; simp
  have bL0 : Hid (L0 = (List.range n).map f ++ [128]) := hL0
  rw [← hL0] at Y2'
  clear hL0
  go_wp2
  go_loopw [4] (fun v wr => ∃ k : Nat, k ≤ padN (n + 1) ∧ Hid (OwnL 5 wr (w.heap.size + 1) v (L0 ++ List.replicate k 0)) ∧ Hid (Below (w.heap.size + 1) W1 wr)) (fun v _ => padN (n + 1) + n + 1 - (lenS v))
  case atStart => exact ⟨0, Nat.zero_le _, by simpa using Y2', F2⟩
  case round =>
    clear Y2' F2
    obtain ⟨k, hk, Y, B⟩ := hrel
    have pl := padN_lt (n + 1)
    have sL : (L0 ++ List.replicate k (0 : Int)).length = n + 1 + k := by simp [sL0]
    obtain ⟨g, cp, cur, hv, hg, -, -⟩ := OwnL.form Y.out (by omega)
    rw [sL] at hv
    subst hv
    have zz : w.heap.size + 1 ≤ wr.heap.size := by have := B.out.size; omega
    by_cases hlt : k < padN (n + 1)
    · have e1 : ((((n + 1 + k : Nat) : Int) % 64) != 56) = true := by have := padN_min (n + 1) k hlt; simp; omega
      have e2 : Int.tmod ((n + 1 + k : Nat) : Int) 64 = ((n + 1 + k : Nat) : Int) % 64 := Int.tmod_eq_emod_of_nonneg (by omega)
      obtain ⟨len, hlen⟩ : ∃ l, l = n + 1 + k := ⟨_, rfl⟩
      rw [← hlen] at e1 e2 Y
      rw [← hlen]
      have HLen : Hid (len = n + 1 + k) := hlen
      clear hlen
      go_wp2_with (at_builtin; refine wpl_app _ rfl _ _ rfl (w.heap.size + 1) _ _ rfl (World.ownsRow.alloc Y.out _) ⟨wr.heap.size, 0, none⟩ 1 1 [0] rfl rfl (news_row (Boxed.new wr [.int .u8 0] _)) (by simp; omega) (by simp; omega) ?_)
      intro v3 w3 Y3
      have Y3' : Hid (OwnL 5 w3 (w.heap.size + 1) v3 (L0 ++ List.replicate (k + 1) 0)) := by
        show OwnL _ _ _ _ _
        rw [List.replicate_succ']
        have := Y3.out.own
        simpa only [List.append_assoc] using this
      have B3 : Hid (Below (w.heap.size + 1) W1 w3) := (B.out.alloc zz _).trans Y3.out.below
      have sL3 : (L0 ++ List.replicate (k + 1) (0 : Int)).length = n + 1 + (k + 1) := by simp [sL0]
      obtain ⟨g3, cp3, cur3, hv3, -, -, -⟩ := OwnL.form Y3'.out (by omega)
      rw [sL3] at hv3
      have HV3 : Hid (lenS v3 = n + 1 + (k + 1)) := by rw [hv3]; rfl
      clear Y3 Y B hv3
      go_wp2
      go_roundw
      case rel => exact ⟨k + 1, by omega, Y3', B3⟩
      case measure =>
        rw [HV3.out]
        show _ < padN (n + 1) + n + 1 - len
        have := HLen.out
        omega
    · have ek : k = padN (n + 1) := by omega
      subst ek
      have e1 : ((((n + 1 + padN (n + 1) : Nat) : Int) % 64) != 56) = false := by have := padN_is (n + 1); simp; omega
      have e2 : Int.tmod ((n + 1 + padN (n + 1) : Nat) : Int) 64 = ((n + 1 + padN (n + 1) : Nat) : Int) % 64 := Int.tmod_eq_emod_of_nonneg (by omega)
      obtain ⟨len, hlen⟩ : ∃ l, l = n + 1 + padN (n + 1) := ⟨_, rfl⟩
      rw [← hlen] at e1 e2 Y
      rw [← hlen]
      clear hlt hk
      obtain ⟨L1, hL1⟩ : ∃ L, L = L0 ++ List.replicate (padN (n + 1)) (0 : Int) := ⟨_, rfl⟩
      have HL1 : Hid (L1 = L0 ++ List.replicate (padN (n + 1)) (0 : Int)) := hL1
      have sL1 : L1.length ≤ 65601 := by rw [hL1, sL]; omega
      rw [← hL1] at Y
      clear hL1 sL hlen
      go_wp2
      go_loopw [4, 5] (fun v i wr => ∃ m : Nat, m ≤ 8 ∧ i = .int .i64 (7 - (m : Int)) ∧ Hid (OwnL 5 wr (w.heap.size + 1) v (L1 ++ (List.range m).map (nb (8 * (n : Int)) 8))) ∧ Hid (Below (w.heap.size + 1) W1 wr)) (fun _ i _ => (intOf i + 1).toNat)
      case atStart => exact ⟨0, Nat.zero_le _, rfl, by simpa using Y, B⟩
      case round =>
        clear Y B zz
        obtain ⟨m, hm, rfl, Y, B⟩ := hrel
        have zz : w.heap.size + 1 ≤ wr.heap.size := by have := B.out.size; omega
        by_cases hlt : m < 8
        · obtain ⟨j, hj, hj7⟩ : ∃ j : Nat, m = 7 - j ∧ j ≤ 7 := ⟨7 - m, by omega, by omega⟩
          have ej : (7 - (m : Int)) = (j : Int) := by omega
          have HT : Hid (m + 1 ≤ 8 ∧ ((7 - ((m + 1 : Nat) : Int)) = (j : Int) - 1)) := ⟨by omega, by omega⟩
          have ev : IntKind.u8.wrap (8 * (n : Int) / 2 ^ (8 * j)) = nb (8 * (n : Int)) 8 m := by
            rw [IntKind.wrap_u8]
            unfold nb
            rw [show 8 - 1 - m = j by omega]
          obtain ⟨x, hx⟩ : ∃ x, x = nb (8 * (n : Int)) 8 m := ⟨_, rfl⟩
          have HX : Hid (x = nb (8 * (n : Int)) 8 m) := hx
          rw [← hx] at ev
          rw [ej]
          have sl : Hid ((L1 ++ (List.range m).map (nb (8 * (n : Int)) 8)).length ≤ 65700) := by show _ ≤ _; simp; omega
          clear hj ej hx
          have f1 : IntKind.i64.wrap (8 * (n : Int)) = 8 * (n : Int) := by rw [IntKind.wrap_i64]; omega
          have f2 : IntKind.i64.wrap (8 * (j : Int)) = 8 * (j : Int) := by rw [IntKind.wrap_i64]; omega
          have f3 : IntKind.u64.wrap (8 * (j : Int)) = 8 * (j : Int) := by rw [IntKind.wrap_u64]; omega
          have f4 : (8 * (j : Int)).toNat = 8 * j := by omega
          have f5 : min (8 * j) 64 = 8 * j := by omega
          have f6 : (0 : Int) ≤ 8 * (j : Int) := by omega
          have f7 : 8 * (j : Int) ≤ 64 := by omega
          go_wp2_with (at_builtin; refine wpl_app _ rfl _ _ rfl (w.heap.size + 1) _ _ rfl (World.ownsRow.alloc Y.out _) ⟨wr.heap.size, 0, none⟩ 1 1 [x] rfl rfl (news_row (Boxed.new wr [.int .u8 x] _)) (by have := sl.out; omega) (by simp; omega) ?_)
          intro v3 w3 Y3
          have Y3' : Hid (OwnL 5 w3 (w.heap.size + 1) v3 (L1 ++ (List.range (m + 1)).map (nb (8 * (n : Int)) 8))) := by
            show OwnL _ _ _ _ _
            rw [List.range_succ, List.map_append]
            have := Y3.out.own
            rw [HX.out] at this
            simpa only [List.append_assoc, List.map_cons, List.map_nil] using this
          have B3 : Hid (Below (w.heap.size + 1) W1 w3) := (B.out.alloc zz _).trans Y3.out.below
          clear Y3 Y B
          go_wp2
          go_roundw
          case rel => exact ⟨m + 1, HT.out.1, by rw [HT.out.2], Y3', B3⟩
          case measure => (simp [intOf]; try omega)
        · have em : m = 8 := by omega
          have YA : Hid (OwnL 5 wr (w.heap.size + 1) u4 (allL f n)) := by
            have e := Y.out
            rw [em, HL1.out, bL0.out] at e
            have e8 := nbl8 n hz
            unfold nbl at e8
            rw [e8] at e
            show OwnL _ _ _ _ _
            unfold allL tailL nbl
            simpa only [List.append_assoc] using e
          have e7 : (7 - (m : Int)) = -1 := by omega
          rw [e7]
          obtain ⟨ga, ca, hva, hra⟩ := rowS_of YA.out (allL_bd f n H.out.1) (by rw [allL_len]; omega)
          have hga : w.heap.size + 1 ≤ ga := by
            obtain ⟨g', c', cu', hv', hb', -⟩ := OwnL.form YA.out (by rw [allL_len]; omega)
            rw [hva] at hv'
            cases hv'
            exact hb'
          obtain ⟨nn, hnn⟩ : ∃ q, q = n / 64 + lastN n := ⟨_, rfl⟩
          have hln : (allL f n).length = 64 * nn := by rw [hnn]; exact allL_blocks f n
          rw [hln] at hva hra
          have hnb : nn ≤ 1100 := by have := lastN_le n; omega
          have HNN : Hid (nn = n / 64 + lastN n) := hnn
          have R : Hid (Bytes wr (some ⟨ga, 0, none⟩) (64 * nn) (allF f n)) := hra.1
          have ca1 := hra.2.2.1
          have ca2 := hra.2.2.2
          have lga : ga < wr.heap.size := hra.2.1
          subst hva
          clear YA Y hln hnn hra em e7 hlt hm
          go_wp2_with fail
          refine (l04Consts_any wr).mono ?_
          rintro e w4 ⟨rfl, b4, z4, k4⟩
          have X0 : Hid (HLd w w4 ga wr.heap.size (64 * nn) (allF f n) (stB (allF f n) HB 0)) := by
            refine ⟨B1.out.trans ((B.out.mono (by omega)).trans (b4.mono (by omega))), fun i hi => ?_, R.out.below b4 (fun b' o' _ h2 => by cases h2; exact lga), k4, by omega, by omega⟩
            have b5 : Below (w.heap.size + 1) W1 w4 := B.out.trans (b4.mono zz)
            rw [b5.cell (p := ⟨w.heap.size, i, none⟩) (by show w.heap.size < _; omega), b5.frozen (p := ⟨w.heap.size, i, none⟩) (by show w.heap.size < _; omega)]
            exact HC.out i hi
          clear B1 HC B R b4 k4 z4
          obtain ⟨gk, hgk⟩ : ∃ g, g = wr.heap.size := ⟨_, rfl⟩
          rw [← hgk] at X0
          rw [← hgk]
          clear hgk lga zz
          obtain ⟨len, hlen⟩ : ∃ l, l = 64 * nn := ⟨_, rfl⟩
          rw [← hlen]
          have HLen : Hid (len = 64 * nn) := hlen
          clear hlen
          go_wp2
          go_loopw [7] (fun i wr => ∃ k : Nat, k ≤ nn ∧ i = .int .i64 (64 * (k : Int)) ∧ Hid (HLd w wr ga gk (64 * nn) (allF f n) (stB (allF f n) HB k))) (fun i _ => len - (intOf i).toNat)
          case atStart => exact ⟨0, Nat.zero_le _, rfl, X0⟩
          case round =>
            clear X0
            obtain ⟨k, hk, rfl, X⟩ := hrel
            by_cases hlt : k < nn
            · have l1 : (64 * (k : Int)) < (len : Int) := by have := HLen.out; omega
              have hsl := slice_lh ga len ca k (by have := HLen.out; omega) (by have := HLen.out; omega)
              have wx1 : IntKind.i64.wrap (64 * (k : Int) + 64) = 64 * (k : Int) + 64 := by rw [IntKind.wrap_i64]; omega
              have HK : Hid (Calls Tryz.prog 84 #[.slice (some ⟨w.heap.size, 0, none⟩) 8 8, .slice (some ⟨ga, 64 * k, none⟩) 64 (ca - 64 * k), .slice (some ⟨gk, 0, none⟩) 64 64] wr fun e w' => e = .returned (.tuple #[]) ∧ Hid (HLd w w' ga gk (64 * nn) (allF f n) (stB (allF f n) HB (k + 1)))) := by
                have hby := X.out.row.part (64 * k) 64 (by omega) (some ⟨ga, 64 * k, none⟩) (fun _ => by rw [Nat.zero_add])
                exact (l04Block_any w.heap.size ga (64 * k) (ca - 64 * k) gk (stB (allF f n) HB k) (fun j => allF f n (64 * k + j)) wr X.out.h hby (by omega) X.out.kk X.out.na X.out.nk).mono fun e w' ⟨h1, h2, h3⟩ => ⟨h1, X.out.next h2 h3⟩
              clear X
              go_wp2_with (go_at_call 84; (with_reducible refine HK.out.mono ?_); rintro e w5 ⟨rfl, X5⟩)
              go_roundw
              case rel => exact ⟨k + 1, by omega, by go_num, X5⟩
              case measure => (simp [intOf]; try omega)
            · have ek : k = nn := by omega
              have l2 : ¬ (64 * (k : Int)) < (len : Int) := by have := HLen.out; omega
              have XN : Hid (HLd w wr ga gk (64 * nn) (allF f n) (hst f n)) := by
                have e := X.out
                rw [ek] at e
                unfold hst
                rw [← HNN.out]
                exact e
              obtain ⟨t, ht⟩ : ∃ t, t = hst f n := ⟨_, rfl⟩
              have HTt : Hid (t = hst f n) := ht
              rw [← ht] at XN
              have Tb : Hid (∀ i, 0 ≤ t i ∧ t i ≤ 4294967295) := by rw [ht]; exact hst_bd f n
              have C0 : Hid (∀ i, i < 8 → wr.cell? ⟨w.heap.size, i, none⟩ = some (.int .u32 (t i))) := fun i hi => (XN.out.h i hi).1
              have B0 : Hid (Below w.heap.size w wr) := XN.out.bel
              have lw : w.heap.size < wr.heap.size := World.block_lt_of_cell? wr _ (C0.out 0 (by omega))
              clear X XN ht ek hlt hk
              obtain ⟨wb, hwb⟩ : ∃ x, x = wr := ⟨_, rfl⟩
              rw [← hwb] at C0 B0 lw
              rw [← hwb]
              clear hwb
              obtain ⟨i0, hi, hz0, hz1, hz2⟩ := info_parts Tryz.infoB
              have O0 : Hid (OwnL 5 (wb.alloc (.cells #[] 5)) wb.heap.size (.slice (some ⟨wb.heap.size, 0, none⟩) 0 0) (txt t 0)) := World.ownsRow_made wb #[] 0 (Nat.le_refl _) (Nat.zero_le _) rfl
              have D0 : Hid (Below wb.heap.size wb (wb.alloc (.cells #[] 5))) := (Below.refl _ _).alloc (Nat.le_refl _) _
              go_wp2
              go_loopw [8, 9] (fun v i wq => ∃ k : Nat, k ≤ 8 ∧ i = .int .i64 k ∧ Hid (OwnL 5 wq wb.heap.size v (txt t k)) ∧ Hid (Below wb.heap.size wb wq)) (fun _ i _ => 8 - (intOf i).toNat)
              case atStart => exact ⟨0, Nat.zero_le _, rfl, O0, D0⟩
              case round =>
                clear O0 D0
                obtain ⟨k, hk, rfl, Y, D⟩ := hrel
                have zz := D.out.size
                by_cases hlt : k < 8
                · have cx : wr.cell? ⟨w.heap.size, k, none⟩ = some (.int .u32 (t k)) := by rw [D.out.cell (p := ⟨w.heap.size, k, none⟩) lw]; exact C0.out k hlt
                  have tb := Tb.out k
                  obtain ⟨x, hx⟩ : ∃ x, x = t k := ⟨_, rfl⟩
                  have HX : Hid (txt t (k + 1) = txt t k ++ [nb x 4 0, nb x 4 1, nb x 4 2, nb x 4 3]) := by show _ = _; rw [hx]; rfl
                  rw [← hx] at cx tb
                  have HL : Hid ((txt t k).length = 4 * k) := txt_len t k
                  clear hx
                  have y0 : IntKind.u8.wrap (x / 16777216) = nb x 4 0 := by rw [IntKind.wrap_u8]; rfl
                  have y1 : IntKind.u8.wrap (x / 65536) = nb x 4 1 := by rw [IntKind.wrap_u8]; rfl
                  have y2 : IntKind.u8.wrap (x / 256) = nb x 4 2 := by rw [IntKind.wrap_u8]; rfl
                  have y3 : IntKind.u8.wrap x = nb x 4 3 := by rw [IntKind.wrap_u8]; unfold nb; simp
                  obtain ⟨n0, hn0⟩ : ∃ z, z = nb x 4 0 := ⟨_, rfl⟩
                  obtain ⟨n1, hn1⟩ : ∃ z, z = nb x 4 1 := ⟨_, rfl⟩
                  obtain ⟨n2, hn2⟩ : ∃ z, z = nb x 4 2 := ⟨_, rfl⟩
                  obtain ⟨n3, hn3⟩ : ∃ z, z = nb x 4 3 := ⟨_, rfl⟩
                  rw [← hn0] at y0
                  rw [← hn1] at y1
                  rw [← hn2] at y2
                  rw [← hn3] at y3
                  rw [← hn0, ← hn1, ← hn2, ← hn3] at HX
                  clear hn0 hn1 hn2 hn3
                  have k0 : (0 : Int) ≤ (k : Int) := by omega
                  have k1 : (k : Int) < 8 := by omega
                  have lr : w.heap.size < wr.heap.size := by omega
                  have M : Hid (∀ o, (wr.alloc o).drew.cell? ⟨w.heap.size, k, none⟩ = some (.int .u32 x)) := fun o => (World.cell?_alloc_lt _ _ _ (by exact lr)).trans cx
                  go_wp2
                  go_region_held3 (fun w' => w'.cell? ⟨w.heap.size, k, none⟩ = some (.int .u32 x)) (first | exact cx | exact M.out _ | exact cx2) ((refine step_append_lies _ (by rfl) _ _ _ (by rfl) wb.heap.size 5 i0 _ 1 1 Tryz.underlying22 hi hz0 hz1 hz2 rfl (by omega) u8 (txt t k).length ((txt t k).map (.int .u8)) (by rfl) ((World.ownsRow.alloc Y.out _).drew) ⟨wr.heap.size, 0, none⟩ 4 4 [.int .u8 n0, .int .u8 n1, .int .u8 n2, .int .u8 n3] (by rfl) (by rfl) (World.news_of_block (cs := #[.int .u8 n0, .int .u8 n1, .int .u8 n2, .int .u8 n3]) (t := 5) (fr := (0, 0)) (heap_alloc_new wr _)) (by simp [Value.oneCell']) (by omega) (by rw [HL.out]; unfold maxLen; omega) (by rw [HL.out]; omega) (by simp; omega) (wr.heap.size + 1) (by simp) ?_; intro g1 cap1 w2 hown1 hgrow hat hltt; have D2 : Hid (Below wb.heap.size wb w2) := ((D.out.alloc zz _).drew).grown hgrow (by simp; omega) (fun q hq => (World.ownsRow.lt Y.out q hq).1); have cx2 : w2.cell? ⟨w.heap.size, k, none⟩ = some (.int .u32 x) := by rw [D2.out.cell (p := ⟨w.heap.size, k, none⟩) lw, ← D.out.cell (p := ⟨w.heap.size, k, none⟩) lw]; exact cx))
                  all_goals
                    have HO : Hid (OwnL 5 w2 wb.heap.size (.slice (some ⟨g1, 0, none⟩) ((txt t k).length + 4) cap1) (txt t (k + 1))) := by
                      show OwnL _ _ _ _ _
                      rw [HX.out]
                      unfold OwnL
                      simpa using hown1
                    clear hown1 hgrow hat hltt M cx cx2 Y D
                    go_wp2
                    go_roundw
                    case rel => exact ⟨k + 1, by omega, by go_num, HO, D2⟩
                    case measure => (simp [intOf]; try omega)
                · have ek : k = 8 := by omega
                  subst ek
                  obtain ⟨a, cap, hv, hby, -⟩ := OwnL.slice Y.out (txt_bd t 8)
                  have hc := conv_own (P := Tryz.prog) wr 22 9 5 Tryz.underlying22 Tryz.underlying5 Tryz.underlying9 a cap _ hby
                  subst hv
                  clear hby
                  go_wp2
                  go_ret
                  exact ⟨by unfold hashF; rw [← HTt.out]; rfl, B0.out.trans (D.out.mono (by omega))⟩

end Go.Proofs.YtnlepjcjakghcaaGreatDoor

namespace Go.Proofs.YtnlepjcjakghcaaGreatDoor
open Go.RowKit Go.PlainAid Go.Proofs.YtnlepjcjakghcaaGreatDoor.Pl
set_option linter.unusedVariables false
set_option maxRecDepth 20000

end Go.Proofs.YtnlepjcjakghcaaGreatDoor

namespace Go.Proofs.YtnlepjcjakghcaaGreatDoor
open Go.RowKit Go.PlainAid Go.Proofs.YtnlepjcjakghcaaGreatDoor.Pl
set_option linter.unusedVariables false

end Go.Proofs.YtnlepjcjakghcaaGreatDoor

namespace Go.Proofs.YtnlepjcjakghcaaGreatDoor
open Go.RowKit Go.PlainAid
set_option linter.unusedVariables false

end Go.Proofs.YtnlepjcjakghcaaGreatDoor

namespace Go.Proofs.YtnlepjcjakghcaaGreatDoor
open Go.RowKit Go.PlainAid
set_option linter.unusedVariables false
set_option maxRecDepth 20000

/-- A text's hash. -/
def hashS (s : ByteArray) : ByteArray := hashF (bt s) s.size
theorem hashS_size (s : ByteArray) : (hashS s).size = 32 := hashF_size _ _
/-- The hash of a word by a salt, hashed again k times. -/
def passS (salt word : ByteArray) : Nat → ByteArray
  | 0 => hashS (salt ++ ⟨#[0]⟩ ++ word)
  | k + 1 => hashS (salt ++ passS salt word k)
theorem passS_size (salt word : ByteArray) : ∀ k, (passS salt word k).size = 32
  | 0 => hashS_size _
  | k + 1 => hashS_size _
theorem conv_b (w : World) (s : ByteArray) (hs : s.size ≤ 1000000) : ∃ cap w', (convert 9 22 (.string s)).run Tryz.prog w = .ok (.slice (some ⟨w.heap.size, 0, none⟩) s.size cap) w' ∧ Below w.heap.size w w' ∧ w'.heap.size = w.heap.size + 1 ∧ Bytes w' (some ⟨w.heap.size, 0, none⟩) s.size (bt s) ∧ s.size ≤ cap ∧ cap ≤ 9223372036854775807 := by
  have r := Go.Lib.run_convert_string_bytes (P := Tryz.prog) w 9 22 5 s Tryz.underlying9 Tryz.underlying22 Tryz.underlying5
  obtain ⟨cap, w', h1, h2, h3, -, h5⟩ := conv_bytes (P := Tryz.prog) w 9 22 5 s Tryz.underlying9 Tryz.underlying22 Tryz.underlying5
  have e := h1.symm.trans r
  injection e with e1 e2
  injection e1 with _ _ e3
  have g1 := grownCap_ge w s.size 0 5
  have g2 := grownCap_le_maxLen w s.size 0 5 (by unfold maxLen; omega)
  unfold maxLen at g2
  exact ⟨cap, w', h1, h2, h3, ⟨fun k => ⟨bt_nonneg s k, bt_le s k⟩, fun _ => ⟨w.heap.size, 0, rfl, fun i hi => by rw [Nat.zero_add]; exact h5 i hi⟩⟩, by omega, by omega⟩
set_option maxHeartbeats 1000000 in
theorem l04Pass_any (salt word : ByteArray) (n : Nat) (w : World) (hs : salt.size ≤ 40) (hw : word.size ≤ 40) (hn : n ≤ 20) :
    Calls Tryz.prog 37 #[.string salt, .string word, .int .i64 n] w fun e w' => e = .returned (.string (passS salt word n)) ∧ Below w.heap.size w w' := by
  have HC : Hid (∀ (s : ByteArray) (cap b : Nat) (wx : World), s.size ≤ 200 → Bytes wx (some ⟨b, 0, none⟩) s.size (bt s) → b < wx.heap.size → s.size ≤ cap → cap ≤ 9223372036854775807 → Below w.heap.size w wx → Calls Tryz.prog 59 #[.slice (some ⟨b, 0, none⟩) s.size cap] wx fun e w' => e = .returned (.string (hashS s)) ∧ Below wx.heap.size wx w') := fun s cap b wx h1 h2 h3 h4 h5 h6 => l04Hash_any (some ⟨b, 0, none⟩) s.size cap (bt s) wx h2 (by omega) (fun h => by cases h) (fun b' o' _ hy => by cases hy; exact h3)
  obtain ⟨U, hU⟩ : ∃ U, U = salt ++ ⟨#[0]⟩ ++ word := ⟨_, rfl⟩
  have su : U.size ≤ 81 := by rw [hU, ByteArray.size_append, ByteArray.size_append]; show salt.size + 1 + word.size ≤ 81; omega
  obtain ⟨cap0, w0, hc0, b0, z0, y0, p0, q0⟩ := conv_b w U (by omega)
  have B0 : Hid (Below w.heap.size w w0) := b0
  have Y0 : Hid (Bytes w0 (some ⟨w.heap.size, 0, none⟩) U.size (bt U)) := y0
  have HU : Hid (hashS U = passS salt word 0) := by show _ = _; rw [hU]; rfl
  clear b0 y0
  have lz : w.heap.size < w0.heap.size := by omega
  have HX : Hid (Calls Tryz.prog 59 #[.slice (some ⟨w.heap.size, 0, none⟩) U.size cap0] w0 fun e w' => e = .returned (.string (passS salt word 0)) ∧ Below w0.heap.size w0 w') := by rw [← HU.out]; exact HC.out U cap0 w.heap.size w0 (by omega) Y0.out lz p0 q0 B0.out
  obtain ⟨m0, hm0⟩ : ∃ m, m = U.size := ⟨_, rfl⟩
  rw [← hm0] at hc0 HX
  rw [hU] at hc0
  clear hm0 p0
  clear hU Y0
  go_enter Tryz.func37, Tryz.ntmps37
  go_wp2_with (go_at_call 59; (refine HX.out.mono ?_); rintro e w1 ⟨rfl, b1⟩; have B1 : Hid (Below w.heap.size w w1) := B0.out.trans (b1.mono B0.out.size); clear b1 B0 HX hc0)
  obtain ⟨S1, hS1⟩ : ∃ S, S = salt ++ ⟨#[0]⟩ := ⟨_, rfl⟩
  rw [← hS1]
  obtain ⟨S2, hS2⟩ : ∃ S, S = S1 ++ word := ⟨_, rfl⟩
  rw [← hS2]
  clear hS1 hS2
  go_loopw [7, 8] (fun h i wr => ∃ k : Nat, k ≤ n ∧ i = .int .i64 k ∧ h = .string (passS salt word k) ∧ Hid (Below w.heap.size w wr)) (fun _ i _ => n - (intOf i).toNat)
  case atStart => exact ⟨0, Nat.zero_le _, rfl, rfl, B1⟩
  case round =>
    clear B1
    obtain ⟨k, hk, rfl, rfl, B⟩ := hrel
    by_cases hlt : k < n
    · obtain ⟨P, hP⟩ : ∃ P, P = passS salt word k := ⟨_, rfl⟩
      have sp : P.size ≤ 32 := by rw [hP]; exact Nat.le_of_eq (passS_size _ _ _)
      have HQ : Hid (hashS (salt ++ P) = passS salt word (k + 1)) := by show _ = _; rw [hP]; rfl
      rw [← hP]
      obtain ⟨U, hU⟩ : ∃ U, U = salt ++ P := ⟨_, rfl⟩
      have su : U.size ≤ 81 := by rw [hU, ByteArray.size_append]; omega
      obtain ⟨cap2, w2, hc2, b2, z2, y2, p2, q2⟩ := conv_b wr U (by omega)
      have B2 : Hid (Below w.heap.size w w2) := B.out.trans (b2.mono B.out.size)
      have HX : Hid (Calls Tryz.prog 59 #[.slice (some ⟨wr.heap.size, 0, none⟩) U.size cap2] w2 fun e w' => e = .returned (.string (passS salt word (k + 1))) ∧ Below w2.heap.size w2 w') := by rw [← HQ.out, ← hU]; exact HC.out U cap2 wr.heap.size w2 (by omega) y2 (by omega) p2 q2 B2.out
      obtain ⟨m2, hm2⟩ : ∃ m, m = U.size := ⟨_, rfl⟩
      rw [← hm2] at hc2 HX
      rw [hU] at hc2
      clear hm2 p2
      clear hU b2 y2 B su hP HQ
      go_wp2_with (go_at_call 59; (refine HX.out.mono ?_); rintro e w3 ⟨rfl, b3⟩; have B3 : Hid (Below w.heap.size w w3) := B2.out.trans (b3.mono B2.out.size); clear b3 B2 HX hc2)
      go_roundw
      case rel => exact ⟨k + 1, by omega, by go_num, rfl, B3⟩
      case measure => (simp [intOf]; try omega)
    · have ek : k = n := by omega
      subst ek
      go_wp2
      go_ret
      exact ⟨rfl, B.out⟩

set_option maxHeartbeats 1000000 in
theorem passHash_yes (salt word : ByteArray) (n : Nat) (w : World) (hK : KTab w) (hH : HTab w) (hs : salt.size ≤ 40) (hw : word.size ≤ 40) (hn : n ≤ 20) :
    Calls Tryz.prog 7 #[.string salt, .string word, .int .i64 n] w fun e w' => e = .returned (.tuple #[.string (passS salt word n), .int .i64 0]) ∧ Below w.heap.size w w' := by
  have HT : Hid (KTab w ∧ HTab w) := ⟨hK, hH⟩
  clear hK hH
  have HC : Hid (∀ (s : ByteArray) (cap b : Nat) (wx : World), s.size ≤ 200 → Bytes wx (some ⟨b, 0, none⟩) s.size (bt s) → b < wx.heap.size → s.size ≤ cap → cap ≤ 9223372036854775807 → Below w.heap.size w wx → Calls Tryz.prog 19 #[.slice (some ⟨b, 0, none⟩) s.size cap] wx fun e w' => e = .returned (.string (hashS s)) ∧ Below wx.heap.size wx w') := fun s cap b wx h1 h2 h3 h4 h5 h6 => hash_some b 0 s.size cap (bt s) wx (HT.out.1.below h6) (HT.out.2.below h6) h2 h3 (by omega) h4 h5
  obtain ⟨U, hU⟩ : ∃ U, U = salt ++ ⟨#[0]⟩ ++ word := ⟨_, rfl⟩
  have su : U.size ≤ 81 := by rw [hU, ByteArray.size_append, ByteArray.size_append]; show salt.size + 1 + word.size ≤ 81; omega
  obtain ⟨cap0, w0, hc0, b0, z0, y0, p0, q0⟩ := conv_b w U (by omega)
  have B0 : Hid (Below w.heap.size w w0) := b0
  have Y0 : Hid (Bytes w0 (some ⟨w.heap.size, 0, none⟩) U.size (bt U)) := y0
  have HU : Hid (hashS U = passS salt word 0) := by show _ = _; rw [hU]; rfl
  clear b0 y0
  have lz : w.heap.size < w0.heap.size := by omega
  have HX : Hid (Calls Tryz.prog 19 #[.slice (some ⟨w.heap.size, 0, none⟩) U.size cap0] w0 fun e w' => e = .returned (.string (passS salt word 0)) ∧ Below w0.heap.size w0 w') := by rw [← HU.out]; exact HC.out U cap0 w.heap.size w0 (by omega) Y0.out lz p0 q0 B0.out
  obtain ⟨m0, hm0⟩ : ∃ m, m = U.size := ⟨_, rfl⟩
  rw [← hm0] at hc0 HX
  rw [hU] at hc0
  clear hm0 p0
  clear hU Y0
  go_enter Tryz.func7, Tryz.ntmps7
  go_wp2_with (go_at_call 19; (refine HX.out.mono ?_); rintro e w1 ⟨rfl, b1⟩; have B1 : Hid (Below w.heap.size w w1) := B0.out.trans (b1.mono B0.out.size); clear b1 B0 HX hc0)
  obtain ⟨S1, hS1⟩ : ∃ S, S = salt ++ ⟨#[0]⟩ := ⟨_, rfl⟩
  rw [← hS1]
  obtain ⟨S2, hS2⟩ : ∃ S, S = S1 ++ word := ⟨_, rfl⟩
  rw [← hS2]
  clear hS1 hS2
  go_loopw [8, 40] (fun h i wr => ∃ k : Nat, k ≤ n ∧ i = .int .i64 k ∧ h = .string (passS salt word k) ∧ Hid (Below w.heap.size w wr)) (fun _ i _ => n - (intOf i).toNat)
  case atStart => exact ⟨0, Nat.zero_le _, rfl, rfl, B1⟩
  case round =>
    clear B1
    obtain ⟨k, hk, rfl, rfl, B⟩ := hrel
    by_cases hlt : k < n
    · obtain ⟨P, hP⟩ : ∃ P, P = passS salt word k := ⟨_, rfl⟩
      have sp : P.size ≤ 32 := by rw [hP]; exact Nat.le_of_eq (passS_size _ _ _)
      have HQ : Hid (hashS (salt ++ P) = passS salt word (k + 1)) := by show _ = _; rw [hP]; rfl
      rw [← hP]
      obtain ⟨U, hU⟩ : ∃ U, U = salt ++ P := ⟨_, rfl⟩
      have su : U.size ≤ 81 := by rw [hU, ByteArray.size_append]; omega
      obtain ⟨cap2, w2, hc2, b2, z2, y2, p2, q2⟩ := conv_b wr U (by omega)
      have B2 : Hid (Below w.heap.size w w2) := B.out.trans (b2.mono B.out.size)
      have HX : Hid (Calls Tryz.prog 19 #[.slice (some ⟨wr.heap.size, 0, none⟩) U.size cap2] w2 fun e w' => e = .returned (.string (passS salt word (k + 1))) ∧ Below w2.heap.size w2 w') := by rw [← HQ.out, ← hU]; exact HC.out U cap2 wr.heap.size w2 (by omega) y2 (by omega) p2 q2 B2.out
      obtain ⟨m2, hm2⟩ : ∃ m, m = U.size := ⟨_, rfl⟩
      rw [← hm2] at hc2 HX
      rw [hU] at hc2
      clear hm2 p2
      clear hU b2 y2 B su hP HQ
      go_wp2_with (go_at_call 19; (refine HX.out.mono ?_); rintro e w3 ⟨rfl, b3⟩; have B3 : Hid (Below w.heap.size w w3) := B2.out.trans (b3.mono B2.out.size); clear b3 B2 HX hc2)
      go_roundw
      case rel => exact ⟨k + 1, by omega, by go_num, rfl, B3⟩
      case measure => (simp [intOf]; try omega)
    · have ek : k = n := by omega
      subst ek
      go_wp2
      go_ret2
      exact ⟨rfl, B.out⟩

theorem passHash_no (salt word : ByteArray) (n : Int) (w : World) (h1 : salt.size ≤ 65536) (h2 : word.size ≤ 65536) (h : 40 < salt.size ∨ 40 < word.size ∨ n < 0 ∨ 20 < n) :
    Calls Tryz.prog 7 #[.string salt, .string word, .int .i64 n] w fun e w' => e = .returned (.tuple #[.string ⟨#[]⟩, .int .i64 4]) ∧ w' = w := by
  by_cases hs : 40 < salt.size
  · go_enter Tryz.func7, Tryz.ntmps7
    go_wp2
    go_ret2
    exact ⟨rfl, rfl⟩
  by_cases hw : 40 < word.size
  · go_enter Tryz.func7, Tryz.ntmps7
    go_wp2
    go_ret2
    exact ⟨rfl, rfl⟩
  by_cases hn : n < 0
  · go_enter Tryz.func7, Tryz.ntmps7
    go_wp2
    go_ret2
    exact ⟨rfl, rfl⟩
  · have hm : 20 < n := by omega
    go_enter Tryz.func7, Tryz.ntmps7
    go_wp2
    go_ret2
    exact ⟨rfl, rfl⟩
end Go.Proofs.YtnlepjcjakghcaaGreatDoor

namespace Go.Proofs.YtnlepjcjakghcaaGreatDoor
open Go.RowKit Go.PlainAid Go.Proofs.YtnlepjcjakghcaaGreatDoor.Bt Go.Sort
set_option linter.unusedVariables false
set_option maxRecDepth 20000

/- The order of bytes. -/
theorem bl_cons (a b : UInt8) (x y : List UInt8) : Op.bytesLess (a :: x) (b :: y) = (decide (a.toNat < b.toNat) || (decide (a.toNat = b.toNat) && Op.bytesLess x y)) := by
  have h1 : decide (a < b) = decide (a.toNat < b.toNat) := by simp only [UInt8.lt_iff_toNat_lt]
  have h2 : (a == b) = decide (a.toNat = b.toNat) := by
    by_cases h : a = b
    · subst h
      simp
    · have h' : ¬ a.toNat = b.toNat := fun e => h (UInt8.toNat_inj.1 e)
      simp [h, h']
  rw [Op.bytesLess, h1, h2]
theorem bl_trans : ∀ x y z : List UInt8, Op.bytesLess x y = true → Op.bytesLess y z = true → Op.bytesLess x z = true
  | _, [], _, h, _ => by simp [Op.bytesLess] at h
  | _, _ :: _, [], _, h => by simp [Op.bytesLess] at h
  | [], _ :: _, _ :: _, _, _ => rfl
  | a :: x, b :: y, c :: z, h, h' => by
    rw [bl_cons] at h h' ⊢
    simp only [Bool.or_eq_true, Bool.and_eq_true, decide_eq_true_eq] at h h' ⊢
    rcases h with h | ⟨h1, h2⟩ <;> rcases h' with h' | ⟨h3, h4⟩
    · exact .inl (by omega)
    · exact .inl (by omega)
    · exact .inl (by omega)
    · exact .inr ⟨by omega, bl_trans x y z h2 h4⟩
theorem cby_lt : ∀ a b : List UInt8, decide (Lib.compareBytes a b < 0) = Op.bytesLess a b
  | [], [] => by simp [Lib.compareBytes, Op.bytesLess]
  | [], _ :: _ => by simp [Lib.compareBytes, Op.bytesLess]
  | _ :: _, [] => by simp [Lib.compareBytes, Op.bytesLess]
  | a :: x, b :: y => by
    have e9 : Lib.compareBytes (a :: x) (b :: y) = if a < b then -1 else if b < a then 1 else Lib.compareBytes x y := rfl
    rw [bl_cons, ← cby_lt x y, e9]
    simp only [UInt8.lt_iff_toNat_lt]
    by_cases h1 : a.toNat < b.toNat
    · simp [h1]
    · by_cases h2 : b.toNat < a.toNat
      · have h3 : ¬ a.toNat = b.toNat := by omega
        simp [h1, h2, h3]
      · have h3 : a.toNat = b.toNat := by omega
        simp [h3]
theorem cby_eq : ∀ a b : List UInt8, decide (Lib.compareBytes a b = 0) = (a == b)
  | [], [] => by simp [Lib.compareBytes]
  | [], _ :: _ => by simp [Lib.compareBytes]
  | _ :: _, [] => by simp [Lib.compareBytes]
  | a :: x, b :: y => by
    have e9 : Lib.compareBytes (a :: x) (b :: y) = if a < b then -1 else if b < a then 1 else Lib.compareBytes x y := rfl
    rw [e9]
    simp only [UInt8.lt_iff_toNat_lt]
    by_cases h1 : a.toNat < b.toNat
    · have h3 : ¬ a = b := fun e => by subst e; omega
      simp [h1, h3]
    · by_cases h2 : b.toNat < a.toNat
      · have h3 : ¬ a = b := fun e => by subst e; omega
        simp [h1, h2, h3]
      · have h3 : a = b := UInt8.toNat_inj.1 (by omega)
        subst h3
        have := cby_eq x y
        by_cases h4 : x = y <;> simp [h4] at this ⊢ <;> exact this
theorem ltS_trans {a b c : ByteArray} (h : ltS a b = true) (h' : ltS b c = true) : ltS a c = true := bl_trans _ _ _ h h'
theorem ba_ext {a b : ByteArray} (h : (a.toList == b.toList) = true) : a = b := by
  have e : a.toList = b.toList := by simpa using h
  rw [ByteArray.toList_eq, ByteArray.toList_eq] at e
  obtain ⟨⟨x⟩⟩ := a
  obtain ⟨⟨y⟩⟩ := b
  simp at e
  rw [e]

/- Fails. -/
/-- The place where the fail of a mac stands, or belongs. -/
def fkN (mc : ByteArray) (fs : List FailV) : Nat := fs.findIdx (fun x => !ltS x.mc mc)
def eqM (mc : ByteArray) (x : FailV) : Bool := x.mc.toList == mc.toList
def atF (mc : ByteArray) (fs : List FailV) (p : FailV → Bool) : Bool := match fs[fkN mc fs]? with | some x => eqM mc x && p x | none => false
def bumpF (now : Int) (x : FailV) : FailV := if x.ct + 1 = 3 then ⟨x.mc, 0, now + 10⟩ else ⟨x.mc, x.ct + 1, x.un⟩
def insX (mc : ByteArray) (fs : List FailV) : List FailV := fs.take (fkN mc fs) ++ ⟨mc, 1, 0⟩ :: fs.drop (fkN mc fs)
def failI (mc : ByteArray) (fs : List FailV) : List FailV := if fs.length = 20 then fs else insX mc fs
def failX (mc : ByteArray) (now : Int) (fs : List FailV) : List FailV := match fs[fkN mc fs]? with
  | some x => if eqM mc x = true then fs.set (fkN mc fs) (bumpF now x) else failI mc fs
  | none => failI mc fs
section
variable {mc : ByteArray} {fs : List FailV} {k : Nat} {x : FailV} {now : Int}
theorem fk_le : fkN mc fs ≤ fs.length := List.findIdx_le_length
theorem fk_of (hk : k ≤ fs.length) (h1 : ∀ t x, t < k → fs[t]? = some x → ltS x.mc mc = true) (h2 : ∀ x, fs[k]? = some x → ltS x.mc mc = false) : fkN mc fs = k := by
  unfold fkN
  by_cases hlt : k < fs.length
  · rw [List.findIdx_eq hlt]
    refine ⟨by rw [h2 _ (List.getElem?_eq_getElem hlt)]; rfl, fun j hj => ?_⟩
    rw [h1 j _ hj (List.getElem?_eq_getElem (by omega))]
    rfl
  · obtain rfl : k = fs.length := by omega
    rw [List.findIdx_eq_length]
    intro y hy
    obtain ⟨i, hi⟩ := List.getElem?_of_mem hy
    rw [h1 i y (List.getElem?_eq_some_iff.1 hi).1 hi]
    rfl
theorem atF_at {p : FailV → Bool} (hx : fs[fkN mc fs]? = some x) : atF mc fs p = (eqM mc x && p x) := by unfold atF; rw [hx]
theorem atF_no {p : FailV → Bool} (hx : fs[fkN mc fs]? = none) : atF mc fs p = false := by unfold atF; rw [hx]
theorem failX_at (hx : fs[fkN mc fs]? = some x) (h : eqM mc x = true) : failX mc now fs = fs.set (fkN mc fs) (bumpF now x) := by unfold failX; rw [hx]; dsimp only; rw [if_pos h]
theorem failX_ne (hx : fs[fkN mc fs]? = some x) (h : eqM mc x = false) : failX mc now fs = failI mc fs := by unfold failX; rw [hx]; dsimp only; rw [h]; rfl
theorem failX_no (hx : fs[fkN mc fs]? = none) : failX mc now fs = failI mc fs := by unfold failX; rw [hx]
theorem failX_else (h : atF mc fs (fun _ => true) = false) : failX mc now fs = failI mc fs := by
  cases hx : fs[fkN mc fs]? with
  | none => exact failX_no hx
  | some x =>
    rw [atF_at hx, Bool.and_true] at h
    exact failX_ne hx h
theorem ris_mono (h : risB faB ltF fs = true) : ∀ (d i : Nat) (x y : FailV), fs[i]? = some y → fs[i + d + 1]? = some x → ltS y.mc x.mc = true
  | 0, i, x, y, hy, hx => (risB_iff.1 h).2 i x y hx hy
  | d + 1, i, x, y, hy, hx => by
    have hl := (List.getElem?_eq_some_iff.1 hx).1
    obtain ⟨z, hz⟩ : ∃ z, fs[i + d + 1]? = some z := ⟨_, List.getElem?_eq_getElem (by omega)⟩
    exact ltS_trans (ris_mono h d i z y hy hz) ((risB_iff.1 h).2 (i + d + 1) x z hx hz)
theorem ris_down (h : risB faB ltF fs = true) {i j : Nat} {x y : FailV} (hij : i ≤ j) (hy : fs[i]? = some y) (hx : fs[j]? = some x) (hl : ltS x.mc mc = true) : ltS y.mc mc = true := by
  by_cases he : i = j
  · subst he
    rw [hy] at hx
    cases hx
    exact hl
  · obtain ⟨d, rfl⟩ : ∃ d, j = i + d + 1 := ⟨j - i - 1, by omega⟩
    exact ltS_trans (ris_mono h d i x y hy hx) hl
end

/- Who has the word. -/
def pwB (u : UserV) (wd : ByteArray) : Bool := u.ha.toList == (passS u.sa wd 3).toList
def clB (m : Nat) (mc : ByteArray) (ip : Int) (s : SessV) : Bool := (s.us == (m : Int)) || ((s.mc.toList == mc.toList) || (s.ip == ip))
def lgF (h : HuV) (u : UserV) (m : Nat) (mc : ByteArray) (ip : Int) : Int :=
  if u.lg = 0 ∨ u.bl = 0 then 15 else if h.ss.any (clB m mc ip) = true then 9 else if h.ss.length = 3 ∨ 60 < h.es.length + h.ss.length + 2 ∨ h.nx = 10000 then 7 else 0
def lgS (h : HuV) (r : RoleV) (u : UserV) (m : Nat) (mc : ByteArray) (ip now : Int) : SessV := ⟨h.nx, (m : Int), mc, ip, now, now, 0, min r.q u.bl, now + r.m, r.i⟩
def lgG (h : HuV) (r : RoleV) (u : UserV) (m : Nat) (mc : ByteArray) (ip now : Int) : HuV :=
  { us := h.us.set m { u with lg := u.lg - 1 }, ss := h.ss ++ [lgS h r u m mc ip now], fs := h.fs, es := h.es ++ [⟨h.nx, now, 0, 0, false⟩], nx := h.nx + 1 }
structure LgR where
  g : HuV
  id : Int
  k : Int
def lgN (h : HuV) (mc : ByteArray) (now : Int) : LgR := ⟨{ h with fs := failX mc now h.fs }, 0, 13⟩
def lgY (c : CfV) (h : HuV) (u : UserV) (m : Nat) (mc : ByteArray) (ip now : Int) : LgR :=
  if lgF h u m mc ip = 0 then (match c.ros[(roI c.ros u.ro).toNat]? with | some r => ⟨lgG h r u m mc ip now, h.nx, 0⟩ | none => ⟨h, 0, 0⟩) else ⟨h, 0, lgF h u m mc ip⟩
def lgU (c : CfV) (h : HuV) (u : UserV) (wd : ByteArray) (m : Nat) (mc : ByteArray) (ip now : Int) : LgR := if pwB u wd = true then lgY c h u m mc ip now else lgN h mc now
def lgO (c : CfV) (h : HuV) (nm wd mc : ByteArray) (ip now : Int) : LgR :=
  if atF mc h.fs (fun x => decide (now < x.un)) = true then ⟨h, 0, 14⟩
  else match h.us[(ixI (nmP nm) h.us).toNat]? with
    | some u => if ixI (nmP nm) h.us < 0 then lgN h mc now else lgU c h u wd (ixI (nmP nm) h.us).toNat mc ip now
    | none => lgN h mc now
noncomputable def lgQ (c : CfV) (wd mc : ByteArray) (ip : Int) : Bool := dec (mc.size = 6) && (nhB c.ip c.b ip && dec (wd.size ≤ 40))
noncomputable def lgT (c : CfV) (h : HuV) (nm wd mc : ByteArray) (ip now : Int) : LgR :=
  if 65536 < nm.size ∨ 65536 < wd.size ∨ 65536 < mc.size then ⟨zeroHu, 0, 2⟩
  else if ¬ fauC (okG c h) now = 0 then ⟨zeroHu, 0, fauC (okG c h) now⟩
  else if lgQ c wd mc ip = true then lgO c h nm wd mc ip now else ⟨zeroHu, 0, 4⟩

/- What right guests say. -/
theorem okG_fs {c : CfV} {h : HuV} (hk : okG c h = true) : risB faB ltF h.fs = true ∧ h.fs.length ≤ 20 ∧ ∀ z, z ∈ h.fs → 0 ≤ z.ct ∧ z.ct ≤ 2 := by
  unfold okG gokB at hk
  simp only [Bool.and_eq_true] at hk
  have h1 := hk.2.2.2.2.1
  refine ⟨h1.2, of_decide_eq_true h1.1, fun z hz => ?_⟩
  obtain ⟨i, hi⟩ := List.getElem?_of_mem hz
  have h2 := (risB_iff.1 h1.2).1 i z hi
  unfold faB at h2
  simp only [Bool.and_eq_true] at h2
  exact of_decide_eq_true h2.2.1
theorem okG_us {c : CfV} {h : HuV} {m : Nat} {u : UserV} (hk : okG c h = true) (hu : h.us[m]? = some u) : u.sa.size ≤ 40 ∧ u.ha.size = 32 ∧ roH c.ros u.ro = true ∧ (0 ≤ u.bl ∧ u.bl ≤ 1000000) ∧ (0 ≤ u.lg ∧ u.lg ≤ 1000) := by
  unfold okG gokB at hk
  simp only [Bool.and_eq_true] at hk
  have h2 := hk.2.2.1
  unfold usB at h2
  simp only [Bool.and_eq_true] at h2
  have h3 := (risB_iff.1 h2.2).1 _ _ hu
  unfold uB at h3
  simp only [Bool.and_eq_true] at h3
  exact ⟨of_decide_eq_true h3.2.1, of_decide_eq_true h3.2.2.1, h3.2.2.2.1, of_decide_eq_true h3.2.2.2.2.1, of_decide_eq_true h3.2.2.2.2.2⟩
theorem okG_ro {c : CfV} {h : HuV} {s : ByteArray} (hk : okG c h = true) (hr : roH c.ros s = true) : ∃ (j : Nat) (r : RoleV), roI c.ros s = (j : Int) ∧ c.ros[j]? = some r ∧ (1 ≤ r.q ∧ r.q ≤ 1000000) ∧ (1 ≤ r.m ∧ r.m ≤ 1000) ∧ (1 ≤ r.i ∧ r.i ≤ 1000) := by
  unfold roH at hr
  rw [Option.isSome_iff_exists] at hr
  obtain ⟨r0, hr0⟩ := hr
  have hlt : c.ros.findIdx (rfP s) < c.ros.length := List.findIdx_lt_length_of_exists ⟨r0, List.mem_of_find?_eq_some hr0, List.find?_some hr0⟩
  refine ⟨c.ros.findIdx (rfP s), c.ros[c.ros.findIdx (rfP s)], by unfold roI; rw [hr0], List.getElem?_eq_getElem hlt, ?_⟩
  unfold okG gokB confB at hk
  simp only [Bool.and_eq_true] at hk
  have h1 := hk.1.2.2.2.2.2.2.2.2.2.2
  unfold rolesB at h1
  rw [List.all_eq_true] at h1
  have h2 := h1 (c.ros.findIdx (rfP s)) (by simpa using hlt)
  unfold okAt at h2
  rw [List.getElem?_eq_getElem hlt] at h2
  simp only [Bool.and_eq_true] at h2
  replace h2 := h2.1
  unfold roB at h2
  simp only [Bool.and_eq_true] at h2
  exact ⟨of_decide_eq_true h2.2.2.2.1, of_decide_eq_true h2.2.2.2.2.1, of_decide_eq_true h2.2.2.2.2.2.1⟩
theorem okG_nx {c : CfV} {h : HuV} (hk : okG c h = true) : (1 ≤ h.nx ∧ h.nx ≤ 10000) ∧ h.us.length ≤ 6 ∧ nB c.ip c.b = true := by
  unfold okG gokB confB at hk
  simp only [Bool.and_eq_true] at hk
  have h2 := hk.2.2.1
  unfold usB at h2
  simp only [Bool.and_eq_true] at h2
  exact ⟨of_decide_eq_true hk.2.1, of_decide_eq_true h2.1, hk.1.1⟩
theorem fau_z {z : Bool} {now : Int} (h : fauC z now = 0) : z = true ∧ 0 ≤ now ∧ now ≤ 100000 := by
  unfold fauC fau2 at h
  cases z with
  | false => simp at h
  | true =>
    by_cases hd : 0 ≤ now ∧ now ≤ 100000
    · exact ⟨rfl, hd⟩
    · rw [dec_n hd] at h; simp at h
/- The answer is right. -/
theorem lgF_zero {h : HuV} {u : UserV} {m : Nat} {mc : ByteArray} {ip : Int} (hf : lgF h u m mc ip = 0) : (u.lg ≠ 0 ∧ u.bl ≠ 0) ∧ h.ss.any (clB m mc ip) = false ∧ ¬ (h.ss.length = 3 ∨ 60 < h.es.length + h.ss.length + 2 ∨ h.nx = 10000) := by
  unfold lgF at hf
  split at hf
  · simp at hf
  · rename_i h1
    split at hf
    · simp at hf
    · rename_i h2
      split at hf
      · simp at hf
      · rename_i h3
        exact ⟨⟨fun e => h1 (.inl e), fun e => h1 (.inr e)⟩, by simpa using h2, h3⟩
structure LgK (c : CfV) (h : HuV) (mc : ByteArray) (ip now : Int) : Prop where
  ok : okG c h = true
  mc : mc.size = 6
  ip : 0 ≤ ip ∧ ip ≤ 4294967295
  now : 0 ≤ now ∧ now ≤ 100000
theorem lgQ_yes {c : CfV} {h : HuV} {wd mc : ByteArray} {ip now : Int} (hk : okG c h = true) (hn : 0 ≤ now ∧ now ≤ 100000) (hq : lgQ c wd mc ip = true) : LgK c h mc ip now ∧ wd.size ≤ 40 := by
  unfold lgQ nhB at hq
  simp only [Bool.and_eq_true] at hq
  exact ⟨⟨hk, of_decide_eq_true hq.1, of_decide_eq_true hq.2.1.1.2, hn⟩, of_decide_eq_true hq.2.2⟩
end Go.Proofs.YtnlepjcjakghcaaGreatDoor

namespace Go.Proofs.YtnlepjcjakghcaaGreatDoor
open Go.RowKit Go.PlainAid Go.Proofs.YtnlepjcjakghcaaGreatDoor.Bt Go.Sort
set_option linter.unusedVariables false
set_option maxRecDepth 20000
def cyN : ByteArray := ⟨#[99, 121]⟩
def cyS : ByteArray := ⟨#[115, 97, 108, 116, 32]⟩ ++ cyN
def cyR : ByteArray := ⟨#[103, 117, 101, 115, 116]⟩
def gsR : RoleV := ⟨cyR, plRa, 400, 40, 10⟩
def usV (ha : ByteArray) : UserV := ⟨cyN, cyS, ha, cyR, 70, 2⟩
noncomputable def cyU (wd : ByteArray) : UserV := usV (passS cyS wd 3)
def usH (ha : ByteArray) : HuV := ⟨[usV ha], [], [], [], 1⟩
theorem plC_ok : confB plC.ip plC.b plC.gt plC.gm plC.wm plC.rs plC.ps plC.ros = true := by decide +kernel
theorem usU_ok (ha : ByteArray) (h : ha.size = 32) : usB plC.ros [usV ha] = true := by
  unfold usB risB
  have h1 : uB plC.ros (usV ha) = true := by
    unfold uB
    have e1 : snB (usV ha).nm = true := by show snB cyN = true; decide +kernel
    have e2 : (usV ha).sa.size ≤ 40 := by show cyS.size ≤ 40; decide +kernel
    have e3 : roH plC.ros (usV ha).ro = true := by show roH plC.ros cyR = true; decide +kernel
    rw [e1, dec_y e2, dec_y (show (usV ha).ha.size = 32 from h), e3, dec_y (show 0 ≤ (usV ha).bl ∧ (usV ha).bl ≤ 1000000 from (by show (0 : Int) ≤ 70 ∧ (70 : Int) ≤ 1000000; omega)), dec_y (show 0 ≤ (usV ha).lg ∧ (usV ha).lg ≤ 1000 from (by show (0 : Int) ≤ 2 ∧ (2 : Int) ≤ 1000; omega))]
    rfl
  have h2 : (List.range [usV ha].length).all (risAt (uB plC.ros) ltU [usV ha]) = true := by
    show (List.range 1).all _ = true
    rw [List.all_eq_true]
    intro k hk
    obtain rfl : k = 0 := by simpa using hk
    unfold risAt
    simp [h1]
  rw [h2, dec_y (show [usV ha].length ≤ 6 from (by show 1 ≤ 6; omega))]
  rfl
theorem usG_0 : (true && (dec (1 ≤ (1 : Int) ∧ (1 : Int) ≤ 10000) && (true && ((dec (0 ≤ 3) && seB (sB 1 1 plC.ip plC.b) []) && ((dec (0 ≤ 20) && risB faB ltF []) && (dec (0 ≤ 60) && true)))))) = true := by decide +kernel
theorem usG_ok (ha : ByteArray) (h : ha.size = 32) : okG plC (usH ha) = true := by
  unfold okG gokB
  show (confB plC.ip plC.b plC.gt plC.gm plC.wm plC.rs plC.ps plC.ros && (_ && (usB plC.ros [usV ha] && _))) = true
  rw [plC_ok, usU_ok ha h]
  exact usG_0
theorem us_login (wd mc : ByteArray) (ip : Int) (hw : wd.size ≤ 40) (hm : mc.size = 6) (hi : 167772162 ≤ ip ∧ ip ≤ 167772164) :
    lgT plC (usH (passS cyS wd 3)) cyN wd mc ip 5 = ⟨lgG (usH (passS cyS wd 3)) gsR (cyU wd) 0 mc ip 5, 1, 0⟩ := by
  have hz : (passS cyS wd 3).size = 32 := passS_size _ _ _
  unfold lgT
  rw [if_neg (by show ¬ (65536 < cyN.size ∨ _); have : cyN.size = 2 := rfl; omega), if_neg (by rw [usG_ok _ hz]; decide)]
  have hq : lgQ plC wd mc ip = true := by
    unfold lgQ nhB
    have e1 : nB plC.ip plC.b = true := by decide +kernel
    have e2 : hB plC.ip plC.b ip = true := by
      have h : ip = 167772162 ∨ ip = 167772163 ∨ ip = 167772164 := by omega
      rcases h with rfl | rfl | rfl <;> decide +kernel
    rw [dec_y hm, e1, dec_y (show 0 ≤ ip ∧ ip ≤ 4294967295 by omega), e2, dec_y hw]
    rfl
  rw [if_pos hq]
  unfold lgO
  rw [if_neg (show ¬ (atF mc (usH (passS cyS wd 3)).fs (fun x => decide ((5 : Int) < x.un))) = true from (by
    show ¬ (atF mc [] _) = true
    rw [atF_no (by simp)]
    decide))]
  have hx : ixI (nmP cyN) (usH (passS cyS wd 3)).us = 0 := by
    show ixI (nmP cyN) [usV (passS cyS wd 3)] = 0
    unfold ixI
    have e : nmP cyN (usV (passS cyS wd 3)) = true := by show (cyN.toList == cyN.toList) = true; simp
    simp [List.find?, List.findIdx, List.findIdx.go, e]
  rw [hx]
  show (if (0 : Int) < 0 then _ else lgU plC (usH (passS cyS wd 3)) (usV (passS cyS wd 3)) wd 0 mc ip 5) = _
  rw [if_neg (by decide)]
  unfold lgU
  rw [if_pos (by show ((passS cyS wd 3).toList == (passS cyS wd 3).toList) = true; simp)]
  unfold lgY
  have hF : lgF (usH (passS cyS wd 3)) (usV (passS cyS wd 3)) 0 mc ip = 0 := by
    unfold lgF
    rw [if_neg (by show ¬ ((2 : Int) = 0 ∨ (70 : Int) = 0); decide), if_neg (by show ¬ ([] : List SessV).any _ = true; simp), if_neg (by show ¬ (0 = 3 ∨ 60 < 0 + 0 + 2 ∨ (1 : Int) = 10000); decide)]
  rw [if_pos hF]
  have hr : roI plC.ros (usV (passS cyS wd 3)).ro = 0 := by show roI plC.ros cyR = 0; decide +kernel
  rw [hr]
  rfl
end Go.Proofs.YtnlepjcjakghcaaGreatDoor

namespace Go.Proofs.YtnlepjcjakghcaaGreatDoor
open Go.RowKit
set_option linter.unusedVariables false
namespace Rlw
theorem wk {P : Program} {ops : Array Oper} {Bs : Nat → Prop} {wS : World} {R : List Rsc} {o : Oper} {l : List Oper} {r : Rsc} {rs : List Rsc} {i : Nat} {Fr : (Nat → Value) → Act} (hg : o.guard = none)
    (h : ∀ σ w, Rel.Keep Bs wS w → factsOf Bs R σ w (r.tk ++ r.nd) → ∀ post : Value → World → Prop, (∀ v w', Left R r i σ w v w' → post v w') → Yld P post ((execOp (Fr σ).eval o).run P w))
    (hr : Walk P ops Bs wS R l rs (i + 1) (fun σ => (Fr σ).put o.dst (σ i))) : Walk P ops Bs wS R (o :: l) (r :: rs) i Fr := walk_cons (step_want hg h) hr
theorem yv {P : Program} {post : Value → World → Prop} {R : List Rsc} {i : Nat} {nd : List Nat} {σ : Nat → Value} {w : World} {v : Value} (hp : ∀ u w', Left R (valR i nd v) i σ w u w' → post u w') : Yld P post (.ok (.value v) w) := yld_val (hp _ _ left_val)
theorem fv {Bs : Nat → Prop} {R : List Rsc} {σ : Nat → Value} {w : World} {l : List Nat} (hF : factsOf Bs R σ w l) (j : Nat) {nd : List Nat} {v : Value} (hm : l.contains j = true) (hr : R[j]? = some (valR j nd v)) : σ j = v := fact_of hF hm hr
theorem ov {Bs : Nat → Prop} {l : List Rsc} {i : Nat} {nd : List Nat} {v : Value} (h : ∀ r, r ∈ l → r.Ok Bs) : ∀ r, r ∈ valR i nd v :: l → r.Ok Bs := List.forall_mem_cons.2 ⟨valR_ok _ _ _, h⟩
theorem oc {Bs : Nat → Prop} {l : List Rsc} {r : Rsc} (h0 : r.Ok Bs) (h : ∀ r, r ∈ l → r.Ok Bs) : ∀ x, x ∈ r :: l → x.Ok Bs := List.forall_mem_cons.2 ⟨h0, h⟩
end Rlw
end Go.Proofs.YtnlepjcjakghcaaGreatDoor

namespace Go.Proofs.YtnlepjcjakghcaaGreatDoor
open Go.RowKit Go.PlainAid Go.Proofs.YtnlepjcjakghcaaGreatDoor.Bt Go.Sort
set_option linter.unusedVariables false
set_option maxRecDepth 20000
end Go.Proofs.YtnlepjcjakghcaaGreatDoor

namespace Go.Proofs.YtnlepjcjakghcaaGreatDoor
open Go.RowKit Go.PlainAid Go.Proofs.YtnlepjcjakghcaaGreatDoor.Bt Go.Sort
set_option linter.unusedVariables false
set_option maxRecDepth 20000

end Go.Proofs.YtnlepjcjakghcaaGreatDoor
