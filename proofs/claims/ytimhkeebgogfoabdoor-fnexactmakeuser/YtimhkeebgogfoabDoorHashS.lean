/- The model's l04Hash and Hash. -/
import Derived.Test.YtimhkeebgogfoabDoorHashSb
import Derived.Test.YtimhkeebgogfoabDoorAppB
import Derived.Deep.AppendLies
namespace Go.Proofs.YtimhkeebgogfoabDoor
open Go.RowKit Go.PlainAid
set_option linter.unusedVariables false
set_option maxRecDepth 20000

theorem kk_list : words KK 64 = [.int .u32 1116352408, .int .u32 1899447441, .int .u32 3049323471, .int .u32 3921009573, .int .u32 961987163, .int .u32 1508970993, .int .u32 2453635748, .int .u32 2870763221, .int .u32 3624381080, .int .u32 310598401, .int .u32 607225278, .int .u32 1426881987, .int .u32 1925078388, .int .u32 2162078206, .int .u32 2614888103, .int .u32 3248222580, .int .u32 3835390401, .int .u32 4022224774, .int .u32 264347078, .int .u32 604807628, .int .u32 770255983, .int .u32 1249150122, .int .u32 1555081692, .int .u32 1996064986, .int .u32 2554220882, .int .u32 2821834349, .int .u32 2952996808, .int .u32 3210313671, .int .u32 3336571891, .int .u32 3584528711, .int .u32 113926993, .int .u32 338241895, .int .u32 666307205, .int .u32 773529912, .int .u32 1294757372, .int .u32 1396182291, .int .u32 1695183700, .int .u32 1986661051, .int .u32 2177026350, .int .u32 2456956037, .int .u32 2730485921, .int .u32 2820302411, .int .u32 3259730800, .int .u32 3345764771, .int .u32 3516065817, .int .u32 3600352804, .int .u32 4094571909, .int .u32 275423344, .int .u32 430227734, .int .u32 506948616, .int .u32 659060556, .int .u32 883997877, .int .u32 958139571, .int .u32 1322822218, .int .u32 1537002063, .int .u32 1747873779, .int .u32 1955562222, .int .u32 2024104815, .int .u32 2227730452, .int .u32 2361852424, .int .u32 2428436474, .int .u32 2756734187, .int .u32 3204031479, .int .u32 3329325298] := by kernel_rfl
theorem l04Consts_any (w : World) : Calls Tryd.prog 28 #[] w fun e w' => e = .returned (.slice (some ⟨w.heap.size, 0, none⟩) 64 64) ∧ Below w.heap.size w w' ∧ w.heap.size < w'.heap.size ∧ ∀ i, i < 64 → w'.cell? ⟨w.heap.size, i, none⟩ = some (.int .u32 (KK i)) := by
  go_enter Tryd.func28, Tryd.ntmps28
  go_wp2
  go_ret
  refine ⟨rfl, (Below.refl _ _).alloc (Nat.le_refl _) _, by simp, fun i hi => ?_⟩
  rw [World.cell?_alloc_new]
  have := words_at KK 64 i hi
  rw [kk_list] at this
  simpa using this

/-- A row of one's own as a row of bytes. -/
theorem rowS_of {w : World} {B : Nat} {v : Value} {L : List Int} (O : OwnL 5 w B v L) (hL : ∀ x ∈ L, 0 ≤ x ∧ x ≤ 255) (h0 : 0 < L.length) : ∃ g cp, v = .slice (some ⟨g, 0, none⟩) L.length cp ∧ Bytes w (some ⟨g, 0, none⟩) L.length (fun j => L.getD j 0) ∧ g < w.heap.size ∧ L.length ≤ cp ∧ cp ≤ 9223372036854775807 := by
  obtain ⟨g, cp, hv, h1, h2, h3, h4, h5, h6⟩ := Laid.writ (w' := w) O hL h0
  refine ⟨g, cp, hv, ⟨fun k => getD_bd hL k, fun _ => ⟨g, 0, rfl, fun i hi => by rw [Nat.zero_add]; exact h6 i hi⟩⟩, h4, h1, by unfold maxLen at h2; omega⟩
def lenS : Value → Nat
  | .slice _ n _ => n
  | _ => 0
/-- What the model holds while it takes the blocks in. -/
structure HLd (w wr : World) (ga gk len : Nat) (F cur : Nat → Int) : Prop where
  bel : Below w.heap.size w wr
  h : ∀ i, i < 8 → wr.cell? ⟨w.heap.size, i, none⟩ = some (.int .u32 (cur i)) ∧ wr.frozen? ⟨w.heap.size, i, none⟩ = false
  row : Bytes wr (some ⟨ga, 0, none⟩) len F
  kk : ∀ i, i < 64 → wr.cell? ⟨gk, i, none⟩ = some (.int .u32 (KK i))
  na : ga ≠ w.heap.size
  nk : gk ≠ w.heap.size
theorem HLd.next {w wr w' : World} {ga gk len : Nat} {F cur nx : Nat → Int} (h : HLd w wr ga gk len F cur) (g : wr.grownBy w' (some w.heap.size)) (hn : ∀ i, i < 8 → w'.cell? ⟨w.heap.size, i, none⟩ = some (.int .u32 (nx i)) ∧ w'.frozen? ⟨w.heap.size, i, none⟩ = false) : HLd w w' ga gk len F nx := by
  refine ⟨h.bel.grown g h.bel.size (fun k hk => by cases hk; exact Nat.le_refl _), hn, ⟨h.row.1, fun h0 => ?_⟩, fun i hi => g.cell (h.kk i hi) (fun e => h.nk (by injection e)), h.na, h.nk⟩
  obtain ⟨b, off, e, hc⟩ := h.row.2 h0
  cases e
  exact ⟨ga, 0, rfl, fun i hi => g.cell (hc i hi) (fun e => h.na (by injection e))⟩
theorem slice_lh (g len cap k : Nat) (h : 64 * k + 64 ≤ len) (hc : len ≤ cap) (w : World) : (Instr.slice 37 (.slice (some ⟨g, 0, none⟩) len cap) (some (.int .i64 (64 * (k : Int)))) (some (.int .i64 (64 * (k : Int) + 64))) none).run Tryd.prog w = .ok (.slice (some ⟨g, 64 * k, none⟩) 64 (cap - 64 * k)) w := by
  have tn : (64 * (k : Int)).toNat = 64 * k := by omega
  have tm : (64 * (k : Int) + 64).toNat = 64 * k + 64 := by omega
  obtain ⟨i0, hi, hz0, hz1, hz2⟩ := info_parts Tryd.infoB
  have ht : Tryd.prog.underlying 37 = some (.slice (Tryd.prog.elem 37)) := by kernel_rfl
  have he : Tryd.prog.elem 37 = 5 := by kernel_rfl
  have hcap : ¬ cap = 64 * k := by omega
  rw [run_slice_lh w 37 _ len cap ht .i64 .i64 _ _ (by omega) (by omega) (by omega)]
  simp [sliced, sizeOf, typeInfo, he, hi, hz1, tn, tm, hcap]
  rw [Addr.add_mid, Nat.zero_add]

set_option maxHeartbeats 2000000 in
theorem l04Hash_any (a : Option Addr) (n cap : Nat) (f : Nat → Int) (w : World) (h : Bytes w a n f) (hz : n ≤ 65536) (hn : a = none → n = 0 ∧ cap = 0) (hp : ∀ b off, 0 < n → a = some ⟨b, off, none⟩ → b < w.heap.size) :
    Calls Tryd.prog 20 #[.slice a n cap] w fun e w' => e = .returned (.string (hashF f n)) ∧ Below w.heap.size w w' := by
  have H : Hid (Bytes w a n f) := h
  have HN : Hid (a = none → n = 0 ∧ cap = 0) := hn
  have HP : Hid (∀ b off, 0 < n → a = some ⟨b, off, none⟩ → b < w.heap.size) := hp
  clear h hn hp
  obtain ⟨W1, hW1⟩ : ∃ W1, W1 = w.alloc (.cells #[.int .u32 1779033703, .int .u32 3144134277, .int .u32 1013904242, .int .u32 2773480762, .int .u32 1359893119, .int .u32 2600822924, .int .u32 528734635, .int .u32 1541459225] 39) := ⟨_, rfl⟩
  have Z1 : W1.heap.size = w.heap.size + 1 := by rw [hW1]; simp
  have B1 : Hid (Below w.heap.size w W1) := by rw [hW1]; exact (Below.refl _ _).alloc (Nat.le_refl _) _
  have HC : Hid (∀ i, i < 8 → W1.cell? ⟨w.heap.size, i, none⟩ = some (.int .u32 (HB i)) ∧ W1.frozen? ⟨w.heap.size, i, none⟩ = false) := fun i hi => by
    rw [hW1]
    refine ⟨?_, by simp⟩
    rw [World.cell?_alloc_new]
    have := words_at HB 8 i hi
    rw [show words HB 8 = [.int .u32 1779033703, .int .u32 3144134277, .int .u32 1013904242, .int .u32 2773480762, .int .u32 1359893119, .int .u32 2600822924, .int .u32 528734635, .int .u32 1541459225] by kernel_rfl] at this
    simpa using this
  have HBy : Hid (∀ o, Bytes (W1.alloc o) a n f) := fun o => H.out.below (B1.out.alloc (by omega) o) HP.out
  have HO : Hid (OwnL 5 (W1.alloc (.cells #[] 5)) (w.heap.size + 1) (.slice (some ⟨w.heap.size + 1, 0, none⟩) 0 0) []) := by
    have := World.ownsRow_made (base := w.heap.size + 1) (e := 5) (size := 1) W1 #[] 0 (by omega) (Nat.zero_le _) rfl
    rw [Z1] at this
    exact this
  have HB2 : Hid (Below w.heap.size w (W1.alloc (.cells #[] 5))) := B1.out.alloc (by omega) _
  have HB3 : Hid (Below (w.heap.size + 1) W1 (W1.alloc (.cells #[] 5))) := (Below.refl _ _).alloc (by omega) _
  go_enter Tryd.func20, Tryd.ntmps20
  rw [hW1] at HBy HO
  go_wp2_with (at_builtin; refine wpl_byt _ rfl _ _ rfl (w.heap.size + 1) _ [] rfl HO.out a n cap f rfl (HBy.out _) HN.out (by simp; omega) (by simp) ?_)
  rw [← hW1]
  intro v1 w1 Y1
  have Y1' : Hid (OwnL 5 w1 (w.heap.size + 1) v1 ((List.range n).map f)) := Y1.out.own
  have F1 : Hid (Below (w.heap.size + 1) W1 w1) := HB3.out.trans Y1.out.below
  have z1 : w.heap.size + 1 ≤ w1.heap.size := by have := F1.out.size; omega
  clear Y1 HBy HO HB2 HB3 HN HP hW1
  go_wp2_with (at_builtin; refine wpl_app _ rfl _ _ rfl (w.heap.size + 1) _ _ rfl (World.ownsRow.alloc Y1'.out _) ⟨w1.heap.size, 0, none⟩ 1 1 [128] rfl rfl (news_row (Boxed.new w1 [.int .u8 128] _)) (by simp; omega) (by simp; omega) ?_)
  intro v2 w2 Y2
  have Y2' : Hid (OwnL 5 w2 (w.heap.size + 1) v2 ((List.range n).map f ++ [128])) := Y2.out.own
  have F2 : Hid (Below (w.heap.size + 1) W1 w2) := (F1.out.alloc z1 _).trans Y2.out.below
  clear Y2 Y1' F1 z1
  obtain ⟨L0, hL0⟩ : ∃ L, L = (List.range n).map f ++ [128] := ⟨_, rfl⟩
  have sL0 : L0.length = n + 1 := by rw [hL0]; simp
  have bL0 : Hid (L0 = (List.range n).map f ++ [128]) := hL0
  rw [← hL0] at Y2'
  clear hL0
  go_wp2
  go_loopw [4] (fun v wr => ∃ k : Nat, k ≤ padN (n + 1) ∧ Hid (OwnL 5 wr (w.heap.size + 1) v (L0 ++ List.replicate k 0)) ∧ Hid (Below (w.heap.size + 1) W1 wr)) (fun v _ => padN (n + 1) + n + 1 - (lenS v))
  case atStart => exact ⟨0, Nat.zero_le _, by simpa using Y2', F2⟩
  case round =>
    clear Y2' F2
    obtain ⟨k, hk, Y, B⟩ := hrel
    have pl := padN_lt (n + 1)
    have sL : (L0 ++ List.replicate k (0 : Int)).length = n + 1 + k := by simp [sL0]
    obtain ⟨g, cp, cur, hv, hg, -, -⟩ := OwnL.form Y.out (by omega)
    rw [sL] at hv
    subst hv
    have zz : w.heap.size + 1 ≤ wr.heap.size := by have := B.out.size; omega
    by_cases hlt : k < padN (n + 1)
    · have e1 : ((((n + 1 + k : Nat) : Int) % 64) != 56) = true := by have := padN_min (n + 1) k hlt; simp; omega
      have e2 : Int.tmod ((n + 1 + k : Nat) : Int) 64 = ((n + 1 + k : Nat) : Int) % 64 := Int.tmod_eq_emod_of_nonneg (by omega)
      obtain ⟨len, hlen⟩ : ∃ l, l = n + 1 + k := ⟨_, rfl⟩
      rw [← hlen] at e1 e2 Y
      rw [← hlen]
      have HLen : Hid (len = n + 1 + k) := hlen
      clear hlen
      go_wp2_with (at_builtin; refine wpl_app _ rfl _ _ rfl (w.heap.size + 1) _ _ rfl (World.ownsRow.alloc Y.out _) ⟨wr.heap.size, 0, none⟩ 1 1 [0] rfl rfl (news_row (Boxed.new wr [.int .u8 0] _)) (by simp; omega) (by simp; omega) ?_)
      intro v3 w3 Y3
      have Y3' : Hid (OwnL 5 w3 (w.heap.size + 1) v3 (L0 ++ List.replicate (k + 1) 0)) := by
        show OwnL _ _ _ _ _
        rw [List.replicate_succ']
        have := Y3.out.own
        simpa only [List.append_assoc] using this
      have B3 : Hid (Below (w.heap.size + 1) W1 w3) := (B.out.alloc zz _).trans Y3.out.below
      have sL3 : (L0 ++ List.replicate (k + 1) (0 : Int)).length = n + 1 + (k + 1) := by simp [sL0]
      obtain ⟨g3, cp3, cur3, hv3, -, -, -⟩ := OwnL.form Y3'.out (by omega)
      rw [sL3] at hv3
      have HV3 : Hid (lenS v3 = n + 1 + (k + 1)) := by rw [hv3]; rfl
      clear Y3 Y B hv3
      go_wp2
      go_roundw
      case rel => exact ⟨k + 1, by omega, Y3', B3⟩
      case measure =>
        rw [HV3.out]
        show _ < padN (n + 1) + n + 1 - len
        have := HLen.out
        omega
    · have ek : k = padN (n + 1) := by omega
      subst ek
      have e1 : ((((n + 1 + padN (n + 1) : Nat) : Int) % 64) != 56) = false := by have := padN_is (n + 1); simp; omega
      have e2 : Int.tmod ((n + 1 + padN (n + 1) : Nat) : Int) 64 = ((n + 1 + padN (n + 1) : Nat) : Int) % 64 := Int.tmod_eq_emod_of_nonneg (by omega)
      obtain ⟨len, hlen⟩ : ∃ l, l = n + 1 + padN (n + 1) := ⟨_, rfl⟩
      rw [← hlen] at e1 e2 Y
      rw [← hlen]
      clear hlt hk
      obtain ⟨L1, hL1⟩ : ∃ L, L = L0 ++ List.replicate (padN (n + 1)) (0 : Int) := ⟨_, rfl⟩
      have HL1 : Hid (L1 = L0 ++ List.replicate (padN (n + 1)) (0 : Int)) := hL1
      have sL1 : L1.length ≤ 65601 := by rw [hL1, sL]; omega
      rw [← hL1] at Y
      clear hL1 sL hlen
      go_wp2
      go_loopw [4, 5] (fun v i wr => ∃ m : Nat, m ≤ 8 ∧ i = .int .i64 (7 - (m : Int)) ∧ Hid (OwnL 5 wr (w.heap.size + 1) v (L1 ++ (List.range m).map (nb (8 * (n : Int)) 8))) ∧ Hid (Below (w.heap.size + 1) W1 wr)) (fun _ i _ => (intOf i + 1).toNat)
      case atStart => exact ⟨0, Nat.zero_le _, rfl, by simpa using Y, B⟩
      case round =>
        clear Y B zz
        obtain ⟨m, hm, rfl, Y, B⟩ := hrel
        have zz : w.heap.size + 1 ≤ wr.heap.size := by have := B.out.size; omega
        by_cases hlt : m < 8
        · obtain ⟨j, hj, hj7⟩ : ∃ j : Nat, m = 7 - j ∧ j ≤ 7 := ⟨7 - m, by omega, by omega⟩
          have ej : (7 - (m : Int)) = (j : Int) := by omega
          have HT : Hid (m + 1 ≤ 8 ∧ ((7 - ((m + 1 : Nat) : Int)) = (j : Int) - 1)) := ⟨by omega, by omega⟩
          have ev : IntKind.u8.wrap (8 * (n : Int) / 2 ^ (8 * j)) = nb (8 * (n : Int)) 8 m := by
            rw [IntKind.wrap_u8]
            unfold nb
            rw [show 8 - 1 - m = j by omega]
          obtain ⟨x, hx⟩ : ∃ x, x = nb (8 * (n : Int)) 8 m := ⟨_, rfl⟩
          have HX : Hid (x = nb (8 * (n : Int)) 8 m) := hx
          rw [← hx] at ev
          rw [ej]
          have sl : Hid ((L1 ++ (List.range m).map (nb (8 * (n : Int)) 8)).length ≤ 65700) := by show _ ≤ _; simp; omega
          clear hj ej hx
          have f1 : IntKind.i64.wrap (8 * (n : Int)) = 8 * (n : Int) := by rw [IntKind.wrap_i64]; omega
          have f2 : IntKind.i64.wrap (8 * (j : Int)) = 8 * (j : Int) := by rw [IntKind.wrap_i64]; omega
          have f3 : IntKind.u64.wrap (8 * (j : Int)) = 8 * (j : Int) := by rw [IntKind.wrap_u64]; omega
          have f4 : (8 * (j : Int)).toNat = 8 * j := by omega
          have f5 : min (8 * j) 64 = 8 * j := by omega
          have f6 : (0 : Int) ≤ 8 * (j : Int) := by omega
          have f7 : 8 * (j : Int) ≤ 64 := by omega
          go_wp2_with (at_builtin; refine wpl_app _ rfl _ _ rfl (w.heap.size + 1) _ _ rfl (World.ownsRow.alloc Y.out _) ⟨wr.heap.size, 0, none⟩ 1 1 [x] rfl rfl (news_row (Boxed.new wr [.int .u8 x] _)) (by have := sl.out; omega) (by simp; omega) ?_)
          intro v3 w3 Y3
          have Y3' : Hid (OwnL 5 w3 (w.heap.size + 1) v3 (L1 ++ (List.range (m + 1)).map (nb (8 * (n : Int)) 8))) := by
            show OwnL _ _ _ _ _
            rw [List.range_succ, List.map_append]
            have := Y3.out.own
            rw [HX.out] at this
            simpa only [List.append_assoc, List.map_cons, List.map_nil] using this
          have B3 : Hid (Below (w.heap.size + 1) W1 w3) := (B.out.alloc zz _).trans Y3.out.below
          clear Y3 Y B
          go_wp2
          go_roundw
          case rel => exact ⟨m + 1, HT.out.1, by rw [HT.out.2], Y3', B3⟩
          case measure => (simp [intOf]; try omega)
        · have em : m = 8 := by omega
          have YA : Hid (OwnL 5 wr (w.heap.size + 1) u4 (allL f n)) := by
            have e := Y.out
            rw [em, HL1.out, bL0.out] at e
            have e8 := nbl8 n hz
            unfold nbl at e8
            rw [e8] at e
            show OwnL _ _ _ _ _
            unfold allL tailL nbl
            simpa only [List.append_assoc] using e
          have e7 : (7 - (m : Int)) = -1 := by omega
          rw [e7]
          obtain ⟨ga, ca, hva, hra⟩ := rowS_of YA.out (allL_bd f n H.out.1) (by rw [allL_len]; omega)
          have hga : w.heap.size + 1 ≤ ga := by
            obtain ⟨g', c', cu', hv', hb', -⟩ := OwnL.form YA.out (by rw [allL_len]; omega)
            rw [hva] at hv'
            cases hv'
            exact hb'
          obtain ⟨nn, hnn⟩ : ∃ q, q = n / 64 + lastN n := ⟨_, rfl⟩
          have hln : (allL f n).length = 64 * nn := by rw [hnn]; exact allL_blocks f n
          rw [hln] at hva hra
          have hnb : nn ≤ 1100 := by have := lastN_le n; omega
          have HNN : Hid (nn = n / 64 + lastN n) := hnn
          have R : Hid (Bytes wr (some ⟨ga, 0, none⟩) (64 * nn) (allF f n)) := hra.1
          have ca1 := hra.2.2.1
          have ca2 := hra.2.2.2
          have lga : ga < wr.heap.size := hra.2.1
          subst hva
          clear YA Y hln hnn hra em e7 hlt hm
          go_wp2_with fail
          refine (l04Consts_any wr).mono ?_
          rintro e w4 ⟨rfl, b4, z4, k4⟩
          have X0 : Hid (HLd w w4 ga wr.heap.size (64 * nn) (allF f n) (stB (allF f n) HB 0)) := by
            refine ⟨B1.out.trans ((B.out.mono (by omega)).trans (b4.mono (by omega))), fun i hi => ?_, R.out.below b4 (fun b' o' _ h2 => by cases h2; exact lga), k4, by omega, by omega⟩
            have b5 : Below (w.heap.size + 1) W1 w4 := B.out.trans (b4.mono zz)
            rw [b5.cell (p := ⟨w.heap.size, i, none⟩) (by show w.heap.size < _; omega), b5.frozen (p := ⟨w.heap.size, i, none⟩) (by show w.heap.size < _; omega)]
            exact HC.out i hi
          clear B1 HC B R b4 k4 z4
          obtain ⟨gk, hgk⟩ : ∃ g, g = wr.heap.size := ⟨_, rfl⟩
          rw [← hgk] at X0
          rw [← hgk]
          clear hgk lga zz
          obtain ⟨len, hlen⟩ : ∃ l, l = 64 * nn := ⟨_, rfl⟩
          rw [← hlen]
          have HLen : Hid (len = 64 * nn) := hlen
          clear hlen
          go_wp2
          go_loopw [7] (fun i wr => ∃ k : Nat, k ≤ nn ∧ i = .int .i64 (64 * (k : Int)) ∧ Hid (HLd w wr ga gk (64 * nn) (allF f n) (stB (allF f n) HB k))) (fun i _ => len - (intOf i).toNat)
          case atStart => exact ⟨0, Nat.zero_le _, rfl, X0⟩
          case round =>
            clear X0
            obtain ⟨k, hk, rfl, X⟩ := hrel
            by_cases hlt : k < nn
            · have l1 : (64 * (k : Int)) < (len : Int) := by have := HLen.out; omega
              have hsl := slice_lh ga len ca k (by have := HLen.out; omega) (by have := HLen.out; omega)
              have wx1 : IntKind.i64.wrap (64 * (k : Int) + 64) = 64 * (k : Int) + 64 := by rw [IntKind.wrap_i64]; omega
              have HK : Hid (Calls Tryd.prog 29 #[.slice (some ⟨w.heap.size, 0, none⟩) 8 8, .slice (some ⟨ga, 64 * k, none⟩) 64 (ca - 64 * k), .slice (some ⟨gk, 0, none⟩) 64 64] wr fun e w' => e = .returned (.tuple #[]) ∧ Hid (HLd w w' ga gk (64 * nn) (allF f n) (stB (allF f n) HB (k + 1)))) := by
                have hby := X.out.row.part (64 * k) 64 (by omega) (some ⟨ga, 64 * k, none⟩) (fun _ => by rw [Nat.zero_add])
                exact (l04Block_any w.heap.size ga (64 * k) (ca - 64 * k) gk (stB (allF f n) HB k) (fun j => allF f n (64 * k + j)) wr X.out.h hby (by omega) X.out.kk X.out.na X.out.nk).mono fun e w' ⟨h1, h2, h3⟩ => ⟨h1, X.out.next h2 h3⟩
              clear X
              go_wp2_with (go_at_call 29; (with_reducible refine HK.out.mono ?_); rintro e w5 ⟨rfl, X5⟩)
              go_roundw
              case rel => exact ⟨k + 1, by omega, by go_num, X5⟩
              case measure => (simp [intOf]; try omega)
            · have ek : k = nn := by omega
              have l2 : ¬ (64 * (k : Int)) < (len : Int) := by have := HLen.out; omega
              have XN : Hid (HLd w wr ga gk (64 * nn) (allF f n) (hst f n)) := by
                have e := X.out
                rw [ek] at e
                unfold hst
                rw [← HNN.out]
                exact e
              obtain ⟨t, ht⟩ : ∃ t, t = hst f n := ⟨_, rfl⟩
              have HTt : Hid (t = hst f n) := ht
              rw [← ht] at XN
              have Tb : Hid (∀ i, 0 ≤ t i ∧ t i ≤ 4294967295) := by rw [ht]; exact hst_bd f n
              have C0 : Hid (∀ i, i < 8 → wr.cell? ⟨w.heap.size, i, none⟩ = some (.int .u32 (t i))) := fun i hi => (XN.out.h i hi).1
              have B0 : Hid (Below w.heap.size w wr) := XN.out.bel
              have lw : w.heap.size < wr.heap.size := World.block_lt_of_cell? wr _ (C0.out 0 (by omega))
              clear X XN ht ek hlt hk
              obtain ⟨wb, hwb⟩ : ∃ x, x = wr := ⟨_, rfl⟩
              rw [← hwb] at C0 B0 lw
              rw [← hwb]
              clear hwb
              obtain ⟨i0, hi, hz0, hz1, hz2⟩ := info_parts Tryd.infoB
              have O0 : Hid (OwnL 5 (wb.alloc (.cells #[] 5)) wb.heap.size (.slice (some ⟨wb.heap.size, 0, none⟩) 0 0) (txt t 0)) := World.ownsRow_made wb #[] 0 (Nat.le_refl _) (Nat.zero_le _) rfl
              have D0 : Hid (Below wb.heap.size wb (wb.alloc (.cells #[] 5))) := (Below.refl _ _).alloc (Nat.le_refl _) _
              go_wp2
              go_loopw [8, 9] (fun v i wq => ∃ k : Nat, k ≤ 8 ∧ i = .int .i64 k ∧ Hid (OwnL 5 wq wb.heap.size v (txt t k)) ∧ Hid (Below wb.heap.size wb wq)) (fun _ i _ => 8 - (intOf i).toNat)
              case atStart => exact ⟨0, Nat.zero_le _, rfl, O0, D0⟩
              case round =>
                clear O0 D0
                obtain ⟨k, hk, rfl, Y, D⟩ := hrel
                have zz := D.out.size
                by_cases hlt : k < 8
                · have cx : wr.cell? ⟨w.heap.size, k, none⟩ = some (.int .u32 (t k)) := by rw [D.out.cell (p := ⟨w.heap.size, k, none⟩) lw]; exact C0.out k hlt
                  have tb := Tb.out k
                  obtain ⟨x, hx⟩ : ∃ x, x = t k := ⟨_, rfl⟩
                  have HX : Hid (txt t (k + 1) = txt t k ++ [nb x 4 0, nb x 4 1, nb x 4 2, nb x 4 3]) := by show _ = _; rw [hx]; rfl
                  rw [← hx] at cx tb
                  have HL : Hid ((txt t k).length = 4 * k) := txt_len t k
                  clear hx
                  have y0 : IntKind.u8.wrap (x / 16777216) = nb x 4 0 := by rw [IntKind.wrap_u8]; rfl
                  have y1 : IntKind.u8.wrap (x / 65536) = nb x 4 1 := by rw [IntKind.wrap_u8]; rfl
                  have y2 : IntKind.u8.wrap (x / 256) = nb x 4 2 := by rw [IntKind.wrap_u8]; rfl
                  have y3 : IntKind.u8.wrap x = nb x 4 3 := by rw [IntKind.wrap_u8]; unfold nb; simp
                  obtain ⟨n0, hn0⟩ : ∃ z, z = nb x 4 0 := ⟨_, rfl⟩
                  obtain ⟨n1, hn1⟩ : ∃ z, z = nb x 4 1 := ⟨_, rfl⟩
                  obtain ⟨n2, hn2⟩ : ∃ z, z = nb x 4 2 := ⟨_, rfl⟩
                  obtain ⟨n3, hn3⟩ : ∃ z, z = nb x 4 3 := ⟨_, rfl⟩
                  rw [← hn0] at y0
                  rw [← hn1] at y1
                  rw [← hn2] at y2
                  rw [← hn3] at y3
                  rw [← hn0, ← hn1, ← hn2, ← hn3] at HX
                  clear hn0 hn1 hn2 hn3
                  have k0 : (0 : Int) ≤ (k : Int) := by omega
                  have k1 : (k : Int) < 8 := by omega
                  have lr : w.heap.size < wr.heap.size := by omega
                  have M : Hid (∀ o, (wr.alloc o).drew.cell? ⟨w.heap.size, k, none⟩ = some (.int .u32 x)) := fun o => (World.cell?_alloc_lt _ _ _ (by exact lr)).trans cx
                  go_wp2
                  go_region_held3 (fun w' => w'.cell? ⟨w.heap.size, k, none⟩ = some (.int .u32 x)) (first | exact cx | exact M.out _ | exact cx2) ((refine step_append_lies _ (by rfl) _ _ _ (by rfl) wb.heap.size 5 i0 _ 1 1 Tryd.underlying37 hi hz0 hz1 hz2 rfl (by omega) u8 (txt t k).length ((txt t k).map (.int .u8)) (by rfl) ((World.ownsRow.alloc Y.out _).drew) ⟨wr.heap.size, 0, none⟩ 4 4 [.int .u8 n0, .int .u8 n1, .int .u8 n2, .int .u8 n3] (by rfl) (by rfl) (World.news_of_block (cs := #[.int .u8 n0, .int .u8 n1, .int .u8 n2, .int .u8 n3]) (t := 5) (fr := (0, 0)) (heap_alloc_new wr _)) (by simp [Value.oneCell']) (by omega) (by rw [HL.out]; unfold maxLen; omega) (by rw [HL.out]; omega) (by simp; omega) (wr.heap.size + 1) (by simp) ?_; intro g1 cap1 w2 hown1 hgrow hat hltt; have D2 : Hid (Below wb.heap.size wb w2) := ((D.out.alloc zz _).drew).grown hgrow (by simp; omega) (fun q hq => (World.ownsRow.lt Y.out q hq).1); have cx2 : w2.cell? ⟨w.heap.size, k, none⟩ = some (.int .u32 x) := by rw [D2.out.cell (p := ⟨w.heap.size, k, none⟩) lw, ← D.out.cell (p := ⟨w.heap.size, k, none⟩) lw]; exact cx))
                  all_goals
                    have HO : Hid (OwnL 5 w2 wb.heap.size (.slice (some ⟨g1, 0, none⟩) ((txt t k).length + 4) cap1) (txt t (k + 1))) := by
                      show OwnL _ _ _ _ _
                      rw [HX.out]
                      unfold OwnL
                      simpa using hown1
                    clear hown1 hgrow hat hltt M cx cx2 Y D
                    go_wp2
                    go_roundw
                    case rel => exact ⟨k + 1, by omega, by go_num, HO, D2⟩
                    case measure => (simp [intOf]; try omega)
                · have ek : k = 8 := by omega
                  subst ek
                  obtain ⟨a, cap, hv, hby, -⟩ := OwnL.slice Y.out (txt_bd t 8)
                  have hc := conv_own (P := Tryd.prog) wr 37 9 5 Tryd.underlying37 Tryd.underlying5 Tryd.underlying9 a cap _ hby
                  subst hv
                  clear hby
                  go_wp2
                  go_ret
                  exact ⟨by unfold hashF; rw [← HTt.out]; rfl, B0.out.trans (D.out.mono (by omega))⟩

end Go.Proofs.YtimhkeebgogfoabDoor
