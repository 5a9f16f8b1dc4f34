/- A rule's text; RuleText of the model. -/
import Derived.Test.YtcgdpijmfgkalacDoorLawRule
import Derived.Test.YtcgdpijmfgkalacDoorNetT
namespace Go.Proofs.YtcgdpijmfgkalacDoor
open Go.RowKit Go.PlainAid Go.Proofs.YtcgdpijmfgkalacDoor.Bt Go.Sort
set_option linter.unusedVariables false
set_option maxRecDepth 20000
theorem protoNums_any (w : World) : Calls Tryd.prog 20 #[] w fun e w' => e = .returned (.slice (some ⟨w.heap.size, 0, none⟩) 4 4) ∧ w' = w.alloc (.cells #[.int .i64 0, .int .i64 1, .int .i64 6, .int .i64 17] 3) := by
  go_enter Tryd.func20, Tryd.ntmps20
  go_wp2
  go_ret
  exact ⟨rfl, rfl⟩
theorem protos_any (w : World) : Calls Tryd.prog 21 #[] w fun e w' => e = .returned (.slice (some ⟨w.heap.size, 0, none⟩) 4 4) ∧ w' = w.alloc (.cells #[.string ⟨#[97, 110, 121]⟩, .string ⟨#[105, 99, 109, 112]⟩, .string ⟨#[116, 99, 112]⟩, .string ⟨#[117, 100, 112]⟩] 9) := by
  go_enter Tryd.func21, Tryd.ntmps21
  go_wp2
  go_ret
  exact ⟨rfl, rfl⟩
def spc : ByteArray := ⟨#[32]⟩
/-- The first word, with its blank; what the first k protos put behind it. -/
def alS (al : Bool) : ByteArray := if al then ⟨#[97, 108, 108, 111, 119, 32]⟩ else ⟨#[100, 101, 110, 121, 32]⟩
def pk (p : Int) (k : Nat) : ByteArray := if (p = 0 ∧ 0 < k) ∨ (p = 1 ∧ 1 < k) ∨ (p = 6 ∧ 2 < k) ∨ (p = 17 ∧ 3 < k) then pwS p else ⟨#[]⟩
def dgS (n : Int) : ByteArray := strOfNums (dgs n.toNat)
/-- A rule's text. -/
def rtT (r : RuleV) : ByteArray := alS r.al ++ pwS r.p ++ spc ++ strOfNums (adl r.ip 4) ++ slash ++ dgS r.b ++ spc ++ dgS r.lo ++ spc ++ dgS r.hi
theorem app_nil (x : ByteArray) : x ++ (⟨#[]⟩ : ByteArray) = x := by
  apply ByteArray.ext
  simp
theorem pk_zero (p : Int) : pk p 0 = ⟨#[]⟩ := by unfold pk; rw [if_neg (by omega)]
theorem pk_four (p : Int) (h : p = 0 ∨ p = 1 ∨ p = 6 ∨ p = 17) : pk p 4 = pwS p := by unfold pk; rw [if_pos (by omega)]
theorem pw_size (p : Int) : (pwS p).size ≤ 4 := by unfold pwS; split; decide; split; decide; split; decide; split; decide; decide
theorem pk_size (p : Int) (k : Nat) : (pk p k).size ≤ 4 := by
  unfold pk
  split
  · exact pw_size p
  · decide
theorem ru_all {r : RuleV} (h : ruB r = true) : (r.p = 0 ∨ r.p = 1 ∨ r.p = 6 ∨ r.p = 17) ∧ nB r.ip r.b = true ∧ 0 ≤ r.lo ∧ r.lo ≤ 65535 ∧ 0 ≤ r.hi ∧ r.hi ≤ 65535 := by
  unfold ruB prB plB rgB at h
  simp only [Bool.and_eq_true] at h
  have h1 := of_decide_eq_true h.1
  have h2 := of_decide_eq_true h.2.2.1
  have h3 := of_decide_eq_true h.2.2.2
  exact ⟨h1, h.2.1, h2.1, h2.2, by omega, h3.2⟩
theorem dgS_size (n : Int) (h : n ≤ 65535) : (dgS n).size ≤ 5 := by unfold dgS; rw [strs_size]; exact (dgs_len 4 n.toNat (by omega)).2

set_option maxHeartbeats 8000000 in
theorem specRuleText_yes (p ip b lo hi : Int) (al : Bool) (w : World) (h : ruB ⟨p, ip, b, lo, hi, al⟩ = true) :
    Calls Tryd.prog 8 #[.agg #[.int .i64 p, .int .i64 ip, .int .i64 b, .int .i64 lo, .int .i64 hi, .bool al]] w fun e w' => e = .returned (.tuple #[.string (rtT ⟨p, ip, b, lo, hi, al⟩), .int .i64 0]) ∧ Below w.heap.size w w' := by
  have hr : (p = 0 ∨ p = 1 ∨ p = 6 ∨ p = 17) ∧ nB ip b = true ∧ 0 ≤ lo ∧ lo ≤ 65535 ∧ 0 ≤ hi ∧ hi ≤ 65535 := ru_all h
  have hn := nB_yes hr.2.1
  have HO : Hid (∀ w, Calls Tryd.prog 19 #[.agg #[.int .i64 p, .int .i64 ip, .int .i64 b, .int .i64 lo, .int .i64 hi, .bool al]] w fun e w' => e = .returned (.bool true) ∧ Grw w w') := fun w => h ▸ specRuleOK_any p ip b lo hi al w
  have HA : Hid (∀ w, Calls Tryd.prog 22 #[.int .i64 ip] w fun e w' => e = .returned (.string (strOfNums (adl ip 4))) ∧ Below w.heap.size w w') := fun w => l01Address_any ip w hn.1 hn.2.1
  have HD : Hid (∀ w, Calls Tryd.prog 23 #[.int .i64 b] w fun e w' => e = .returned (.string (dgS b)) ∧ Below w.heap.size w w') := fun w => l00Digits_int b w hn.2.2.1 (by omega)
  have HL : Hid (∀ w, Calls Tryd.prog 23 #[.int .i64 lo] w fun e w' => e = .returned (.string (dgS lo)) ∧ Below w.heap.size w w') := fun w => l00Digits_int lo w hr.2.2.1 (by omega)
  have HH : Hid (∀ w, Calls Tryd.prog 23 #[.int .i64 hi] w fun e w' => e = .returned (.string (dgS hi)) ∧ Below w.heap.size w w') := fun w => l00Digits_int hi w hr.2.2.2.2.1 (by omega)
  have HN : Hid (∀ w, Calls Tryd.prog 20 #[] w fun e w' => e = .returned (.slice (some ⟨w.heap.size, 0, none⟩) 4 4) ∧ w' = w.alloc (.cells #[.int .i64 0, .int .i64 1, .int .i64 6, .int .i64 17] 3)) := fun w => protoNums_any w
  have HP : Hid (∀ w, Calls Tryd.prog 21 #[] w fun e w' => e = .returned (.slice (some ⟨w.heap.size, 0, none⟩) 4 4) ∧ w' = w.alloc (.cells #[.string ⟨#[97, 110, 121]⟩, .string ⟨#[105, 99, 109, 112]⟩, .string ⟨#[116, 99, 112]⟩, .string ⟨#[117, 100, 112]⟩] 9)) := fun w => protos_any w
  have za : (strOfNums (adl ip 4)).size ≤ 16 := by rw [strs_size]; exact adl_len ip 4
  have zb : (dgS b).size ≤ 5 := dgS_size b (by omega)
  have zl : (dgS lo).size ≤ 5 := dgS_size lo (by omega)
  have zh : (dgS hi).size ≤ 5 := dgS_size hi (by omega)
  have zs : (alS al).size ≤ 6 := by unfold alS; split <;> decide
  have zp := pw_size p
  have ET : Hid (rtT ⟨p, ip, b, lo, hi, al⟩ = alS al ++ pwS p ++ spc ++ strOfNums (adl ip 4) ++ slash ++ dgS b ++ spc ++ dgS lo ++ spc ++ dgS hi) := rfl
  have hpp : Hid (p = 0 ∨ p = 1 ∨ p = 6 ∨ p = 17) := hr.1
  generalize rtT ⟨p, ip, b, lo, hi, al⟩ = Z at ET ⊢
  generalize strOfNums (adl ip 4) = TA at HA za ET
  generalize dgS b = TB at HD zb ET
  generalize dgS lo = TL at HL zl ET
  generalize dgS hi = TH at HH zh ET
  clear hr hn h
  obtain ⟨bs, hbs⟩ : ∃ bs, bs = alS al := ⟨_, rfl⟩
  rw [← hbs] at ET zs
  have main : ∀ (w1 : World) (Q : Prop), True := fun _ _ => trivial
  clear main
  cases al with
  | false =>
    go_enter Tryd.func8, Tryd.ntmps8
    go_wp2_with fail
    refine (HO.out _).mono ?_
    rintro e wx1 ⟨rfl, bx⟩
    have k0 : World.cell? _ ⟨w.heap.size, 0, none⟩ = some (.int .i64 p) := bx.keep (a := ⟨w.heap.size, 0, none⟩) (v := .int .i64 p) (by simp [go_sem])
    have k1 : World.cell? _ ⟨w.heap.size, 1, none⟩ = some (.int .i64 ip) := bx.keep (a := ⟨w.heap.size, 1, none⟩) (v := .int .i64 ip) (by simp [go_sem])
    have k2 : World.cell? _ ⟨w.heap.size, 2, none⟩ = some (.int .i64 b) := bx.keep (a := ⟨w.heap.size, 2, none⟩) (v := .int .i64 b) (by simp [go_sem])
    have k3 : World.cell? _ ⟨w.heap.size, 3, none⟩ = some (.int .i64 lo) := bx.keep (a := ⟨w.heap.size, 3, none⟩) (v := .int .i64 lo) (by simp [go_sem])
    have k4 : World.cell? _ ⟨w.heap.size, 4, none⟩ = some (.int .i64 hi) := bx.keep (a := ⟨w.heap.size, 4, none⟩) (v := .int .i64 hi) (by simp [go_sem])
    have k5 : World.cell? _ ⟨w.heap.size, 5, none⟩ = some (.bool false) := bx.keep (a := ⟨w.heap.size, 5, none⟩) (v := .bool false) (by simp [go_sem])
    have BX : Hid (Grw w _) := ((Grw.refl _).alloc _).trans bx
    clear bx
    go_wp2_with fail
    rw [show (⟨#[100, 101, 110, 121, 32]⟩ : ByteArray) = bs from hbs.symm]
    go_loopw [4, 5] (fun s i wr => ∃ (k : Nat) (T : ByteArray), k ≤ 4 ∧ i = .int .i64 k ∧ s = .string T ∧ T.size ≤ 10 ∧ Hid (T = bs ++ pk p k) ∧ Hid (Grw wx1 wr)) (fun _ i _ => 4 - (intOf i).toNat)
    case atStart => exact ⟨0, bs, by omega, rfl, rfl, by omega, by show bs = _; rw [pk_zero, app_nil], Grw.refl _⟩
    case round =>
      obtain ⟨k, T, hk, rfl, rfl, hT, HT, HG⟩ := hrel
      have c0 : wr.cell? ⟨w.heap.size, 0, none⟩ = some (.int .i64 p) := HG.out.keep k0
      have c1 : wr.cell? ⟨w.heap.size, 1, none⟩ = some (.int .i64 ip) := HG.out.keep k1
      have c2 : wr.cell? ⟨w.heap.size, 2, none⟩ = some (.int .i64 b) := HG.out.keep k2
      have c3 : wr.cell? ⟨w.heap.size, 3, none⟩ = some (.int .i64 lo) := HG.out.keep k3
      have c4 : wr.cell? ⟨w.heap.size, 4, none⟩ = some (.int .i64 hi) := HG.out.keep k4
      have c5 : wr.cell? ⟨w.heap.size, 5, none⟩ = some (.bool false) := HG.out.keep k5
      have hkk : k = 0 ∨ k = 1 ∨ k = 2 ∨ k = 3 ∨ k = 4 := by omega
      rcases hkk with rfl | rfl | rfl | rfl | rfl
      · by_cases hp : p = 0
        · have hq : ((0 : Int) == p) = true := by rw [hp]; rfl
          have hz1 : ¬ (9223372036854775807 < T.size + 3) := by omega
          have HT' : Hid (T ++ ⟨#[97, 110, 121]⟩ = bs ++ pk p 1) := by
            rw [HT.out]
            show bs ++ pk p 0 ++ _ = _
            have e1 : pk p 0 = ⟨#[]⟩ := by unfold pk; rw [if_neg (by omega)]
            have e2 : pk p 1 = ⟨#[97, 110, 121]⟩ := by unfold pk; rw [if_pos (by omega), hp]; rfl
            rw [e1, e2, app_nil]
          clear hp
          have HGD : Grw wx1 wr.drew := HG.out.drew
          go_wp2_with fail
          refine wp_region_held_drew (S := (fun wx => wx.cell? ⟨w.heap.size, 0, none⟩ = some (.int .i64 p) ∧ wr.heap.size ≤ wx.heap.size)) (by kernel_rfl) ?_ (fun hH0 => ?_)
          · exact ⟨c0, Nat.le_refl _⟩
          refine wpAnyH_take (i := 1) (v := ?v1) rfl (by kernel_rfl) (by kernel_rfl) (by kernel_rfl) (fun _ _ _ h => h) (Or.inl ⟨by rfl, ?hy1⟩) (by assumption) ?rest1
          case hy1 => (intro w hSw; (try dsimp only at hSw); go_simp; (try with_reducible rfl))
          refine wpAnyH_take (i := 4) (v := ?v2) rfl (by kernel_rfl) (by kernel_rfl) (by kernel_rfl) (fun _ _ _ h => h) (Or.inl ⟨by rfl, ?hy2⟩) (by assumption) ?rest2
          case hy2 => (intro w hSw; (try dsimp only at hSw); go_simp; (try with_reducible rfl))
          refine wpAnyH_take (i := 5) (v := ?v3) rfl (by kernel_rfl) (by kernel_rfl) (by kernel_rfl) (fun _ _ _ h => h) (Or.inl ⟨by rfl, ?hy3⟩) (by assumption) ?rest3
          case hy3 => (intro w hSw; (try dsimp only at hSw); go_simp; (try with_reducible rfl))
          refine wpAnyH_ready (rs := [0]) (by kernel_rfl) (by simp) ?_
          refine AllReadyH.cons rfl (fun K hK => ?_) ?_
          · go_simp
            go_at_call 20
            (with_reducible refine (HN.out _).mono ?_)
            rintro e wc ⟨rfl, rfl⟩
            refine hK.out _ _ ?_ (fun hH4 => ?_)
            · (try dsimp only)
              first | exact ⟨c0, Nat.le_refl _⟩ | exact ⟨((Grw.refl _).alloc _).keep c0, by simp⟩
            clear hK K hH0
            refine wpAnyH_take (i := 2) (v := ?v5) rfl (by kernel_rfl) (by kernel_rfl) (by kernel_rfl) (fun _ _ _ h => h) (Or.inl ⟨by rfl, ?hy5⟩) (by assumption) ?rest5
            case hy5 => (intro w hSw; (try dsimp only at hSw); go_simp; (try with_reducible rfl))
            refine wpAnyH_ready (rs := [3]) (by kernel_rfl) (by simp) ?_
            refine AllReadyH.cons rfl (fun K hK => ?_) ?_
            · go_simp
              refine hK.out _ _ ?_ (fun hH6 => ?_)
              · (try dsimp only)
                first | exact ⟨c0, Nat.le_refl _⟩ | exact ⟨((Grw.refl _).alloc _).keep c0, by simp⟩
              clear hK K hH4
              refine wpAnyH_take (i := 6) (v := ?v7) rfl (by kernel_rfl) (by kernel_rfl) (by kernel_rfl) (fun _ _ _ h => h) (Or.inl ⟨by rfl, ?hy7⟩) (by assumption) ?rest7
              case hy7 => (intro w hSw; (try dsimp only at hSw); go_simp; (try with_reducible rfl))
              refine wpAnyH_done (by kernel_rfl) ?_ _
              go_simp
              go_wp2_with fail
              refine (HP.out _).mono ?_
              rintro e wp ⟨rfl, rfl⟩
              go_wp2
              go_roundw
              case rel => exact ⟨0 + 1, _, by omega, by go_num, rfl, by rw [HT'.out]; have := pk_size p 1; rw [ByteArray.size_append]; omega, HT', (HGD.alloc _).alloc _⟩
              case measure => simp [intOf]
            exact AllReadyH.nil
          exact AllReadyH.nil
        · have hq : ((0 : Int) == p) = false := by simp; omega
          have HT' : Hid (T = bs ++ pk p 1) := by
            rw [HT.out]
            show bs ++ pk p 0 = bs ++ pk p 1
            congr 1
            unfold pk
            by_cases hc : (p = 0 ∧ 0 < 0) ∨ (p = 1 ∧ 1 < 0) ∨ (p = 6 ∧ 2 < 0) ∨ (p = 17 ∧ 3 < 0)
            · rw [if_pos hc, if_pos (by omega)]
            · rw [if_neg hc, if_neg (by omega)]
          clear hp
          have HGD : Grw wx1 wr.drew := HG.out.drew
          go_wp2_with fail
          refine wp_region_held_drew (S := (fun wx => wx.cell? ⟨w.heap.size, 0, none⟩ = some (.int .i64 p) ∧ wr.heap.size ≤ wx.heap.size)) (by kernel_rfl) ?_ (fun hH0 => ?_)
          · exact ⟨c0, Nat.le_refl _⟩
          refine wpAnyH_take (i := 1) (v := ?v501) rfl (by kernel_rfl) (by kernel_rfl) (by kernel_rfl) (fun _ _ _ h => h) (Or.inl ⟨by rfl, ?hy501⟩) (by assumption) ?rest501
          case hy501 => (intro w hSw; (try dsimp only at hSw); go_simp; (try with_reducible rfl))
          refine wpAnyH_take (i := 4) (v := ?v502) rfl (by kernel_rfl) (by kernel_rfl) (by kernel_rfl) (fun _ _ _ h => h) (Or.inl ⟨by rfl, ?hy502⟩) (by assumption) ?rest502
          case hy502 => (intro w hSw; (try dsimp only at hSw); go_simp; (try with_reducible rfl))
          refine wpAnyH_take (i := 5) (v := ?v503) rfl (by kernel_rfl) (by kernel_rfl) (by kernel_rfl) (fun _ _ _ h => h) (Or.inl ⟨by rfl, ?hy503⟩) (by assumption) ?rest503
          case hy503 => (intro w hSw; (try dsimp only at hSw); go_simp; (try with_reducible rfl))
          refine wpAnyH_ready (rs := [0]) (by kernel_rfl) (by simp) ?_
          refine AllReadyH.cons rfl (fun K hK => ?_) ?_
          · go_simp
            go_at_call 20
            (with_reducible refine (HN.out _).mono ?_)
            rintro e wc ⟨rfl, rfl⟩
            refine hK.out _ _ ?_ (fun hH504 => ?_)
            · (try dsimp only)
              first | exact ⟨c0, Nat.le_refl _⟩ | exact ⟨((Grw.refl _).alloc _).keep c0, by simp⟩
            clear hK K hH0
            refine wpAnyH_take (i := 2) (v := ?v505) rfl (by kernel_rfl) (by kernel_rfl) (by kernel_rfl) (fun _ _ _ h => h) (Or.inl ⟨by rfl, ?hy505⟩) (by assumption) ?rest505
            case hy505 => (intro w hSw; (try dsimp only at hSw); go_simp; (try with_reducible rfl))
            refine wpAnyH_ready (rs := [3]) (by kernel_rfl) (by simp) ?_
            refine AllReadyH.cons rfl (fun K hK => ?_) ?_
            · go_simp
              refine hK.out _ _ ?_ (fun hH506 => ?_)
              · (try dsimp only)
                first | exact ⟨c0, Nat.le_refl _⟩ | exact ⟨((Grw.refl _).alloc _).keep c0, by simp⟩
              clear hK K hH504
              refine wpAnyH_take (i := 6) (v := ?v507) rfl (by kernel_rfl) (by kernel_rfl) (by kernel_rfl) (fun _ _ _ h => h) (Or.inl ⟨by rfl, ?hy507⟩) (by assumption) ?rest507
              case hy507 => (intro w hSw; (try dsimp only at hSw); go_simp; (try with_reducible rfl))
              refine wpAnyH_done (by kernel_rfl) ?_ _
              go_simp
              go_wp2
              go_roundw
              case rel => exact ⟨0 + 1, T, by omega, by go_num, rfl, hT, HT', HGD.alloc _⟩
              case measure => simp [intOf]
            exact AllReadyH.nil
          exact AllReadyH.nil
      · by_cases hp : p = 1
        · have hq : ((1 : Int) == p) = true := by rw [hp]; rfl
          have hz1 : ¬ (9223372036854775807 < T.size + 4) := by omega
          have HT' : Hid (T ++ ⟨#[105, 99, 109, 112]⟩ = bs ++ pk p 2) := by
            rw [HT.out]
            show bs ++ pk p 1 ++ _ = _
            have e1 : pk p 1 = ⟨#[]⟩ := by unfold pk; rw [if_neg (by omega)]
            have e2 : pk p 2 = ⟨#[105, 99, 109, 112]⟩ := by unfold pk; rw [if_pos (by omega), hp]; rfl
            rw [e1, e2, app_nil]
          clear hp
          have HGD : Grw wx1 wr.drew := HG.out.drew
          go_wp2_with fail
          refine wp_region_held_drew (S := (fun wx => wx.cell? ⟨w.heap.size, 0, none⟩ = some (.int .i64 p) ∧ wr.heap.size ≤ wx.heap.size)) (by kernel_rfl) ?_ (fun hH0 => ?_)
          · exact ⟨c0, Nat.le_refl _⟩
          refine wpAnyH_take (i := 1) (v := ?v1001) rfl (by kernel_rfl) (by kernel_rfl) (by kernel_rfl) (fun _ _ _ h => h) (Or.inl ⟨by rfl, ?hy1001⟩) (by assumption) ?rest1001
          case hy1001 => (intro w hSw; (try dsimp only at hSw); go_simp; (try with_reducible rfl))
          refine wpAnyH_take (i := 4) (v := ?v1002) rfl (by kernel_rfl) (by kernel_rfl) (by kernel_rfl) (fun _ _ _ h => h) (Or.inl ⟨by rfl, ?hy1002⟩) (by assumption) ?rest1002
          case hy1002 => (intro w hSw; (try dsimp only at hSw); go_simp; (try with_reducible rfl))
          refine wpAnyH_take (i := 5) (v := ?v1003) rfl (by kernel_rfl) (by kernel_rfl) (by kernel_rfl) (fun _ _ _ h => h) (Or.inl ⟨by rfl, ?hy1003⟩) (by assumption) ?rest1003
          case hy1003 => (intro w hSw; (try dsimp only at hSw); go_simp; (try with_reducible rfl))
          refine wpAnyH_ready (rs := [0]) (by kernel_rfl) (by simp) ?_
          refine AllReadyH.cons rfl (fun K hK => ?_) ?_
          · go_simp
            go_at_call 20
            (with_reducible refine (HN.out _).mono ?_)
            rintro e wc ⟨rfl, rfl⟩
            refine hK.out _ _ ?_ (fun hH1004 => ?_)
            · (try dsimp only)
              first | exact ⟨c0, Nat.le_refl _⟩ | exact ⟨((Grw.refl _).alloc _).keep c0, by simp⟩
            clear hK K hH0
            refine wpAnyH_take (i := 2) (v := ?v1005) rfl (by kernel_rfl) (by kernel_rfl) (by kernel_rfl) (fun _ _ _ h => h) (Or.inl ⟨by rfl, ?hy1005⟩) (by assumption) ?rest1005
            case hy1005 => (intro w hSw; (try dsimp only at hSw); go_simp; (try with_reducible rfl))
            refine wpAnyH_ready (rs := [3]) (by kernel_rfl) (by simp) ?_
            refine AllReadyH.cons rfl (fun K hK => ?_) ?_
            · go_simp
              refine hK.out _ _ ?_ (fun hH1006 => ?_)
              · (try dsimp only)
                first | exact ⟨c0, Nat.le_refl _⟩ | exact ⟨((Grw.refl _).alloc _).keep c0, by simp⟩
              clear hK K hH1004
              refine wpAnyH_take (i := 6) (v := ?v1007) rfl (by kernel_rfl) (by kernel_rfl) (by kernel_rfl) (fun _ _ _ h => h) (Or.inl ⟨by rfl, ?hy1007⟩) (by assumption) ?rest1007
              case hy1007 => (intro w hSw; (try dsimp only at hSw); go_simp; (try with_reducible rfl))
              refine wpAnyH_done (by kernel_rfl) ?_ _
              go_simp
              go_wp2_with fail
              refine (HP.out _).mono ?_
              rintro e wp ⟨rfl, rfl⟩
              go_wp2
              go_roundw
              case rel => exact ⟨1 + 1, _, by omega, by go_num, rfl, by rw [HT'.out]; have := pk_size p 2; rw [ByteArray.size_append]; omega, HT', (HGD.alloc _).alloc _⟩
              case measure => simp [intOf]
            exact AllReadyH.nil
          exact AllReadyH.nil
        · have hq : ((1 : Int) == p) = false := by simp; omega
          have HT' : Hid (T = bs ++ pk p 2) := by
            rw [HT.out]
            show bs ++ pk p 1 = bs ++ pk p 2
            congr 1
            unfold pk
            by_cases hc : (p = 0 ∧ 0 < 1) ∨ (p = 1 ∧ 1 < 1) ∨ (p = 6 ∧ 2 < 1) ∨ (p = 17 ∧ 3 < 1)
            · rw [if_pos hc, if_pos (by omega)]
            · rw [if_neg hc, if_neg (by omega)]
          clear hp
          have HGD : Grw wx1 wr.drew := HG.out.drew
          go_wp2_with fail
          refine wp_region_held_drew (S := (fun wx => wx.cell? ⟨w.heap.size, 0, none⟩ = some (.int .i64 p) ∧ wr.heap.size ≤ wx.heap.size)) (by kernel_rfl) ?_ (fun hH0 => ?_)
          · exact ⟨c0, Nat.le_refl _⟩
          refine wpAnyH_take (i := 1) (v := ?v1501) rfl (by kernel_rfl) (by kernel_rfl) (by kernel_rfl) (fun _ _ _ h => h) (Or.inl ⟨by rfl, ?hy1501⟩) (by assumption) ?rest1501
          case hy1501 => (intro w hSw; (try dsimp only at hSw); go_simp; (try with_reducible rfl))
          refine wpAnyH_take (i := 4) (v := ?v1502) rfl (by kernel_rfl) (by kernel_rfl) (by kernel_rfl) (fun _ _ _ h => h) (Or.inl ⟨by rfl, ?hy1502⟩) (by assumption) ?rest1502
          case hy1502 => (intro w hSw; (try dsimp only at hSw); go_simp; (try with_reducible rfl))
          refine wpAnyH_take (i := 5) (v := ?v1503) rfl (by kernel_rfl) (by kernel_rfl) (by kernel_rfl) (fun _ _ _ h => h) (Or.inl ⟨by rfl, ?hy1503⟩) (by assumption) ?rest1503
          case hy1503 => (intro w hSw; (try dsimp only at hSw); go_simp; (try with_reducible rfl))
          refine wpAnyH_ready (rs := [0]) (by kernel_rfl) (by simp) ?_
          refine AllReadyH.cons rfl (fun K hK => ?_) ?_
          · go_simp
            go_at_call 20
            (with_reducible refine (HN.out _).mono ?_)
            rintro e wc ⟨rfl, rfl⟩
            refine hK.out _ _ ?_ (fun hH1504 => ?_)
            · (try dsimp only)
              first | exact ⟨c0, Nat.le_refl _⟩ | exact ⟨((Grw.refl _).alloc _).keep c0, by simp⟩
            clear hK K hH0
            refine wpAnyH_take (i := 2) (v := ?v1505) rfl (by kernel_rfl) (by kernel_rfl) (by kernel_rfl) (fun _ _ _ h => h) (Or.inl ⟨by rfl, ?hy1505⟩) (by assumption) ?rest1505
            case hy1505 => (intro w hSw; (try dsimp only at hSw); go_simp; (try with_reducible rfl))
            refine wpAnyH_ready (rs := [3]) (by kernel_rfl) (by simp) ?_
            refine AllReadyH.cons rfl (fun K hK => ?_) ?_
            · go_simp
              refine hK.out _ _ ?_ (fun hH1506 => ?_)
              · (try dsimp only)
                first | exact ⟨c0, Nat.le_refl _⟩ | exact ⟨((Grw.refl _).alloc _).keep c0, by simp⟩
              clear hK K hH1504
              refine wpAnyH_take (i := 6) (v := ?v1507) rfl (by kernel_rfl) (by kernel_rfl) (by kernel_rfl) (fun _ _ _ h => h) (Or.inl ⟨by rfl, ?hy1507⟩) (by assumption) ?rest1507
              case hy1507 => (intro w hSw; (try dsimp only at hSw); go_simp; (try with_reducible rfl))
              refine wpAnyH_done (by kernel_rfl) ?_ _
              go_simp
              go_wp2
              go_roundw
              case rel => exact ⟨1 + 1, T, by omega, by go_num, rfl, hT, HT', HGD.alloc _⟩
              case measure => simp [intOf]
            exact AllReadyH.nil
          exact AllReadyH.nil
      · by_cases hp : p = 6
        · have hq : ((6 : Int) == p) = true := by rw [hp]; rfl
          have hz1 : ¬ (9223372036854775807 < T.size + 3) := by omega
          have HT' : Hid (T ++ ⟨#[116, 99, 112]⟩ = bs ++ pk p 3) := by
            rw [HT.out]
            show bs ++ pk p 2 ++ _ = _
            have e1 : pk p 2 = ⟨#[]⟩ := by unfold pk; rw [if_neg (by omega)]
            have e2 : pk p 3 = ⟨#[116, 99, 112]⟩ := by unfold pk; rw [if_pos (by omega), hp]; rfl
            rw [e1, e2, app_nil]
          clear hp
          have HGD : Grw wx1 wr.drew := HG.out.drew
          go_wp2_with fail
          refine wp_region_held_drew (S := (fun wx => wx.cell? ⟨w.heap.size, 0, none⟩ = some (.int .i64 p) ∧ wr.heap.size ≤ wx.heap.size)) (by kernel_rfl) ?_ (fun hH0 => ?_)
          · exact ⟨c0, Nat.le_refl _⟩
          refine wpAnyH_take (i := 1) (v := ?v2001) rfl (by kernel_rfl) (by kernel_rfl) (by kernel_rfl) (fun _ _ _ h => h) (Or.inl ⟨by rfl, ?hy2001⟩) (by assumption) ?rest2001
          case hy2001 => (intro w hSw; (try dsimp only at hSw); go_simp; (try with_reducible rfl))
          refine wpAnyH_take (i := 4) (v := ?v2002) rfl (by kernel_rfl) (by kernel_rfl) (by kernel_rfl) (fun _ _ _ h => h) (Or.inl ⟨by rfl, ?hy2002⟩) (by assumption) ?rest2002
          case hy2002 => (intro w hSw; (try dsimp only at hSw); go_simp; (try with_reducible rfl))
          refine wpAnyH_take (i := 5) (v := ?v2003) rfl (by kernel_rfl) (by kernel_rfl) (by kernel_rfl) (fun _ _ _ h => h) (Or.inl ⟨by rfl, ?hy2003⟩) (by assumption) ?rest2003
          case hy2003 => (intro w hSw; (try dsimp only at hSw); go_simp; (try with_reducible rfl))
          refine wpAnyH_ready (rs := [0]) (by kernel_rfl) (by simp) ?_
          refine AllReadyH.cons rfl (fun K hK => ?_) ?_
          · go_simp
            go_at_call 20
            (with_reducible refine (HN.out _).mono ?_)
            rintro e wc ⟨rfl, rfl⟩
            refine hK.out _ _ ?_ (fun hH2004 => ?_)
            · (try dsimp only)
              first | exact ⟨c0, Nat.le_refl _⟩ | exact ⟨((Grw.refl _).alloc _).keep c0, by simp⟩
            clear hK K hH0
            refine wpAnyH_take (i := 2) (v := ?v2005) rfl (by kernel_rfl) (by kernel_rfl) (by kernel_rfl) (fun _ _ _ h => h) (Or.inl ⟨by rfl, ?hy2005⟩) (by assumption) ?rest2005
            case hy2005 => (intro w hSw; (try dsimp only at hSw); go_simp; (try with_reducible rfl))
            refine wpAnyH_ready (rs := [3]) (by kernel_rfl) (by simp) ?_
            refine AllReadyH.cons rfl (fun K hK => ?_) ?_
            · go_simp
              refine hK.out _ _ ?_ (fun hH2006 => ?_)
              · (try dsimp only)
                first | exact ⟨c0, Nat.le_refl _⟩ | exact ⟨((Grw.refl _).alloc _).keep c0, by simp⟩
              clear hK K hH2004
              refine wpAnyH_take (i := 6) (v := ?v2007) rfl (by kernel_rfl) (by kernel_rfl) (by kernel_rfl) (fun _ _ _ h => h) (Or.inl ⟨by rfl, ?hy2007⟩) (by assumption) ?rest2007
              case hy2007 => (intro w hSw; (try dsimp only at hSw); go_simp; (try with_reducible rfl))
              refine wpAnyH_done (by kernel_rfl) ?_ _
              go_simp
              go_wp2_with fail
              refine (HP.out _).mono ?_
              rintro e wp ⟨rfl, rfl⟩
              go_wp2
              go_roundw
              case rel => exact ⟨2 + 1, _, by omega, by go_num, rfl, by rw [HT'.out]; have := pk_size p 3; rw [ByteArray.size_append]; omega, HT', (HGD.alloc _).alloc _⟩
              case measure => simp [intOf]
            exact AllReadyH.nil
          exact AllReadyH.nil
        · have hq : ((6 : Int) == p) = false := by simp; omega
          have HT' : Hid (T = bs ++ pk p 3) := by
            rw [HT.out]
            show bs ++ pk p 2 = bs ++ pk p 3
            congr 1
            unfold pk
            by_cases hc : (p = 0 ∧ 0 < 2) ∨ (p = 1 ∧ 1 < 2) ∨ (p = 6 ∧ 2 < 2) ∨ (p = 17 ∧ 3 < 2)
            · rw [if_pos hc, if_pos (by omega)]
            · rw [if_neg hc, if_neg (by omega)]
          clear hp
          have HGD : Grw wx1 wr.drew := HG.out.drew
          go_wp2_with fail
          refine wp_region_held_drew (S := (fun wx => wx.cell? ⟨w.heap.size, 0, none⟩ = some (.int .i64 p) ∧ wr.heap.size ≤ wx.heap.size)) (by kernel_rfl) ?_ (fun hH0 => ?_)
          · exact ⟨c0, Nat.le_refl _⟩
          refine wpAnyH_take (i := 1) (v := ?v2501) rfl (by kernel_rfl) (by kernel_rfl) (by kernel_rfl) (fun _ _ _ h => h) (Or.inl ⟨by rfl, ?hy2501⟩) (by assumption) ?rest2501
          case hy2501 => (intro w hSw; (try dsimp only at hSw); go_simp; (try with_reducible rfl))
          refine wpAnyH_take (i := 4) (v := ?v2502) rfl (by kernel_rfl) (by kernel_rfl) (by kernel_rfl) (fun _ _ _ h => h) (Or.inl ⟨by rfl, ?hy2502⟩) (by assumption) ?rest2502
          case hy2502 => (intro w hSw; (try dsimp only at hSw); go_simp; (try with_reducible rfl))
          refine wpAnyH_take (i := 5) (v := ?v2503) rfl (by kernel_rfl) (by kernel_rfl) (by kernel_rfl) (fun _ _ _ h => h) (Or.inl ⟨by rfl, ?hy2503⟩) (by assumption) ?rest2503
          case hy2503 => (intro w hSw; (try dsimp only at hSw); go_simp; (try with_reducible rfl))
          refine wpAnyH_ready (rs := [0]) (by kernel_rfl) (by simp) ?_
          refine AllReadyH.cons rfl (fun K hK => ?_) ?_
          · go_simp
            go_at_call 20
            (with_reducible refine (HN.out _).mono ?_)
            rintro e wc ⟨rfl, rfl⟩
            refine hK.out _ _ ?_ (fun hH2504 => ?_)
            · (try dsimp only)
              first | exact ⟨c0, Nat.le_refl _⟩ | exact ⟨((Grw.refl _).alloc _).keep c0, by simp⟩
            clear hK K hH0
            refine wpAnyH_take (i := 2) (v := ?v2505) rfl (by kernel_rfl) (by kernel_rfl) (by kernel_rfl) (fun _ _ _ h => h) (Or.inl ⟨by rfl, ?hy2505⟩) (by assumption) ?rest2505
            case hy2505 => (intro w hSw; (try dsimp only at hSw); go_simp; (try with_reducible rfl))
            refine wpAnyH_ready (rs := [3]) (by kernel_rfl) (by simp) ?_
            refine AllReadyH.cons rfl (fun K hK => ?_) ?_
            · go_simp
              refine hK.out _ _ ?_ (fun hH2506 => ?_)
              · (try dsimp only)
                first | exact ⟨c0, Nat.le_refl _⟩ | exact ⟨((Grw.refl _).alloc _).keep c0, by simp⟩
              clear hK K hH2504
              refine wpAnyH_take (i := 6) (v := ?v2507) rfl (by kernel_rfl) (by kernel_rfl) (by kernel_rfl) (fun _ _ _ h => h) (Or.inl ⟨by rfl, ?hy2507⟩) (by assumption) ?rest2507
              case hy2507 => (intro w hSw; (try dsimp only at hSw); go_simp; (try with_reducible rfl))
              refine wpAnyH_done (by kernel_rfl) ?_ _
              go_simp
              go_wp2
              go_roundw
              case rel => exact ⟨2 + 1, T, by omega, by go_num, rfl, hT, HT', HGD.alloc _⟩
              case measure => simp [intOf]
            exact AllReadyH.nil
          exact AllReadyH.nil
      · by_cases hp : p = 17
        · have hq : ((17 : Int) == p) = true := by rw [hp]; rfl
          have hz1 : ¬ (9223372036854775807 < T.size + 3) := by omega
          have HT' : Hid (T ++ ⟨#[117, 100, 112]⟩ = bs ++ pk p 4) := by
            rw [HT.out]
            show bs ++ pk p 3 ++ _ = _
            have e1 : pk p 3 = ⟨#[]⟩ := by unfold pk; rw [if_neg (by omega)]
            have e2 : pk p 4 = ⟨#[117, 100, 112]⟩ := by unfold pk; rw [if_pos (by omega), hp]; rfl
            rw [e1, e2, app_nil]
          clear hp
          have HGD : Grw wx1 wr.drew := HG.out.drew
          go_wp2_with fail
          refine wp_region_held_drew (S := (fun wx => wx.cell? ⟨w.heap.size, 0, none⟩ = some (.int .i64 p) ∧ wr.heap.size ≤ wx.heap.size)) (by kernel_rfl) ?_ (fun hH0 => ?_)
          · exact ⟨c0, Nat.le_refl _⟩
          refine wpAnyH_take (i := 1) (v := ?v3001) rfl (by kernel_rfl) (by kernel_rfl) (by kernel_rfl) (fun _ _ _ h => h) (Or.inl ⟨by rfl, ?hy3001⟩) (by assumption) ?rest3001
          case hy3001 => (intro w hSw; (try dsimp only at hSw); go_simp; (try with_reducible rfl))
          refine wpAnyH_take (i := 4) (v := ?v3002) rfl (by kernel_rfl) (by kernel_rfl) (by kernel_rfl) (fun _ _ _ h => h) (Or.inl ⟨by rfl, ?hy3002⟩) (by assumption) ?rest3002
          case hy3002 => (intro w hSw; (try dsimp only at hSw); go_simp; (try with_reducible rfl))
          refine wpAnyH_take (i := 5) (v := ?v3003) rfl (by kernel_rfl) (by kernel_rfl) (by kernel_rfl) (fun _ _ _ h => h) (Or.inl ⟨by rfl, ?hy3003⟩) (by assumption) ?rest3003
          case hy3003 => (intro w hSw; (try dsimp only at hSw); go_simp; (try with_reducible rfl))
          refine wpAnyH_ready (rs := [0]) (by kernel_rfl) (by simp) ?_
          refine AllReadyH.cons rfl (fun K hK => ?_) ?_
          · go_simp
            go_at_call 20
            (with_reducible refine (HN.out _).mono ?_)
            rintro e wc ⟨rfl, rfl⟩
            refine hK.out _ _ ?_ (fun hH3004 => ?_)
            · (try dsimp only)
              first | exact ⟨c0, Nat.le_refl _⟩ | exact ⟨((Grw.refl _).alloc _).keep c0, by simp⟩
            clear hK K hH0
            refine wpAnyH_take (i := 2) (v := ?v3005) rfl (by kernel_rfl) (by kernel_rfl) (by kernel_rfl) (fun _ _ _ h => h) (Or.inl ⟨by rfl, ?hy3005⟩) (by assumption) ?rest3005
            case hy3005 => (intro w hSw; (try dsimp only at hSw); go_simp; (try with_reducible rfl))
            refine wpAnyH_ready (rs := [3]) (by kernel_rfl) (by simp) ?_
            refine AllReadyH.cons rfl (fun K hK => ?_) ?_
            · go_simp
              refine hK.out _ _ ?_ (fun hH3006 => ?_)
              · (try dsimp only)
                first | exact ⟨c0, Nat.le_refl _⟩ | exact ⟨((Grw.refl _).alloc _).keep c0, by simp⟩
              clear hK K hH3004
              refine wpAnyH_take (i := 6) (v := ?v3007) rfl (by kernel_rfl) (by kernel_rfl) (by kernel_rfl) (fun _ _ _ h => h) (Or.inl ⟨by rfl, ?hy3007⟩) (by assumption) ?rest3007
              case hy3007 => (intro w hSw; (try dsimp only at hSw); go_simp; (try with_reducible rfl))
              refine wpAnyH_done (by kernel_rfl) ?_ _
              go_simp
              go_wp2_with fail
              refine (HP.out _).mono ?_
              rintro e wp ⟨rfl, rfl⟩
              go_wp2
              go_roundw
              case rel => exact ⟨3 + 1, _, by omega, by go_num, rfl, by rw [HT'.out]; have := pk_size p 4; rw [ByteArray.size_append]; omega, HT', (HGD.alloc _).alloc _⟩
              case measure => simp [intOf]
            exact AllReadyH.nil
          exact AllReadyH.nil
        · have hq : ((17 : Int) == p) = false := by simp; omega
          have HT' : Hid (T = bs ++ pk p 4) := by
            rw [HT.out]
            show bs ++ pk p 3 = bs ++ pk p 4
            congr 1
            unfold pk
            by_cases hc : (p = 0 ∧ 0 < 3) ∨ (p = 1 ∧ 1 < 3) ∨ (p = 6 ∧ 2 < 3) ∨ (p = 17 ∧ 3 < 3)
            · rw [if_pos hc, if_pos (by omega)]
            · rw [if_neg hc, if_neg (by omega)]
          clear hp
          have HGD : Grw wx1 wr.drew := HG.out.drew
          go_wp2_with fail
          refine wp_region_held_drew (S := (fun wx => wx.cell? ⟨w.heap.size, 0, none⟩ = some (.int .i64 p) ∧ wr.heap.size ≤ wx.heap.size)) (by kernel_rfl) ?_ (fun hH0 => ?_)
          · exact ⟨c0, Nat.le_refl _⟩
          refine wpAnyH_take (i := 1) (v := ?v3501) rfl (by kernel_rfl) (by kernel_rfl) (by kernel_rfl) (fun _ _ _ h => h) (Or.inl ⟨by rfl, ?hy3501⟩) (by assumption) ?rest3501
          case hy3501 => (intro w hSw; (try dsimp only at hSw); go_simp; (try with_reducible rfl))
          refine wpAnyH_take (i := 4) (v := ?v3502) rfl (by kernel_rfl) (by kernel_rfl) (by kernel_rfl) (fun _ _ _ h => h) (Or.inl ⟨by rfl, ?hy3502⟩) (by assumption) ?rest3502
          case hy3502 => (intro w hSw; (try dsimp only at hSw); go_simp; (try with_reducible rfl))
          refine wpAnyH_take (i := 5) (v := ?v3503) rfl (by kernel_rfl) (by kernel_rfl) (by kernel_rfl) (fun _ _ _ h => h) (Or.inl ⟨by rfl, ?hy3503⟩) (by assumption) ?rest3503
          case hy3503 => (intro w hSw; (try dsimp only at hSw); go_simp; (try with_reducible rfl))
          refine wpAnyH_ready (rs := [0]) (by kernel_rfl) (by simp) ?_
          refine AllReadyH.cons rfl (fun K hK => ?_) ?_
          · go_simp
            go_at_call 20
            (with_reducible refine (HN.out _).mono ?_)
            rintro e wc ⟨rfl, rfl⟩
            refine hK.out _ _ ?_ (fun hH3504 => ?_)
            · (try dsimp only)
              first | exact ⟨c0, Nat.le_refl _⟩ | exact ⟨((Grw.refl _).alloc _).keep c0, by simp⟩
            clear hK K hH0
            refine wpAnyH_take (i := 2) (v := ?v3505) rfl (by kernel_rfl) (by kernel_rfl) (by kernel_rfl) (fun _ _ _ h => h) (Or.inl ⟨by rfl, ?hy3505⟩) (by assumption) ?rest3505
            case hy3505 => (intro w hSw; (try dsimp only at hSw); go_simp; (try with_reducible rfl))
            refine wpAnyH_ready (rs := [3]) (by kernel_rfl) (by simp) ?_
            refine AllReadyH.cons rfl (fun K hK => ?_) ?_
            · go_simp
              refine hK.out _ _ ?_ (fun hH3506 => ?_)
              · (try dsimp only)
                first | exact ⟨c0, Nat.le_refl _⟩ | exact ⟨((Grw.refl _).alloc _).keep c0, by simp⟩
              clear hK K hH3504
              refine wpAnyH_take (i := 6) (v := ?v3507) rfl (by kernel_rfl) (by kernel_rfl) (by kernel_rfl) (fun _ _ _ h => h) (Or.inl ⟨by rfl, ?hy3507⟩) (by assumption) ?rest3507
              case hy3507 => (intro w hSw; (try dsimp only at hSw); go_simp; (try with_reducible rfl))
              refine wpAnyH_done (by kernel_rfl) ?_ _
              go_simp
              go_wp2
              go_roundw
              case rel => exact ⟨3 + 1, T, by omega, by go_num, rfl, hT, HT', HGD.alloc _⟩
              case measure => simp [intOf]
            exact AllReadyH.nil
          exact AllReadyH.nil
      · have HT4 : Hid (T = bs ++ pwS p) := by rw [HT.out, pk_four p hpp.out]; rfl
        have HB : Hid (Below w.heap.size w wr ∧ w.heap.size < wr.heap.size) := ⟨(BX.out.trans HG.out).below, World.block_lt_of_cell? wr _ c0⟩
        have hz1 : ¬ (9223372036854775807 < T.size + 1) := by omega
        have hz2 : ¬ (9223372036854775807 < T.size + 1 + TA.size) := by omega
        have hz3 : ¬ (9223372036854775807 < T.size + 1 + TA.size + 1) := by omega
        have hz4 : ¬ (9223372036854775807 < T.size + 1 + TA.size + 1 + TB.size) := by omega
        have hz5 : ¬ (9223372036854775807 < T.size + 1 + TA.size + 1 + TB.size + 1) := by omega
        have hz6 : ¬ (9223372036854775807 < T.size + 1 + TA.size + 1 + TB.size + 1 + TL.size) := by omega
        have hz7 : ¬ (9223372036854775807 < T.size + 1 + TA.size + 1 + TB.size + 1 + TL.size + 1) := by omega
        have hz8 : ¬ (9223372036854775807 < T.size + 1 + TA.size + 1 + TB.size + 1 + TL.size + 1 + TH.size) := by omega
        clear HO HN HP BX HG k0 k1 k2 k3 k4 k5 c0 c5
        go_wp2_with fail
        go_region_held3 (fun wx => wx.cell? ⟨w.heap.size, 1, none⟩ = some (.int .i64 ip) ∧ wx.cell? ⟨w.heap.size, 2, none⟩ = some (.int .i64 b) ∧ wx.cell? ⟨w.heap.size, 3, none⟩ = some (.int .i64 lo) ∧ wx.cell? ⟨w.heap.size, 4, none⟩ = some (.int .i64 hi) ∧ Below w.heap.size w wx ∧ w.heap.size < wx.heap.size)
          (first | exact ⟨c1, c2, c3, c4, HB.out.1.drew, HB.out.2⟩ | exact (And.imp (keep_c hb1) (And.imp (keep_c hb1) (And.imp (keep_c hb1) (And.imp (keep_c hb1) (keep_bs hb1))))) (by assumption))
          (first | (go_at_call 22; (with_reducible refine (HA.out _).mono ?_); rintro e w' ⟨rfl, hb1⟩) | (go_at_call 23; (first | (with_reducible refine (HD.out _).mono ?_) | (with_reducible refine (HL.out _).mono ?_) | (with_reducible refine (HH.out _).mono ?_)); rintro e w' ⟨rfl, hb1⟩))
        rename_i hH
        have X : Hid (Below w.heap.size w w') := hH.2.2.2.2.1
        go_wp2
        go_ret2
        exact ⟨by rw [ET.out, ← HT4.out] <;> rfl, X.out⟩
  | true =>
    go_enter Tryd.func8, Tryd.ntmps8
    go_wp2_with fail
    refine (HO.out _).mono ?_
    rintro e wx1 ⟨rfl, bx⟩
    have k0 : World.cell? _ ⟨w.heap.size, 0, none⟩ = some (.int .i64 p) := bx.keep (a := ⟨w.heap.size, 0, none⟩) (v := .int .i64 p) (by simp [go_sem])
    have k1 : World.cell? _ ⟨w.heap.size, 1, none⟩ = some (.int .i64 ip) := bx.keep (a := ⟨w.heap.size, 1, none⟩) (v := .int .i64 ip) (by simp [go_sem])
    have k2 : World.cell? _ ⟨w.heap.size, 2, none⟩ = some (.int .i64 b) := bx.keep (a := ⟨w.heap.size, 2, none⟩) (v := .int .i64 b) (by simp [go_sem])
    have k3 : World.cell? _ ⟨w.heap.size, 3, none⟩ = some (.int .i64 lo) := bx.keep (a := ⟨w.heap.size, 3, none⟩) (v := .int .i64 lo) (by simp [go_sem])
    have k4 : World.cell? _ ⟨w.heap.size, 4, none⟩ = some (.int .i64 hi) := bx.keep (a := ⟨w.heap.size, 4, none⟩) (v := .int .i64 hi) (by simp [go_sem])
    have k5 : World.cell? _ ⟨w.heap.size, 5, none⟩ = some (.bool true) := bx.keep (a := ⟨w.heap.size, 5, none⟩) (v := .bool true) (by simp [go_sem])
    have BX : Hid (Grw w _) := ((Grw.refl _).alloc _).trans bx
    clear bx
    go_wp2_with fail
    rw [show (⟨#[97, 108, 108, 111, 119, 32]⟩ : ByteArray) = bs from hbs.symm]
    go_loopw [4, 5] (fun s i wr => ∃ (k : Nat) (T : ByteArray), k ≤ 4 ∧ i = .int .i64 k ∧ s = .string T ∧ T.size ≤ 10 ∧ Hid (T = bs ++ pk p k) ∧ Hid (Grw wx1 wr)) (fun _ i _ => 4 - (intOf i).toNat)
    case atStart => exact ⟨0, bs, by omega, rfl, rfl, by omega, by show bs = _; rw [pk_zero, app_nil], Grw.refl _⟩
    case round =>
      obtain ⟨k, T, hk, rfl, rfl, hT, HT, HG⟩ := hrel
      have c0 : wr.cell? ⟨w.heap.size, 0, none⟩ = some (.int .i64 p) := HG.out.keep k0
      have c1 : wr.cell? ⟨w.heap.size, 1, none⟩ = some (.int .i64 ip) := HG.out.keep k1
      have c2 : wr.cell? ⟨w.heap.size, 2, none⟩ = some (.int .i64 b) := HG.out.keep k2
      have c3 : wr.cell? ⟨w.heap.size, 3, none⟩ = some (.int .i64 lo) := HG.out.keep k3
      have c4 : wr.cell? ⟨w.heap.size, 4, none⟩ = some (.int .i64 hi) := HG.out.keep k4
      have c5 : wr.cell? ⟨w.heap.size, 5, none⟩ = some (.bool true) := HG.out.keep k5
      have hkk : k = 0 ∨ k = 1 ∨ k = 2 ∨ k = 3 ∨ k = 4 := by omega
      rcases hkk with rfl | rfl | rfl | rfl | rfl
      · by_cases hp : p = 0
        · have hq : ((0 : Int) == p) = true := by rw [hp]; rfl
          have hz1 : ¬ (9223372036854775807 < T.size + 3) := by omega
          have HT' : Hid (T ++ ⟨#[97, 110, 121]⟩ = bs ++ pk p 1) := by
            rw [HT.out]
            show bs ++ pk p 0 ++ _ = _
            have e1 : pk p 0 = ⟨#[]⟩ := by unfold pk; rw [if_neg (by omega)]
            have e2 : pk p 1 = ⟨#[97, 110, 121]⟩ := by unfold pk; rw [if_pos (by omega), hp]; rfl
            rw [e1, e2, app_nil]
          clear hp
          have HGD : Grw wx1 wr.drew := HG.out.drew
          go_wp2_with fail
          refine wp_region_held_drew (S := (fun wx => wx.cell? ⟨w.heap.size, 0, none⟩ = some (.int .i64 p) ∧ wr.heap.size ≤ wx.heap.size)) (by kernel_rfl) ?_ (fun hH0 => ?_)
          · exact ⟨c0, Nat.le_refl _⟩
          refine wpAnyH_take (i := 1) (v := ?v10001) rfl (by kernel_rfl) (by kernel_rfl) (by kernel_rfl) (fun _ _ _ h => h) (Or.inl ⟨by rfl, ?hy10001⟩) (by assumption) ?rest10001
          case hy10001 => (intro w hSw; (try dsimp only at hSw); go_simp; (try with_reducible rfl))
          refine wpAnyH_take (i := 4) (v := ?v10002) rfl (by kernel_rfl) (by kernel_rfl) (by kernel_rfl) (fun _ _ _ h => h) (Or.inl ⟨by rfl, ?hy10002⟩) (by assumption) ?rest10002
          case hy10002 => (intro w hSw; (try dsimp only at hSw); go_simp; (try with_reducible rfl))
          refine wpAnyH_take (i := 5) (v := ?v10003) rfl (by kernel_rfl) (by kernel_rfl) (by kernel_rfl) (fun _ _ _ h => h) (Or.inl ⟨by rfl, ?hy10003⟩) (by assumption) ?rest10003
          case hy10003 => (intro w hSw; (try dsimp only at hSw); go_simp; (try with_reducible rfl))
          refine wpAnyH_ready (rs := [0]) (by kernel_rfl) (by simp) ?_
          refine AllReadyH.cons rfl (fun K hK => ?_) ?_
          · go_simp
            go_at_call 20
            (with_reducible refine (HN.out _).mono ?_)
            rintro e wc ⟨rfl, rfl⟩
            refine hK.out _ _ ?_ (fun hH10004 => ?_)
            · (try dsimp only)
              first | exact ⟨c0, Nat.le_refl _⟩ | exact ⟨((Grw.refl _).alloc _).keep c0, by simp⟩
            clear hK K hH0
            refine wpAnyH_take (i := 2) (v := ?v10005) rfl (by kernel_rfl) (by kernel_rfl) (by kernel_rfl) (fun _ _ _ h => h) (Or.inl ⟨by rfl, ?hy10005⟩) (by assumption) ?rest10005
            case hy10005 => (intro w hSw; (try dsimp only at hSw); go_simp; (try with_reducible rfl))
            refine wpAnyH_ready (rs := [3]) (by kernel_rfl) (by simp) ?_
            refine AllReadyH.cons rfl (fun K hK => ?_) ?_
            · go_simp
              refine hK.out _ _ ?_ (fun hH10006 => ?_)
              · (try dsimp only)
                first | exact ⟨c0, Nat.le_refl _⟩ | exact ⟨((Grw.refl _).alloc _).keep c0, by simp⟩
              clear hK K hH10004
              refine wpAnyH_take (i := 6) (v := ?v10007) rfl (by kernel_rfl) (by kernel_rfl) (by kernel_rfl) (fun _ _ _ h => h) (Or.inl ⟨by rfl, ?hy10007⟩) (by assumption) ?rest10007
              case hy10007 => (intro w hSw; (try dsimp only at hSw); go_simp; (try with_reducible rfl))
              refine wpAnyH_done (by kernel_rfl) ?_ _
              go_simp
              go_wp2_with fail
              refine (HP.out _).mono ?_
              rintro e wp ⟨rfl, rfl⟩
              go_wp2
              go_roundw
              case rel => exact ⟨0 + 1, _, by omega, by go_num, rfl, by rw [HT'.out]; have := pk_size p 1; rw [ByteArray.size_append]; omega, HT', (HGD.alloc _).alloc _⟩
              case measure => simp [intOf]
            exact AllReadyH.nil
          exact AllReadyH.nil
        · have hq : ((0 : Int) == p) = false := by simp; omega
          have HT' : Hid (T = bs ++ pk p 1) := by
            rw [HT.out]
            show bs ++ pk p 0 = bs ++ pk p 1
            congr 1
            unfold pk
            by_cases hc : (p = 0 ∧ 0 < 0) ∨ (p = 1 ∧ 1 < 0) ∨ (p = 6 ∧ 2 < 0) ∨ (p = 17 ∧ 3 < 0)
            · rw [if_pos hc, if_pos (by omega)]
            · rw [if_neg hc, if_neg (by omega)]
          clear hp
          have HGD : Grw wx1 wr.drew := HG.out.drew
          go_wp2_with fail
          refine wp_region_held_drew (S := (fun wx => wx.cell? ⟨w.heap.size, 0, none⟩ = some (.int .i64 p) ∧ wr.heap.size ≤ wx.heap.size)) (by kernel_rfl) ?_ (fun hH0 => ?_)
          · exact ⟨c0, Nat.le_refl _⟩
          refine wpAnyH_take (i := 1) (v := ?v10501) rfl (by kernel_rfl) (by kernel_rfl) (by kernel_rfl) (fun _ _ _ h => h) (Or.inl ⟨by rfl, ?hy10501⟩) (by assumption) ?rest10501
          case hy10501 => (intro w hSw; (try dsimp only at hSw); go_simp; (try with_reducible rfl))
          refine wpAnyH_take (i := 4) (v := ?v10502) rfl (by kernel_rfl) (by kernel_rfl) (by kernel_rfl) (fun _ _ _ h => h) (Or.inl ⟨by rfl, ?hy10502⟩) (by assumption) ?rest10502
          case hy10502 => (intro w hSw; (try dsimp only at hSw); go_simp; (try with_reducible rfl))
          refine wpAnyH_take (i := 5) (v := ?v10503) rfl (by kernel_rfl) (by kernel_rfl) (by kernel_rfl) (fun _ _ _ h => h) (Or.inl ⟨by rfl, ?hy10503⟩) (by assumption) ?rest10503
          case hy10503 => (intro w hSw; (try dsimp only at hSw); go_simp; (try with_reducible rfl))
          refine wpAnyH_ready (rs := [0]) (by kernel_rfl) (by simp) ?_
          refine AllReadyH.cons rfl (fun K hK => ?_) ?_
          · go_simp
            go_at_call 20
            (with_reducible refine (HN.out _).mono ?_)
            rintro e wc ⟨rfl, rfl⟩
            refine hK.out _ _ ?_ (fun hH10504 => ?_)
            · (try dsimp only)
              first | exact ⟨c0, Nat.le_refl _⟩ | exact ⟨((Grw.refl _).alloc _).keep c0, by simp⟩
            clear hK K hH0
            refine wpAnyH_take (i := 2) (v := ?v10505) rfl (by kernel_rfl) (by kernel_rfl) (by kernel_rfl) (fun _ _ _ h => h) (Or.inl ⟨by rfl, ?hy10505⟩) (by assumption) ?rest10505
            case hy10505 => (intro w hSw; (try dsimp only at hSw); go_simp; (try with_reducible rfl))
            refine wpAnyH_ready (rs := [3]) (by kernel_rfl) (by simp) ?_
            refine AllReadyH.cons rfl (fun K hK => ?_) ?_
            · go_simp
              refine hK.out _ _ ?_ (fun hH10506 => ?_)
              · (try dsimp only)
                first | exact ⟨c0, Nat.le_refl _⟩ | exact ⟨((Grw.refl _).alloc _).keep c0, by simp⟩
              clear hK K hH10504
              refine wpAnyH_take (i := 6) (v := ?v10507) rfl (by kernel_rfl) (by kernel_rfl) (by kernel_rfl) (fun _ _ _ h => h) (Or.inl ⟨by rfl, ?hy10507⟩) (by assumption) ?rest10507
              case hy10507 => (intro w hSw; (try dsimp only at hSw); go_simp; (try with_reducible rfl))
              refine wpAnyH_done (by kernel_rfl) ?_ _
              go_simp
              go_wp2
              go_roundw
              case rel => exact ⟨0 + 1, T, by omega, by go_num, rfl, hT, HT', HGD.alloc _⟩
              case measure => simp [intOf]
            exact AllReadyH.nil
          exact AllReadyH.nil
      · by_cases hp : p = 1
        · have hq : ((1 : Int) == p) = true := by rw [hp]; rfl
          have hz1 : ¬ (9223372036854775807 < T.size + 4) := by omega
          have HT' : Hid (T ++ ⟨#[105, 99, 109, 112]⟩ = bs ++ pk p 2) := by
            rw [HT.out]
            show bs ++ pk p 1 ++ _ = _
            have e1 : pk p 1 = ⟨#[]⟩ := by unfold pk; rw [if_neg (by omega)]
            have e2 : pk p 2 = ⟨#[105, 99, 109, 112]⟩ := by unfold pk; rw [if_pos (by omega), hp]; rfl
            rw [e1, e2, app_nil]
          clear hp
          have HGD : Grw wx1 wr.drew := HG.out.drew
          go_wp2_with fail
          refine wp_region_held_drew (S := (fun wx => wx.cell? ⟨w.heap.size, 0, none⟩ = some (.int .i64 p) ∧ wr.heap.size ≤ wx.heap.size)) (by kernel_rfl) ?_ (fun hH0 => ?_)
          · exact ⟨c0, Nat.le_refl _⟩
          refine wpAnyH_take (i := 1) (v := ?v11001) rfl (by kernel_rfl) (by kernel_rfl) (by kernel_rfl) (fun _ _ _ h => h) (Or.inl ⟨by rfl, ?hy11001⟩) (by assumption) ?rest11001
          case hy11001 => (intro w hSw; (try dsimp only at hSw); go_simp; (try with_reducible rfl))
          refine wpAnyH_take (i := 4) (v := ?v11002) rfl (by kernel_rfl) (by kernel_rfl) (by kernel_rfl) (fun _ _ _ h => h) (Or.inl ⟨by rfl, ?hy11002⟩) (by assumption) ?rest11002
          case hy11002 => (intro w hSw; (try dsimp only at hSw); go_simp; (try with_reducible rfl))
          refine wpAnyH_take (i := 5) (v := ?v11003) rfl (by kernel_rfl) (by kernel_rfl) (by kernel_rfl) (fun _ _ _ h => h) (Or.inl ⟨by rfl, ?hy11003⟩) (by assumption) ?rest11003
          case hy11003 => (intro w hSw; (try dsimp only at hSw); go_simp; (try with_reducible rfl))
          refine wpAnyH_ready (rs := [0]) (by kernel_rfl) (by simp) ?_
          refine AllReadyH.cons rfl (fun K hK => ?_) ?_
          · go_simp
            go_at_call 20
            (with_reducible refine (HN.out _).mono ?_)
            rintro e wc ⟨rfl, rfl⟩
            refine hK.out _ _ ?_ (fun hH11004 => ?_)
            · (try dsimp only)
              first | exact ⟨c0, Nat.le_refl _⟩ | exact ⟨((Grw.refl _).alloc _).keep c0, by simp⟩
            clear hK K hH0
            refine wpAnyH_take (i := 2) (v := ?v11005) rfl (by kernel_rfl) (by kernel_rfl) (by kernel_rfl) (fun _ _ _ h => h) (Or.inl ⟨by rfl, ?hy11005⟩) (by assumption) ?rest11005
            case hy11005 => (intro w hSw; (try dsimp only at hSw); go_simp; (try with_reducible rfl))
            refine wpAnyH_ready (rs := [3]) (by kernel_rfl) (by simp) ?_
            refine AllReadyH.cons rfl (fun K hK => ?_) ?_
            · go_simp
              refine hK.out _ _ ?_ (fun hH11006 => ?_)
              · (try dsimp only)
                first | exact ⟨c0, Nat.le_refl _⟩ | exact ⟨((Grw.refl _).alloc _).keep c0, by simp⟩
              clear hK K hH11004
              refine wpAnyH_take (i := 6) (v := ?v11007) rfl (by kernel_rfl) (by kernel_rfl) (by kernel_rfl) (fun _ _ _ h => h) (Or.inl ⟨by rfl, ?hy11007⟩) (by assumption) ?rest11007
              case hy11007 => (intro w hSw; (try dsimp only at hSw); go_simp; (try with_reducible rfl))
              refine wpAnyH_done (by kernel_rfl) ?_ _
              go_simp
              go_wp2_with fail
              refine (HP.out _).mono ?_
              rintro e wp ⟨rfl, rfl⟩
              go_wp2
              go_roundw
              case rel => exact ⟨1 + 1, _, by omega, by go_num, rfl, by rw [HT'.out]; have := pk_size p 2; rw [ByteArray.size_append]; omega, HT', (HGD.alloc _).alloc _⟩
              case measure => simp [intOf]
            exact AllReadyH.nil
          exact AllReadyH.nil
        · have hq : ((1 : Int) == p) = false := by simp; omega
          have HT' : Hid (T = bs ++ pk p 2) := by
            rw [HT.out]
            show bs ++ pk p 1 = bs ++ pk p 2
            congr 1
            unfold pk
            by_cases hc : (p = 0 ∧ 0 < 1) ∨ (p = 1 ∧ 1 < 1) ∨ (p = 6 ∧ 2 < 1) ∨ (p = 17 ∧ 3 < 1)
            · rw [if_pos hc, if_pos (by omega)]
            · rw [if_neg hc, if_neg (by omega)]
          clear hp
          have HGD : Grw wx1 wr.drew := HG.out.drew
          go_wp2_with fail
          refine wp_region_held_drew (S := (fun wx => wx.cell? ⟨w.heap.size, 0, none⟩ = some (.int .i64 p) ∧ wr.heap.size ≤ wx.heap.size)) (by kernel_rfl) ?_ (fun hH0 => ?_)
          · exact ⟨c0, Nat.le_refl _⟩
          refine wpAnyH_take (i := 1) (v := ?v11501) rfl (by kernel_rfl) (by kernel_rfl) (by kernel_rfl) (fun _ _ _ h => h) (Or.inl ⟨by rfl, ?hy11501⟩) (by assumption) ?rest11501
          case hy11501 => (intro w hSw; (try dsimp only at hSw); go_simp; (try with_reducible rfl))
          refine wpAnyH_take (i := 4) (v := ?v11502) rfl (by kernel_rfl) (by kernel_rfl) (by kernel_rfl) (fun _ _ _ h => h) (Or.inl ⟨by rfl, ?hy11502⟩) (by assumption) ?rest11502
          case hy11502 => (intro w hSw; (try dsimp only at hSw); go_simp; (try with_reducible rfl))
          refine wpAnyH_take (i := 5) (v := ?v11503) rfl (by kernel_rfl) (by kernel_rfl) (by kernel_rfl) (fun _ _ _ h => h) (Or.inl ⟨by rfl, ?hy11503⟩) (by assumption) ?rest11503
          case hy11503 => (intro w hSw; (try dsimp only at hSw); go_simp; (try with_reducible rfl))
          refine wpAnyH_ready (rs := [0]) (by kernel_rfl) (by simp) ?_
          refine AllReadyH.cons rfl (fun K hK => ?_) ?_
          · go_simp
            go_at_call 20
            (with_reducible refine (HN.out _).mono ?_)
            rintro e wc ⟨rfl, rfl⟩
            refine hK.out _ _ ?_ (fun hH11504 => ?_)
            · (try dsimp only)
              first | exact ⟨c0, Nat.le_refl _⟩ | exact ⟨((Grw.refl _).alloc _).keep c0, by simp⟩
            clear hK K hH0
            refine wpAnyH_take (i := 2) (v := ?v11505) rfl (by kernel_rfl) (by kernel_rfl) (by kernel_rfl) (fun _ _ _ h => h) (Or.inl ⟨by rfl, ?hy11505⟩) (by assumption) ?rest11505
            case hy11505 => (intro w hSw; (try dsimp only at hSw); go_simp; (try with_reducible rfl))
            refine wpAnyH_ready (rs := [3]) (by kernel_rfl) (by simp) ?_
            refine AllReadyH.cons rfl (fun K hK => ?_) ?_
            · go_simp
              refine hK.out _ _ ?_ (fun hH11506 => ?_)
              · (try dsimp only)
                first | exact ⟨c0, Nat.le_refl _⟩ | exact ⟨((Grw.refl _).alloc _).keep c0, by simp⟩
              clear hK K hH11504
              refine wpAnyH_take (i := 6) (v := ?v11507) rfl (by kernel_rfl) (by kernel_rfl) (by kernel_rfl) (fun _ _ _ h => h) (Or.inl ⟨by rfl, ?hy11507⟩) (by assumption) ?rest11507
              case hy11507 => (intro w hSw; (try dsimp only at hSw); go_simp; (try with_reducible rfl))
              refine wpAnyH_done (by kernel_rfl) ?_ _
              go_simp
              go_wp2
              go_roundw
              case rel => exact ⟨1 + 1, T, by omega, by go_num, rfl, hT, HT', HGD.alloc _⟩
              case measure => simp [intOf]
            exact AllReadyH.nil
          exact AllReadyH.nil
      · by_cases hp : p = 6
        · have hq : ((6 : Int) == p) = true := by rw [hp]; rfl
          have hz1 : ¬ (9223372036854775807 < T.size + 3) := by omega
          have HT' : Hid (T ++ ⟨#[116, 99, 112]⟩ = bs ++ pk p 3) := by
            rw [HT.out]
            show bs ++ pk p 2 ++ _ = _
            have e1 : pk p 2 = ⟨#[]⟩ := by unfold pk; rw [if_neg (by omega)]
            have e2 : pk p 3 = ⟨#[116, 99, 112]⟩ := by unfold pk; rw [if_pos (by omega), hp]; rfl
            rw [e1, e2, app_nil]
          clear hp
          have HGD : Grw wx1 wr.drew := HG.out.drew
          go_wp2_with fail
          refine wp_region_held_drew (S := (fun wx => wx.cell? ⟨w.heap.size, 0, none⟩ = some (.int .i64 p) ∧ wr.heap.size ≤ wx.heap.size)) (by kernel_rfl) ?_ (fun hH0 => ?_)
          · exact ⟨c0, Nat.le_refl _⟩
          refine wpAnyH_take (i := 1) (v := ?v12001) rfl (by kernel_rfl) (by kernel_rfl) (by kernel_rfl) (fun _ _ _ h => h) (Or.inl ⟨by rfl, ?hy12001⟩) (by assumption) ?rest12001
          case hy12001 => (intro w hSw; (try dsimp only at hSw); go_simp; (try with_reducible rfl))
          refine wpAnyH_take (i := 4) (v := ?v12002) rfl (by kernel_rfl) (by kernel_rfl) (by kernel_rfl) (fun _ _ _ h => h) (Or.inl ⟨by rfl, ?hy12002⟩) (by assumption) ?rest12002
          case hy12002 => (intro w hSw; (try dsimp only at hSw); go_simp; (try with_reducible rfl))
          refine wpAnyH_take (i := 5) (v := ?v12003) rfl (by kernel_rfl) (by kernel_rfl) (by kernel_rfl) (fun _ _ _ h => h) (Or.inl ⟨by rfl, ?hy12003⟩) (by assumption) ?rest12003
          case hy12003 => (intro w hSw; (try dsimp only at hSw); go_simp; (try with_reducible rfl))
          refine wpAnyH_ready (rs := [0]) (by kernel_rfl) (by simp) ?_
          refine AllReadyH.cons rfl (fun K hK => ?_) ?_
          · go_simp
            go_at_call 20
            (with_reducible refine (HN.out _).mono ?_)
            rintro e wc ⟨rfl, rfl⟩
            refine hK.out _ _ ?_ (fun hH12004 => ?_)
            · (try dsimp only)
              first | exact ⟨c0, Nat.le_refl _⟩ | exact ⟨((Grw.refl _).alloc _).keep c0, by simp⟩
            clear hK K hH0
            refine wpAnyH_take (i := 2) (v := ?v12005) rfl (by kernel_rfl) (by kernel_rfl) (by kernel_rfl) (fun _ _ _ h => h) (Or.inl ⟨by rfl, ?hy12005⟩) (by assumption) ?rest12005
            case hy12005 => (intro w hSw; (try dsimp only at hSw); go_simp; (try with_reducible rfl))
            refine wpAnyH_ready (rs := [3]) (by kernel_rfl) (by simp) ?_
            refine AllReadyH.cons rfl (fun K hK => ?_) ?_
            · go_simp
              refine hK.out _ _ ?_ (fun hH12006 => ?_)
              · (try dsimp only)
                first | exact ⟨c0, Nat.le_refl _⟩ | exact ⟨((Grw.refl _).alloc _).keep c0, by simp⟩
              clear hK K hH12004
              refine wpAnyH_take (i := 6) (v := ?v12007) rfl (by kernel_rfl) (by kernel_rfl) (by kernel_rfl) (fun _ _ _ h => h) (Or.inl ⟨by rfl, ?hy12007⟩) (by assumption) ?rest12007
              case hy12007 => (intro w hSw; (try dsimp only at hSw); go_simp; (try with_reducible rfl))
              refine wpAnyH_done (by kernel_rfl) ?_ _
              go_simp
              go_wp2_with fail
              refine (HP.out _).mono ?_
              rintro e wp ⟨rfl, rfl⟩
              go_wp2
              go_roundw
              case rel => exact ⟨2 + 1, _, by omega, by go_num, rfl, by rw [HT'.out]; have := pk_size p 3; rw [ByteArray.size_append]; omega, HT', (HGD.alloc _).alloc _⟩
              case measure => simp [intOf]
            exact AllReadyH.nil
          exact AllReadyH.nil
        · have hq : ((6 : Int) == p) = false := by simp; omega
          have HT' : Hid (T = bs ++ pk p 3) := by
            rw [HT.out]
            show bs ++ pk p 2 = bs ++ pk p 3
            congr 1
            unfold pk
            by_cases hc : (p = 0 ∧ 0 < 2) ∨ (p = 1 ∧ 1 < 2) ∨ (p = 6 ∧ 2 < 2) ∨ (p = 17 ∧ 3 < 2)
            · rw [if_pos hc, if_pos (by omega)]
            · rw [if_neg hc, if_neg (by omega)]
          clear hp
          have HGD : Grw wx1 wr.drew := HG.out.drew
          go_wp2_with fail
          refine wp_region_held_drew (S := (fun wx => wx.cell? ⟨w.heap.size, 0, none⟩ = some (.int .i64 p) ∧ wr.heap.size ≤ wx.heap.size)) (by kernel_rfl) ?_ (fun hH0 => ?_)
          · exact ⟨c0, Nat.le_refl _⟩
          refine wpAnyH_take (i := 1) (v := ?v12501) rfl (by kernel_rfl) (by kernel_rfl) (by kernel_rfl) (fun _ _ _ h => h) (Or.inl ⟨by rfl, ?hy12501⟩) (by assumption) ?rest12501
          case hy12501 => (intro w hSw; (try dsimp only at hSw); go_simp; (try with_reducible rfl))
          refine wpAnyH_take (i := 4) (v := ?v12502) rfl (by kernel_rfl) (by kernel_rfl) (by kernel_rfl) (fun _ _ _ h => h) (Or.inl ⟨by rfl, ?hy12502⟩) (by assumption) ?rest12502
          case hy12502 => (intro w hSw; (try dsimp only at hSw); go_simp; (try with_reducible rfl))
          refine wpAnyH_take (i := 5) (v := ?v12503) rfl (by kernel_rfl) (by kernel_rfl) (by kernel_rfl) (fun _ _ _ h => h) (Or.inl ⟨by rfl, ?hy12503⟩) (by assumption) ?rest12503
          case hy12503 => (intro w hSw; (try dsimp only at hSw); go_simp; (try with_reducible rfl))
          refine wpAnyH_ready (rs := [0]) (by kernel_rfl) (by simp) ?_
          refine AllReadyH.cons rfl (fun K hK => ?_) ?_
          · go_simp
            go_at_call 20
            (with_reducible refine (HN.out _).mono ?_)
            rintro e wc ⟨rfl, rfl⟩
            refine hK.out _ _ ?_ (fun hH12504 => ?_)
            · (try dsimp only)
              first | exact ⟨c0, Nat.le_refl _⟩ | exact ⟨((Grw.refl _).alloc _).keep c0, by simp⟩
            clear hK K hH0
            refine wpAnyH_take (i := 2) (v := ?v12505) rfl (by kernel_rfl) (by kernel_rfl) (by kernel_rfl) (fun _ _ _ h => h) (Or.inl ⟨by rfl, ?hy12505⟩) (by assumption) ?rest12505
            case hy12505 => (intro w hSw; (try dsimp only at hSw); go_simp; (try with_reducible rfl))
            refine wpAnyH_ready (rs := [3]) (by kernel_rfl) (by simp) ?_
            refine AllReadyH.cons rfl (fun K hK => ?_) ?_
            · go_simp
              refine hK.out _ _ ?_ (fun hH12506 => ?_)
              · (try dsimp only)
                first | exact ⟨c0, Nat.le_refl _⟩ | exact ⟨((Grw.refl _).alloc _).keep c0, by simp⟩
              clear hK K hH12504
              refine wpAnyH_take (i := 6) (v := ?v12507) rfl (by kernel_rfl) (by kernel_rfl) (by kernel_rfl) (fun _ _ _ h => h) (Or.inl ⟨by rfl, ?hy12507⟩) (by assumption) ?rest12507
              case hy12507 => (intro w hSw; (try dsimp only at hSw); go_simp; (try with_reducible rfl))
              refine wpAnyH_done (by kernel_rfl) ?_ _
              go_simp
              go_wp2
              go_roundw
              case rel => exact ⟨2 + 1, T, by omega, by go_num, rfl, hT, HT', HGD.alloc _⟩
              case measure => simp [intOf]
            exact AllReadyH.nil
          exact AllReadyH.nil
      · by_cases hp : p = 17
        · have hq : ((17 : Int) == p) = true := by rw [hp]; rfl
          have hz1 : ¬ (9223372036854775807 < T.size + 3) := by omega
          have HT' : Hid (T ++ ⟨#[117, 100, 112]⟩ = bs ++ pk p 4) := by
            rw [HT.out]
            show bs ++ pk p 3 ++ _ = _
            have e1 : pk p 3 = ⟨#[]⟩ := by unfold pk; rw [if_neg (by omega)]
            have e2 : pk p 4 = ⟨#[117, 100, 112]⟩ := by unfold pk; rw [if_pos (by omega), hp]; rfl
            rw [e1, e2, app_nil]
          clear hp
          have HGD : Grw wx1 wr.drew := HG.out.drew
          go_wp2_with fail
          refine wp_region_held_drew (S := (fun wx => wx.cell? ⟨w.heap.size, 0, none⟩ = some (.int .i64 p) ∧ wr.heap.size ≤ wx.heap.size)) (by kernel_rfl) ?_ (fun hH0 => ?_)
          · exact ⟨c0, Nat.le_refl _⟩
          refine wpAnyH_take (i := 1) (v := ?v13001) rfl (by kernel_rfl) (by kernel_rfl) (by kernel_rfl) (fun _ _ _ h => h) (Or.inl ⟨by rfl, ?hy13001⟩) (by assumption) ?rest13001
          case hy13001 => (intro w hSw; (try dsimp only at hSw); go_simp; (try with_reducible rfl))
          refine wpAnyH_take (i := 4) (v := ?v13002) rfl (by kernel_rfl) (by kernel_rfl) (by kernel_rfl) (fun _ _ _ h => h) (Or.inl ⟨by rfl, ?hy13002⟩) (by assumption) ?rest13002
          case hy13002 => (intro w hSw; (try dsimp only at hSw); go_simp; (try with_reducible rfl))
          refine wpAnyH_take (i := 5) (v := ?v13003) rfl (by kernel_rfl) (by kernel_rfl) (by kernel_rfl) (fun _ _ _ h => h) (Or.inl ⟨by rfl, ?hy13003⟩) (by assumption) ?rest13003
          case hy13003 => (intro w hSw; (try dsimp only at hSw); go_simp; (try with_reducible rfl))
          refine wpAnyH_ready (rs := [0]) (by kernel_rfl) (by simp) ?_
          refine AllReadyH.cons rfl (fun K hK => ?_) ?_
          · go_simp
            go_at_call 20
            (with_reducible refine (HN.out _).mono ?_)
            rintro e wc ⟨rfl, rfl⟩
            refine hK.out _ _ ?_ (fun hH13004 => ?_)
            · (try dsimp only)
              first | exact ⟨c0, Nat.le_refl _⟩ | exact ⟨((Grw.refl _).alloc _).keep c0, by simp⟩
            clear hK K hH0
            refine wpAnyH_take (i := 2) (v := ?v13005) rfl (by kernel_rfl) (by kernel_rfl) (by kernel_rfl) (fun _ _ _ h => h) (Or.inl ⟨by rfl, ?hy13005⟩) (by assumption) ?rest13005
            case hy13005 => (intro w hSw; (try dsimp only at hSw); go_simp; (try with_reducible rfl))
            refine wpAnyH_ready (rs := [3]) (by kernel_rfl) (by simp) ?_
            refine AllReadyH.cons rfl (fun K hK => ?_) ?_
            · go_simp
              refine hK.out _ _ ?_ (fun hH13006 => ?_)
              · (try dsimp only)
                first | exact ⟨c0, Nat.le_refl _⟩ | exact ⟨((Grw.refl _).alloc _).keep c0, by simp⟩
              clear hK K hH13004
              refine wpAnyH_take (i := 6) (v := ?v13007) rfl (by kernel_rfl) (by kernel_rfl) (by kernel_rfl) (fun _ _ _ h => h) (Or.inl ⟨by rfl, ?hy13007⟩) (by assumption) ?rest13007
              case hy13007 => (intro w hSw; (try dsimp only at hSw); go_simp; (try with_reducible rfl))
              refine wpAnyH_done (by kernel_rfl) ?_ _
              go_simp
              go_wp2_with fail
              refine (HP.out _).mono ?_
              rintro e wp ⟨rfl, rfl⟩
              go_wp2
              go_roundw
              case rel => exact ⟨3 + 1, _, by omega, by go_num, rfl, by rw [HT'.out]; have := pk_size p 4; rw [ByteArray.size_append]; omega, HT', (HGD.alloc _).alloc _⟩
              case measure => simp [intOf]
            exact AllReadyH.nil
          exact AllReadyH.nil
        · have hq : ((17 : Int) == p) = false := by simp; omega
          have HT' : Hid (T = bs ++ pk p 4) := by
            rw [HT.out]
            show bs ++ pk p 3 = bs ++ pk p 4
            congr 1
            unfold pk
            by_cases hc : (p = 0 ∧ 0 < 3) ∨ (p = 1 ∧ 1 < 3) ∨ (p = 6 ∧ 2 < 3) ∨ (p = 17 ∧ 3 < 3)
            · rw [if_pos hc, if_pos (by omega)]
            · rw [if_neg hc, if_neg (by omega)]
          clear hp
          have HGD : Grw wx1 wr.drew := HG.out.drew
          go_wp2_with fail
          refine wp_region_held_drew (S := (fun wx => wx.cell? ⟨w.heap.size, 0, none⟩ = some (.int .i64 p) ∧ wr.heap.size ≤ wx.heap.size)) (by kernel_rfl) ?_ (fun hH0 => ?_)
          · exact ⟨c0, Nat.le_refl _⟩
          refine wpAnyH_take (i := 1) (v := ?v13501) rfl (by kernel_rfl) (by kernel_rfl) (by kernel_rfl) (fun _ _ _ h => h) (Or.inl ⟨by rfl, ?hy13501⟩) (by assumption) ?rest13501
          case hy13501 => (intro w hSw; (try dsimp only at hSw); go_simp; (try with_reducible rfl))
          refine wpAnyH_take (i := 4) (v := ?v13502) rfl (by kernel_rfl) (by kernel_rfl) (by kernel_rfl) (fun _ _ _ h => h) (Or.inl ⟨by rfl, ?hy13502⟩) (by assumption) ?rest13502
          case hy13502 => (intro w hSw; (try dsimp only at hSw); go_simp; (try with_reducible rfl))
          refine wpAnyH_take (i := 5) (v := ?v13503) rfl (by kernel_rfl) (by kernel_rfl) (by kernel_rfl) (fun _ _ _ h => h) (Or.inl ⟨by rfl, ?hy13503⟩) (by assumption) ?rest13503
          case hy13503 => (intro w hSw; (try dsimp only at hSw); go_simp; (try with_reducible rfl))
          refine wpAnyH_ready (rs := [0]) (by kernel_rfl) (by simp) ?_
          refine AllReadyH.cons rfl (fun K hK => ?_) ?_
          · go_simp
            go_at_call 20
            (with_reducible refine (HN.out _).mono ?_)
            rintro e wc ⟨rfl, rfl⟩
            refine hK.out _ _ ?_ (fun hH13504 => ?_)
            · (try dsimp only)
              first | exact ⟨c0, Nat.le_refl _⟩ | exact ⟨((Grw.refl _).alloc _).keep c0, by simp⟩
            clear hK K hH0
            refine wpAnyH_take (i := 2) (v := ?v13505) rfl (by kernel_rfl) (by kernel_rfl) (by kernel_rfl) (fun _ _ _ h => h) (Or.inl ⟨by rfl, ?hy13505⟩) (by assumption) ?rest13505
            case hy13505 => (intro w hSw; (try dsimp only at hSw); go_simp; (try with_reducible rfl))
            refine wpAnyH_ready (rs := [3]) (by kernel_rfl) (by simp) ?_
            refine AllReadyH.cons rfl (fun K hK => ?_) ?_
            · go_simp
              refine hK.out _ _ ?_ (fun hH13506 => ?_)
              · (try dsimp only)
                first | exact ⟨c0, Nat.le_refl _⟩ | exact ⟨((Grw.refl _).alloc _).keep c0, by simp⟩
              clear hK K hH13504
              refine wpAnyH_take (i := 6) (v := ?v13507) rfl (by kernel_rfl) (by kernel_rfl) (by kernel_rfl) (fun _ _ _ h => h) (Or.inl ⟨by rfl, ?hy13507⟩) (by assumption) ?rest13507
              case hy13507 => (intro w hSw; (try dsimp only at hSw); go_simp; (try with_reducible rfl))
              refine wpAnyH_done (by kernel_rfl) ?_ _
              go_simp
              go_wp2
              go_roundw
              case rel => exact ⟨3 + 1, T, by omega, by go_num, rfl, hT, HT', HGD.alloc _⟩
              case measure => simp [intOf]
            exact AllReadyH.nil
          exact AllReadyH.nil
      · have HT4 : Hid (T = bs ++ pwS p) := by rw [HT.out, pk_four p hpp.out]; rfl
        have HB : Hid (Below w.heap.size w wr ∧ w.heap.size < wr.heap.size) := ⟨(BX.out.trans HG.out).below, World.block_lt_of_cell? wr _ c0⟩
        have hz1 : ¬ (9223372036854775807 < T.size + 1) := by omega
        have hz2 : ¬ (9223372036854775807 < T.size + 1 + TA.size) := by omega
        have hz3 : ¬ (9223372036854775807 < T.size + 1 + TA.size + 1) := by omega
        have hz4 : ¬ (9223372036854775807 < T.size + 1 + TA.size + 1 + TB.size) := by omega
        have hz5 : ¬ (9223372036854775807 < T.size + 1 + TA.size + 1 + TB.size + 1) := by omega
        have hz6 : ¬ (9223372036854775807 < T.size + 1 + TA.size + 1 + TB.size + 1 + TL.size) := by omega
        have hz7 : ¬ (9223372036854775807 < T.size + 1 + TA.size + 1 + TB.size + 1 + TL.size + 1) := by omega
        have hz8 : ¬ (9223372036854775807 < T.size + 1 + TA.size + 1 + TB.size + 1 + TL.size + 1 + TH.size) := by omega
        clear HO HN HP BX HG k0 k1 k2 k3 k4 k5 c0 c5
        go_wp2_with fail
        go_region_held3 (fun wx => wx.cell? ⟨w.heap.size, 1, none⟩ = some (.int .i64 ip) ∧ wx.cell? ⟨w.heap.size, 2, none⟩ = some (.int .i64 b) ∧ wx.cell? ⟨w.heap.size, 3, none⟩ = some (.int .i64 lo) ∧ wx.cell? ⟨w.heap.size, 4, none⟩ = some (.int .i64 hi) ∧ Below w.heap.size w wx ∧ w.heap.size < wx.heap.size)
          (first | exact ⟨c1, c2, c3, c4, HB.out.1.drew, HB.out.2⟩ | exact (And.imp (keep_c hb1) (And.imp (keep_c hb1) (And.imp (keep_c hb1) (And.imp (keep_c hb1) (keep_bs hb1))))) (by assumption))
          (first | (go_at_call 22; (with_reducible refine (HA.out _).mono ?_); rintro e w' ⟨rfl, hb1⟩) | (go_at_call 23; (first | (with_reducible refine (HD.out _).mono ?_) | (with_reducible refine (HL.out _).mono ?_) | (with_reducible refine (HH.out _).mono ?_)); rintro e w' ⟨rfl, hb1⟩))
        rename_i hH
        have X : Hid (Below w.heap.size w w') := hH.2.2.2.2.1
        go_wp2
        go_ret2
        exact ⟨by rw [ET.out, ← HT4.out] <;> rfl, X.out⟩

end Go.Proofs.YtcgdpijmfgkalacDoor
