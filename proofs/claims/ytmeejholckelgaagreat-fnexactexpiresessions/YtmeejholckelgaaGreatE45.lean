/- A session of right guests ended, as pure words. Sessions that end: what is left at each place of the loop. Results whose first part is a struct in a box. Nothing of the program is used. The loops of the model that end sessions. The program's rolePlace, userOK, usersOK. A map of one's own, emptied. Nothing of the program is imported. The program's inLan, sessionOK, sessionsApart. -/
import Derived.Test.YtmeejholckelgaaGreatE44
import Derived.Test.YtmeejholckelgaaGreatE41
import Derived.Test.YtmeejholckelgaaGreatGokF
import Derived.Laws.Cover1
import Derived.Shelf.SlicesQ.IndexFunc
import Derived.Maps.Own
import Derived.Maps.OwnSet
import Derived.Maps.Views
namespace Go.Proofs.YtmeejholckelgaaGreat
open Go.RowKit Go.PlainAid Go.Proofs.YtmeejholckelgaaGreat.Bt Go.Sort
set_option linter.unusedVariables false
set_option maxRecDepth 20000

def okG (c : CfV) (h : HuV) : Bool := gokB c.ip c.b c.gt c.gm c.wm c.rs c.ps c.ros h.us h.ss h.fs h.es h.nx
end Go.Proofs.YtmeejholckelgaaGreat

namespace Go.Proofs.YtmeejholckelgaaGreat
open Go.RowKit Go.PlainAid Go.Proofs.YtmeejholckelgaaGreat.Bt Go.Sort
set_option linter.unusedVariables false
set_option maxRecDepth 20000

/-- Why a session ends that is idle or too old; that has moved. -/
def csE (now : Int) (s : SessV) : Int := if s.un ≤ now then 3 else if s.il ≤ IntKind.i64.wrap (now - s.la) then 2 else 0
/-- The guests when i of their sessions have been looked at. -/
def hE (cs : SessV → Int) (now : Int) (h : HuV) (i : Nat) : HuV := { h with ss := esS cs h.ss i ++ h.ss.drop i, es := esR cs now h.es h.ss i }
def exG (cs : SessV → Int) (now : Int) (h : HuV) : HuV := { h with ss := esS cs h.ss h.ss.length, es := esR cs now h.es h.ss h.ss.length }
theorem hE_end (cs : SessV → Int) (now : Int) (h : HuV) : hE cs now h h.ss.length = exG cs now h := by
  unfold hE exG
  rw [List.drop_of_length_le (Nat.le_refl _), List.append_nil]
theorem hE_zero (cs : SessV → Int) (now : Int) (h : HuV) : hE cs now h 0 = h := by
  unfold hE esS esR
  simp
theorem drop_at {α : Type} {l : List α} {i : Nat} {x : α} (h : l[i]? = some x) : l.drop i = x :: l.drop (i + 1) := by
  obtain ⟨hi, rfl⟩ := List.getElem?_eq_some_iff.1 h
  exact List.drop_eq_getElem_cons hi
theorem hE_ss {cs : SessV → Int} {now : Int} {h : HuV} {i : Nat} {x : SessV} (hx : h.ss[i]? = some x) : (hE cs now h i).ss = esS cs h.ss i ++ x :: h.ss.drop (i + 1) := by
  unfold hE
  rw [← drop_at hx]
theorem hE_at {cs : SessV → Int} {now : Int} {h : HuV} {i : Nat} {x : SessV} (hx : h.ss[i]? = some x) : (hE cs now h i).ss[(esS cs h.ss i).length]? = some x := by
  rw [hE_ss hx, List.getElem?_append_right (Nat.le_refl _)]
  simp
theorem hE_stay {cs : SessV → Int} {now : Int} {h : HuV} {i : Nat} {x : SessV} (hx : h.ss[i]? = some x) (hc : cs x = 0) : hE cs now h (i + 1) = hE cs now h i := by
  unfold hE
  rw [esS_yes hx hc, esR_yes hx hc, drop_at hx, List.append_assoc]
  rfl
theorem hE_go {cs : SessV → Int} {now : Int} {h : HuV} {i : Nat} {x : SessV} (hx : h.ss[i]? = some x) (hc : cs x ≠ 0) : enG now (cs x) (hE cs now h i) (esS cs h.ss i) (h.ss.drop (i + 1)) x = hE cs now h (i + 1) := by
  unfold enG hE enR
  rw [esS_no hx hc]
  by_cases h60 : (esR cs now h.es h.ss i).length < 60
  · rw [esR_no hx hc h60]
    dsimp only
    rw [if_pos h60]
  · rw [esR_full hx hc h60]
    dsimp only
    rw [if_neg h60]
theorem es_sum (cs : SessV → Int) (ss : List SessV) : ∀ i, i ≤ ss.length → (esS cs ss i).length + (esI cs ss i).length = i := by
  intro i
  induction i with
  | zero => intro _; simp [esS, esI]
  | succ i ih =>
    intro hi
    have hx : ss[i]? = some ss[i] := List.getElem?_eq_getElem (by omega)
    have := ih (by omega)
    by_cases hc : cs ss[i] = 0
    · rw [esS_yes hx hc, esI_yes hx hc]
      simp
      omega
    · rw [esS_no hx hc, esI_no hx hc]
      simp
      omega
theorem hE_len (cs : SessV → Int) (now : Int) (h : HuV) (i : Nat) : (hE cs now h i).ss.length = (esS cs h.ss i).length + (h.ss.length - i) := by
  unfold hE
  simp
def lenV : Value → Nat
  | .slice _ m _ => m
  | _ => 0
theorem csE_bd (now : Int) (s : SessV) : 0 ≤ csE now s ∧ csE now s ≤ 6 := by
  unfold csE
  split
  · omega
  · split <;> omega
/-- What is asked ahead, and the answer. -/
theorem esR_ok {cs : SessV → Int} {now : Int} {h : HuV} (o : HuOk h) (hn : 0 ≤ now ∧ now ≤ 100000) (hc : ∀ s, 0 ≤ cs s ∧ cs s ≤ 6) : ∀ (l : List SessV) (acc : List RecV), (∀ s, s ∈ l → SeRok s) → (∀ z, z ∈ acc → ReRok z) → ∀ z, z ∈ l.foldl (esF cs now) acc → ReRok z
  | [], acc, _, ha => ha
  | s :: l, acc, hl, ha => by
    rw [List.foldl_cons]
    refine esR_ok o hn hc l _ (fun t ht => hl t (by simp [ht])) ?_
    intro z hz
    unfold esF at hz
    split at hz
    · exact ha z hz
    · split at hz
      · rcases List.mem_append.1 hz with h1 | h1
        · exact ha z h1
        · rw [List.mem_singleton] at h1
          subst h1
          have hs := hl s (by simp)
          exact ⟨hs.1, int_wf9 (n := now) hn.1 (Int.le_trans hn.2 (by decide)), int_wf9 (n := cs s) (hc s).1 (Int.le_trans (hc s).2 (by decide)), hs.2.2.2.2.2.2.1⟩
      · exact ha z hz
theorem exG_ok {cs : SessV → Int} {now : Int} {h : HuV} (o : HuOk h) (hn : 0 ≤ now ∧ now ≤ 100000) (hc : ∀ s, 0 ≤ cs s ∧ cs s ≤ 6) : HuOk (exG cs now h) :=
  ⟨o.us, fun z hz => o.ss z (List.mem_of_mem_take (List.mem_filter.1 hz).1), o.fs, esR_ok o hn hc _ _ (fun s hs => o.ss s (List.mem_of_mem_take hs)) o.es⟩
theorem esR_ln (cs : SessV → Int) (now : Int) : ∀ (l : List SessV) (acc : List RecV), (l.foldl (esF cs now) acc).length ≤ max acc.length 60
  | [], acc => by simp; omega
  | s :: l, acc => by
    rw [List.foldl_cons]
    refine Nat.le_trans (esR_ln cs now l _) ?_
    unfold esF
    split
    · exact Nat.le_refl _
    · split
      · simp; omega
      · exact Nat.le_refl _
theorem exG_ln {cs : SessV → Int} {now : Int} {h : HuV} (o : HuLn h) : HuLn (exG cs now h) := by
  refine ⟨o.us, Nat.le_trans (esS_len _ _ _) o.ss, o.fs, ?_⟩
  have := esR_ln cs now (h.ss.take h.ss.length) h.es
  have := o.es
  rw [show (exG cs now h).es = (h.ss.take h.ss.length).foldl (esF cs now) h.es from rfl]
  omega
theorem esI_ok {cs : SessV → Int} {h : HuV} (o : HuOk h) (n : Nat) : ∀ x, x ∈ esI cs h.ss n → InRok x := by
  intro x hx
  unfold esI at hx
  obtain ⟨s, hs, rfl⟩ := List.mem_map.1 hx
  exact (o.ss s (List.mem_of_mem_take (List.mem_filter.1 hs).1)).1
/-- A number behind a row of one's own; the row lies where it lay, or in a new block. -/
theorem wpl_IntW (w : World) {ops : Array Oper} {rest : List Oper} {o : Oper} {a : Act} {Q : Exit → Act → World → Prop} (hgd : o.guard = none) (s x : Operand)
    (ho : o.op = .call { callee := .builtin .append, args := #[s, x], argTypes := #[56, 56] })
    (B : Nat) (v : Value) (L ys : List Int) (hs : a.eval s = v) (hown : OwnS iG 1 3 w B v L)
    (g off m c : Nat) (hm : ys.length = m) (hx : a.eval x = .slice (some ⟨g, off, none⟩) m c) (hc : ∀ j u, (flatS iG ys)[j]? = some u → w.cell? ⟨g, off + j, none⟩ = some u)
    (hlen : L.length + m ≤ 2000000) (hB : B ≤ w.heap.size)
    (h : ∀ v' w', OwnS iG 1 3 w' B v' (L ++ ys) → w.grownBy w' v.ownBlock → (∀ k, v'.ownBlock = some k → v.ownBlock = some k ∨ w.heap.size ≤ k) → wpList Tryz.prog ops Q rest (a.put o.dst v') w') : wpList Tryz.prog ops Q (o :: rest) a w := by
  obtain ⟨i0, hi, hz0, hz1, hz2⟩ := info_parts infoInt9
  obtain ⟨v', w', hr, h2, h3, h4⟩ := Rlw.run_append_w (P := Tryz.prog) w B 56 o.type 3 i0 (.int .i64 0) 1 8 Tryz.underlying56 hi hz0 hz1 hz2 rfl (by decide) v L.length (flatS iG L) hown ⟨g, off, none⟩ m c (flatS iG ys) (by rw [flatS_len iG_len, hm]) (fun j u hu => by rw [addn]; exact hc j u hu) (oneInt9 ys) (by unfold maxLen; omega) (by omega) hB
  refine wpList_plain hgd fun _ hK => ?_
  unfold Oper.wp execOp
  simp only [ho, resolve, invoke, builtin, Sem.run_bind, Sem.run_pure, Result.andThen_ok, List.map_toArray, List.map_cons, List.map_nil, hs, hx, hr]
  subst hm
  exact hK _ _ (h v' w' (hown.join hB h2 h3).1 h3 (fun k hk => (h4 k hk).imp id (fun h => h.1)))
/-- In the midst of the loop. -/
structure LX (w : World) (cs : SessV → Int) (now : Int) (h : HuV) (i : Nat) (A : HuA) (ia : Option Addr) (ic : Nat) (wr : World) : Prop where
  g : Bx wr w.heap.size [.slice A.u (hE cs now h i).us.length A.uc, .slice A.s (hE cs now h i).ss.length A.sc, .slice A.f (hE cs now h i).fs.length A.fc, .slice A.r (hE cs now h i).es.length A.rc, .int .i64 (hE cs now h i).nx]
  r : Bx wr (w.heap.size + 1) [.slice none 0 0, .slice none 0 0, .slice none 0 0, .slice none 0 0, .int .i64 0]
  s : HuP (fun b => b < w.heap.size ∨ (w.heap.size + 2 ≤ b ∧ ¬ rwB ia (esI cs h.ss i).length ic b)) wr A (hE cs now h i)
  i : OwnR wr (w.heap.size + 2) ia (esI cs h.ss i).length ic (esI cs h.ss i)
  b : Below w.heap.size w wr
end Go.Proofs.YtmeejholckelgaaGreat

namespace Go.Proofs.YtmeejholckelgaaGreat
open Go.RowKit Go.PlainAid Go.Sort
set_option linter.unusedVariables false
theorem results_cell2 {P : Program} {fn : Func} {tmps : Array Value} {w : World} {a b : Tmp} {t : TypeId} (hr : fn.results = #[.cell a t, .tmp b]) (q : Nat) (hp : tmps.getD a undef = .pointer (some ⟨q, 0, none⟩)) {v : Value} (hv : tmps.getD b undef = v) {cs : List Value} (hb : Bx w q cs)
    (d : TypeDesc) (hu : P.underlying t = some d) (hd : d.isRow = true) (hi : (P.info? t).map (·.size) = some cs.length) : (results fn tmps).run P w = .ok (.tuple #[.agg cs.toArray, v]) w := by
  have h := run_loadVar_mid w q 0 t cs d hb.cl hu hd hi
  unfold results
  rw [hr]
  have hp' : tmps[a]?.getD undef = .pointer (some ⟨q, 0, none⟩) := by rw [← Array.getD_eq_getD_getElem?]; exact hp
  have hv' : tmps[b]?.getD undef = v := by rw [← Array.getD_eq_getD_getElem?]; exact hv
  simp [hp', hv', asAddr, h]
theorem results_cell3 {P : Program} {fn : Func} {tmps : Array Value} {w : World} {a b c : Tmp} {t : TypeId} (hr : fn.results = #[.cell a t, .tmp b, .tmp c]) (q : Nat) (hp : tmps.getD a undef = .pointer (some ⟨q, 0, none⟩)) {v u : Value} (hv : tmps.getD b undef = v) (hu9 : tmps.getD c undef = u) {cs : List Value} (hb : Bx w q cs)
    (d : TypeDesc) (hu : P.underlying t = some d) (hd : d.isRow = true) (hi : (P.info? t).map (·.size) = some cs.length) : (results fn tmps).run P w = .ok (.tuple #[.agg cs.toArray, v, u]) w := by
  have h := run_loadVar_mid w q 0 t cs d hb.cl hu hd hi
  unfold results
  rw [hr]
  have hp' : tmps[a]?.getD undef = .pointer (some ⟨q, 0, none⟩) := by rw [← Array.getD_eq_getD_getElem?]; exact hp
  have hv' : tmps[b]?.getD undef = v := by rw [← Array.getD_eq_getD_getElem?]; exact hv
  have hu' : tmps[c]?.getD undef = u := by rw [← Array.getD_eq_getD_getElem?]; exact hu9
  simp [hp', hv', hu', asAddr, h]
end Go.Proofs.YtmeejholckelgaaGreat

namespace Go.Proofs.YtmeejholckelgaaGreat
open Go.RowKit Go.PlainAid Go.Proofs.YtmeejholckelgaaGreat.Bt Go.Sort
set_option linter.unusedVariables false
set_option maxRecDepth 20000
set_option maxHeartbeats 4000000 in
theorem l08Expire_any (A : HuA) (h : HuV)  (now : Int) (w : World) (hs : HuS w A h) (hn : 0 ≤ now ∧ now ≤ 100000) :
    Calls Tryz.prog 64 #[.agg #[.slice A.u h.us.length A.uc, .slice A.s h.ss.length A.sc, .slice A.f h.fs.length A.fc, .slice A.r h.es.length A.rc, .int .i64 h.nx], .int .i64 now] w fun e w' => ∃ (A' : HuA) (ia : Option Addr) (ic : Nat), e = .returned (.tuple #[.agg #[.slice A'.u (exG (csE now) now h).us.length A'.uc, .slice A'.s (exG (csE now) now h).ss.length A'.sc, .slice A'.f (exG (csE now) now h).fs.length A'.fc, .slice A'.r (exG (csE now) now h).es.length A'.rc, .int .i64 (exG (csE now) now h).nx], .slice ia (esI (csE now) h.ss h.ss.length).length ic]) ∧ HuS w' A' (exG (csE now) now h) ∧ OwnR w' w.heap.size ia (esI (csE now) h.ss h.ss.length).length ic (esI (csE now) h.ss h.ss.length) ∧ Below w.heap.size w w' := by
  have HS : Hid (HuS w A h) := hs
  have hmo := hs.ss.hmost
  rw [hs.ss.hlen] at hmo
  have HN : Hid (0 ≤ now ∧ now ≤ 100000) := hn
  obtain ⟨n, hl⟩ : ∃ n, h.ss.length = n := ⟨_, rfl⟩
  have HL : Hid (h.ss.length = n) := hl
  rw [hl] at hmo
  clear hs hn
  have X0 : Hid (LX w (csE now) now h 0 A (some ⟨w.heap.size + 2, 0, none⟩) 0 (((w.alloc (.cells #[.slice A.u h.us.length A.uc, .slice A.s h.ss.length A.sc, .slice A.f h.fs.length A.fc, .slice A.r h.es.length A.rc, .int .i64 h.nx] 41)).alloc (.cells #[.slice none 0 0, .slice none 0 0, .slice none 0 0, .slice none 0 0, .int .i64 0] 41)).alloc (.cells #[] 3))) := by
    have e0 : hE (csE now) now h 0 = h := hE_zero _ _ _
    refine ⟨?_, ?_, ?_, ?_, (((Below.refl _ _).alloc (Nat.le_refl _) _).alloc (by simp) _).alloc (by simp; omega) _⟩
    · rw [e0]
      exact ((Bx.new w #[.slice A.u h.us.length A.uc, .slice A.s h.ss.length A.sc, .slice A.f h.fs.length A.fc, .slice A.r h.es.length A.rc, .int .i64 h.nx] 41).below ((Below.refl _ _).alloc (Nat.le_refl _) _)).below ((Below.refl _ _).alloc (Nat.le_refl _) _)
    · have h := Bx.new (w.alloc (.cells #[.slice A.u h.us.length A.uc, .slice A.s h.ss.length A.sc, .slice A.f h.fs.length A.fc, .slice A.r h.es.length A.rc, .int .i64 h.nx] 41)) #[.slice none 0 0, .slice none 0 0, .slice none 0 0, .slice none 0 0, .int .i64 0] 41
      rw [World.size_alloc] at h
      exact h.below ((Below.refl _ _).alloc (Nat.le_refl _) _)
    · rw [e0]
      have hb : Below w.heap.size w (((w.alloc (.cells #[.slice A.u h.us.length A.uc, .slice A.s h.ss.length A.sc, .slice A.f h.fs.length A.fc, .slice A.r h.es.length A.rc, .int .i64 h.nx] 41)).alloc (.cells #[.slice none 0 0, .slice none 0 0, .slice none 0 0, .slice none 0 0, .int .i64 0] 41)).alloc (.cells #[] 3)) := (((Below.refl _ _).alloc (Nat.le_refl _) _).alloc (by simp) _).alloc (by simp; omega) _
      exact HS.out.keepP.step hb.size (fun b _ hl => ⟨.inl hl, hb.block b hl⟩)
    · have h := OwnS.lit (α := Int) (c := iG) (K := 1) (e := 3) ((w.alloc (.cells #[.slice A.u h.us.length A.uc, .slice A.s h.ss.length A.sc, .slice A.f h.fs.length A.fc, .slice A.r h.es.length A.rc, .int .i64 h.nx] 41)).alloc (.cells #[.slice none 0 0, .slice none 0 0, .slice none 0 0, .slice none 0 0, .int .i64 0] 41)) (w.heap.size + 2) (by simp)
      rw [World.size_alloc, World.size_alloc] at h
      exact h
  rw [hl] at X0 ⊢
  go_enter Tryz.func64, Tryz.ntmps64
  go_wp2
  go_loopw [6, 7] (fun ids u wr => ∃ (i : Nat) (A' : HuA) (ia : Option Addr) (ic : Nat), i ≤ n ∧ ids = .slice ia (esI (csE now) h.ss i).length ic ∧ u = .int .i64 ((esS (csE now) h.ss i).length : Nat) ∧ Hid (LX w (csE now) now h i A' ia ic wr)) (fun ids u _ => n - ((intOf u).toNat + lenV ids))
  case atStart => exact ⟨0, A, some ⟨w.heap.size + 2, 0, none⟩, 0, Nat.zero_le _, rfl, rfl, X0.out⟩
  case round =>
    obtain ⟨i, A', ia, ic, hi, rfl, rfl, X⟩ := hrel
    clear X0
    have hsum := es_sum (csE now) h.ss i (by omega)
    obtain ⟨M, hM⟩ : ∃ M, (hE (csE now) now h i).ss.length = M := ⟨_, rfl⟩
    have hM2 := hE_len (csE now) now h i
    rw [hM, hl] at hM2
    obtain ⟨EL, hEL⟩ : ∃ EL, (hE (csE now) now h i).es.length = EL := ⟨_, rfl⟩
    obtain ⟨au, as_, af, ar, auc, asc, afc, arc⟩ := A'
    have G0 : Hid (Bx wr w.heap.size [.slice au h.us.length auc, .slice as_ M asc, .slice af h.fs.length afc, .slice ar EL arc, .int .i64 h.nx]) := by
      have g := X.out.g
      rw [hM, hEL] at g
      exact g
    by_cases hlt : i < n
    · obtain ⟨x, hx⟩ := at_of hl hlt
      have hsum1 := es_sum (csE now) h.ss (i + 1) (by omega)
      have hxk := hE_at (cs := (csE now)) (now := now) hx
      obtain ⟨bs, os, vs, es, hbs, hvl, hR, hcs⟩ := X.out.s.now.ss.hrw.at SeR.kp (Below.refl _ _) hxk
      dsimp only at es
      subst es
      obtain ⟨rfl, -⟩ := hR
      have hyes := fun hc => esS_yes (cs := (csE now)) hx hc
      have hno := fun hc => esS_no (cs := (csE now)) hx hc
      have iyes := fun hc => esI_yes (cs := (csE now)) hx hc
      have ino := fun hc => esI_no (cs := (csE now)) hx hc
      have gyes := fun hc => hE_stay (cs := (csE now)) (now := now) hx hc
      have gno := fun hc => hE_go (cs := (csE now)) (now := now) hx hc
      have hss := hE_ss (cs := (csE now)) (now := now) hx
      obtain ⟨id, us_, mc, ip, be, la, ud, qu, un, il⟩ := x
      obtain ⟨K, hK⟩ : ∃ K, (esS (csE now) h.ss i).length = K := ⟨_, rfl⟩
      rw [hK] at hM2 hsum hcs ⊢
      have hKM : (K : Int) < (M : Int) := by omega
      have HM2 : Hid (K + (esI (csE now) h.ss i).length = i) := hsum
      have HM3 : Hid ((esS (csE now) h.ss (i + 1)).length + (esI (csE now) h.ss (i + 1)).length = i + 1) := hsum1
      clear hM2 hsum hsum1
      have BA : Below wr.heap.size wr (wr.alloc (.cells #[.int .i64 id, .int .i64 us_, .string mc, .int .i64 ip, .int .i64 be, .int .i64 la, .int .i64 ud, .int .i64 qu, .int .i64 un, .int .i64 il] 84)) := (Below.refl _ _).alloc (Nat.le_refl _) _
      have X4 : Bx (wr.alloc (.cells #[.int .i64 id, .int .i64 us_, .string mc, .int .i64 ip, .int .i64 be, .int .i64 la, .int .i64 ud, .int .i64 qu, .int .i64 un, .int .i64 il] 84)) wr.heap.size [.int .i64 id, .int .i64 us_, .string mc, .int .i64 ip, .int .i64 be, .int .i64 la, .int .i64 ud, .int .i64 qu, .int .i64 un, .int .i64 il] := Bx.new wr #[.int .i64 id, .int .i64 us_, .string mc, .int .i64 ip, .int .i64 be, .int .i64 la, .int .i64 ud, .int .i64 qu, .int .i64 un, .int .i64 il] 84
      have G4 : Bx (wr.alloc (.cells #[.int .i64 id, .int .i64 us_, .string mc, .int .i64 ip, .int .i64 be, .int .i64 la, .int .i64 ud, .int .i64 qu, .int .i64 un, .int .i64 il] 84)) w.heap.size [.slice au h.us.length auc, .slice (some ⟨bs, os, none⟩) M asc, .slice af h.fs.length afc, .slice ar EL arc, .int .i64 h.nx] := G0.out.below BA
      have R4 : Bx (wr.alloc (.cells #[.int .i64 id, .int .i64 us_, .string mc, .int .i64 ip, .int .i64 be, .int .i64 la, .int .i64 ud, .int .i64 qu, .int .i64 un, .int .i64 il] 84)) (w.heap.size + 1) [.slice none 0 0, .slice none 0 0, .slice none 0 0, .slice none 0 0, .int .i64 0] := X.out.r.below BA
      have B4 : Below w.heap.size w (wr.alloc (.cells #[.int .i64 id, .int .i64 us_, .string mc, .int .i64 ip, .int .i64 be, .int .i64 la, .int .i64 ud, .int .i64 qu, .int .i64 un, .int .i64 il] 84)) := X.out.b.trans (BA.mono X.out.b.size)
      have hwr : w.heap.size + 1 < wr.heap.size := World.block_lt_of_cell? wr ⟨w.heap.size + 1, 0, none⟩ (X.out.r.cell 0 rfl)
      have g1 := G0.out.cell 1 rfl
      have x5 := X4.cell 5 rfl
      have x8 := X4.cell 8 rfl
      have x9 := X4.cell 9 rfl
      by_cases hq1 : un ≤ now
      · have hd1 : decide (un ≤ now) = true := decide_eq_true hq1
        have hc0 : (csE now) ⟨id, us_, mc, ip, be, la, ud, qu, un, il⟩ = 3 := by unfold csE; dsimp only; rw [if_pos hq1]
        have hcn : (csE now) ⟨id, us_, mc, ip, be, la, ud, qu, un, il⟩ ≠ 0 := by rw [hc0]; decide
        have e1 := hno hcn
        have e2 := ino hcn
        have e3 := gno hcn
        rw [hc0] at e3
        have HE : Hid (Calls Tryz.prog 74 #[.agg #[.slice au h.us.length auc, .slice (some ⟨bs, os, none⟩) M asc, .slice af h.fs.length afc, .slice ar EL arc, .int .i64 h.nx], .int .i64 (K : Int), .int .i64 now, .int .i64 3] (wr.alloc (.cells #[.int .i64 id, .int .i64 us_, .string mc, .int .i64 ip, .int .i64 be, .int .i64 la, .int .i64 ud, .int .i64 qu, .int .i64 un, .int .i64 il] 84)) fun e w' => ∃ A5 : HuA, e = .returned (.agg #[.slice A5.u (hE (csE now) now h (i + 1)).us.length A5.uc, .slice A5.s (hE (csE now) now h (i + 1)).ss.length A5.sc, .slice A5.f (hE (csE now) now h (i + 1)).fs.length A5.fc, .slice A5.r (hE (csE now) now h (i + 1)).es.length A5.rc, .int .i64 (hE (csE now) now h (i + 1)).nx]) ∧ HuP (fun b => (b < w.heap.size ∨ (w.heap.size + 2 ≤ b ∧ ¬ rwB ia (esI (csE now) h.ss i).length ic b)) ∨ (wr.alloc (.cells #[.int .i64 id, .int .i64 us_, .string mc, .int .i64 ip, .int .i64 be, .int .i64 la, .int .i64 ud, .int .i64 qu, .int .i64 un, .int .i64 il] 84)).heap.size ≤ b) w' A5 (hE (csE now) now h (i + 1)) ∧ Below (wr.alloc (.cells #[.int .i64 id, .int .i64 us_, .string mc, .int .i64 ip, .int .i64 be, .int .i64 la, .int .i64 ud, .int .i64 qu, .int .i64 un, .int .i64 il] 84)).heap.size (wr.alloc (.cells #[.int .i64 id, .int .i64 us_, .string mc, .int .i64 ip, .int .i64 be, .int .i64 la, .int .i64 ud, .int .i64 qu, .int .i64 un, .int .i64 il] 84)) w') := by
          have := l08End_keep _ ⟨au, some ⟨bs, os, none⟩, af, ar, auc, asc, afc, arc⟩ (hE (csE now) now h i) (esS (csE now) h.ss i) (h.ss.drop (i + 1)) ⟨id, us_, mc, ip, be, la, ud, qu, un, il⟩ K now 3 (wr.alloc (.cells #[.int .i64 id, .int .i64 us_, .string mc, .int .i64 ip, .int .i64 be, .int .i64 la, .int .i64 ud, .int .i64 qu, .int .i64 un, .int .i64 il] 84)) (X.out.s.step (Q := (fun b => b < w.heap.size ∨ (w.heap.size + 2 ≤ b ∧ ¬ rwB ia (esI (csE now) h.ss i).length ic b))) BA.size (fun b hb hl => ⟨hb, BA.block b hl⟩)) hss hK HN.out ⟨by omega, by omega⟩
          rw [e3, hM, hEL] at this
          exact this
        have I4 : OwnR (wr.alloc (.cells #[.int .i64 id, .int .i64 us_, .string mc, .int .i64 ip, .int .i64 be, .int .i64 la, .int .i64 ud, .int .i64 qu, .int .i64 un, .int .i64 il] 84)) (w.heap.size + 2) ia (esI (csE now) h.ss i).length ic (esI (csE now) h.ss i) := X.out.i.now BA
        have HW : Hid ((wr.alloc (.cells #[.int .i64 id, .int .i64 us_, .string mc, .int .i64 ip, .int .i64 be, .int .i64 la, .int .i64 ud, .int .i64 qu, .int .i64 un, .int .i64 il] 84)).heap.size = wr.heap.size + 1) := by show _ = _; simp
        clear hyes hno iyes ino gyes gno hss hc0 hcn e3
        go_wp2_with (first | (refine wpList_load_mid rfl 84 _ rfl bs (os + K * 10) rfl [.int .i64 id, .int .i64 us_, .string mc, .int .i64 ip, .int .i64 be, .int .i64 la, .int .i64 ud, .int .i64 qu, .int .i64 un, .int .i64 il] _ (fun j u hu => hcs j u hu) Tryz.underlying84 rfl rfl ?_) | (refine wpl_getT 41 rfl _ rfl (w.heap.size) rfl G4 _ Tryz.underlying41 rfl rfl ?_) | fail)
        refine HE.out.mono ?_
        rintro e w5 ⟨A5, rfl, s5, bx⟩
        have G5 : Bx w5 w.heap.size [.slice au h.us.length auc, .slice (some ⟨bs, os, none⟩) M asc, .slice af h.fs.length afc, .slice ar EL arc, .int .i64 h.nx] := G4.below bx
        have R5 : Bx w5 (w.heap.size + 1) [.slice none 0 0, .slice none 0 0, .slice none 0 0, .slice none 0 0, .int .i64 0] := R4.below bx
        have X5 : Bx w5 wr.heap.size [.int .i64 id, .int .i64 us_, .string mc, .int .i64 ip, .int .i64 be, .int .i64 la, .int .i64 ud, .int .i64 qu, .int .i64 un, .int .i64 il] := X4.below bx
        have B5 : Below w.heap.size w w5 := B4.trans (bx.mono B4.size)
        have I5 : OwnR w5 (w.heap.size + 2) ia (esI (csE now) h.ss i).length ic (esI (csE now) h.ss i) := I4.now bx
        have lt5 := I4.lt
        have sz5 := bx.size
        rw [HW.out] at s5 lt5 sz5
        clear G4 R4 X4 B4 I4 BA bx HE G0 g1 hcs hvl x5 x8 x9
        go_wp2_with (first | (refine wpl_putT 41 rfl _ _ rfl (w.heap.size) _ rfl rfl G5 rfl rfl rfl ?_; intro W6 hw6 R6x; have G6 : Hid (Bx W6 w.heap.size [.slice A5.u (hE (csE now) now h (i + 1)).us.length A5.uc, .slice A5.s (hE (csE now) now h (i + 1)).ss.length A5.sc, .slice A5.f (hE (csE now) now h (i + 1)).fs.length A5.fc, .slice A5.r (hE (csE now) now h (i + 1)).es.length A5.rc, .int .i64 (hE (csE now) now h (i + 1)).nx]) := R6x; clear R6x; have R6 : Hid (Bx W6 (w.heap.size + 1) [.slice none 0 0, .slice none 0 0, .slice none 0 0, .slice none 0 0, .int .i64 0]) := (by rw [hw6]; exact R5.apart _ (by omega)); have X6 : Hid (Bx W6 wr.heap.size [.int .i64 id, .int .i64 us_, .string mc, .int .i64 ip, .int .i64 be, .int .i64 la, .int .i64 ud, .int .i64 qu, .int .i64 un, .int .i64 il]) := (by rw [hw6]; exact X5.apart _ (by omega)); have B6 : Hid (Below w.heap.size w W6) := (by rw [hw6]; exact below_cells (Nat.le_refl _) _ _ _ B5); have I6 : Hid (OwnR W6 (w.heap.size + 2) ia (esI (csE now) h.ss i).length ic (esI (csE now) h.ss i)) := (by rw [hw6]; exact I5.keep (fun b hb => (heap_cellsA _ _ _).2 b (by have := (I5.lt b hb).1; omega))); have S6 : Hid (HuP (fun b => (b < w.heap.size ∨ (w.heap.size + 2 ≤ b ∧ ¬ rwB ia (esI (csE now) h.ss i).length ic b)) ∨ wr.heap.size + 1 ≤ b) W6 A5 (hE (csE now) now h (i + 1))) := (by rw [hw6]; exact s5.step (by rw [(heap_cellsA _ _ _).1]; exact Nat.le_refl _) (fun b hb hl => ⟨hb, (heap_cellsA _ _ _).2 b (by rcases hb with (hb | hb) | hb <;> omega)⟩)); have Z6 : Hid (wr.heap.size + 1 ≤ W6.heap.size) := (by rw [hw6, (heap_cellsA _ _ _).1]; exact sz5); clear hw6 G5 R5 X5 B5 I5 s5; have t0 := X6.out.cell 0 rfl; have A7 : Below W6.heap.size W6 (W6.alloc (.cells #[.int .i64 id] 3)) := (Below.refl _ _).alloc (Nat.le_refl _) _; have I7 : OwnS iG 1 3 (W6.alloc (.cells #[.int .i64 id] 3)) (w.heap.size + 2) (.slice ia (esI (csE now) h.ss i).length ic) (esI (csE now) h.ss i) := I6.out.now A7; have CL := one_new iG W6 #[.int .i64 id] 3 id rfl; have hB7 : w.heap.size + 2 ≤ (W6.alloc (.cells #[.int .i64 id] 3)).heap.size := (by rw [World.size_alloc]; have := Z6.out; omega); have lI : (esI (csE now) h.ss i).length + 1 ≤ 2000000 := (by have := HM2.out; omega)) | (at_builtin; go_loud (refine wpl_IntW _ rfl (.tmp 43) (.tmp 46) rfl (w.heap.size + 2) _ (esI (csE now) h.ss i) [id] rfl I7 W6.heap.size 0 1 1 rfl rfl CL lI hB7 ?_)) | fail)
        intro v8 w8 o8 g8 p8
        rw [← e2] at o8
        obtain ⟨s8, c8, rfl, -⟩ := o8.slice
        have e4 : (esI (csE now) h.ss (i + 1)).length = (esI (csE now) h.ss i).length + 1 := by rw [e2]; simp
        have gb8 : ∀ b, b < W6.heap.size → ¬ rwB ia (esI (csE now) h.ss i).length ic b → w8.heap[b]? = W6.heap[b]? := fun b hb hne => (g8.block b (Nat.lt_of_lt_of_le hb A7.size) (fun e => hne e.symm)).trans (A7.block b hb)
        have gs8 : W6.heap.size ≤ w8.heap.size := Nat.le_trans A7.size g8.size
        have Y : Hid (LX w (csE now) now h (i + 1) A5 s8 c8 w8) := by
          refine ⟨Rlw.bx_loc G6.out (gb8 _ (by have := Z6.out; omega) (fun e => by have := (lt5 _ e).1; omega)), Rlw.bx_loc R6.out (gb8 _ (by have := Z6.out; omega) (fun e => by have := (lt5 _ e).1; omega)), ?_, o8, ?_⟩
          · refine S6.out.step gs8 (fun b hb hl => ?_)
            have hnb : ¬ rwB ia (esI (csE now) h.ss i).length ic b ∨ b < w.heap.size := by
              rcases hb with (hb | hb) | hb
              · exact .inr hb
              · exact .inl hb.2
              · exact .inl (fun e => by have := (lt5 _ e).2; omega)
            have hn2 : ¬ rwB ia (esI (csE now) h.ss i).length ic b := hnb.elim (fun h => h) (fun hb e => by have := (lt5 _ e).1; omega)
            refine ⟨?_, gb8 b hl hn2⟩
            have hn3 : ¬ rwB s8 (esI (csE now) h.ss (i + 1)).length c8 b := fun e => by
              rcases p8 b e with e | e
              · exact hn2 e
              · have := A7.size
                omega
            rcases hb with (hb | hb) | hb
            · exact .inl hb
            · exact .inr ⟨hb.1, hn3⟩
            · exact .inr ⟨by omega, hn3⟩
          · refine ⟨g8.os.trans (A7.os.trans B6.out.os), g8.tape.trans (A7.tape.trans B6.out.tape), g8.output.trans (A7.output.trans B6.out.output), Nat.le_trans B6.out.size gs8, fun b hb => (gb8 b (Nat.lt_of_lt_of_le hb B6.out.size) (fun e => by have := (lt5 _ e).1; omega)).trans (B6.out.block b hb)⟩
        have e5 : (esS (csE now) h.ss (i + 1)).length = K := by rw [e1]; exact hK
        clear G6 R6 X6 B6 I6 S6 Z6 A7 I7 CL t0 o8 g8 p8 gb8 gs8 lt5 HW e1
        go_wp2
        go_roundw
        case rel => exact ⟨i + 1, A5, s8, c8, by omega, rfl, by rw [e5], Y⟩
        case measure => have h1 := HM2.out; have h2 := HM3.out; simp [intOf, lenV]; omega
      have hd1 : decide (un ≤ now) = false := decide_eq_false hq1
      obtain ⟨d, hdw⟩ : ∃ d, IntKind.i64.wrap (now - la) = d := ⟨_, rfl⟩
      by_cases hq2 : il ≤ d
      · have hd2 : decide (il ≤ d) = true := decide_eq_true hq2
        have hc0 : (csE now) ⟨id, us_, mc, ip, be, la, ud, qu, un, il⟩ = 2 := by unfold csE; dsimp only; rw [if_neg hq1, hdw, if_pos hq2]
        have hcn : (csE now) ⟨id, us_, mc, ip, be, la, ud, qu, un, il⟩ ≠ 0 := by rw [hc0]; decide
        have e1 := hno hcn
        have e2 := ino hcn
        have e3 := gno hcn
        rw [hc0] at e3
        have HE : Hid (Calls Tryz.prog 74 #[.agg #[.slice au h.us.length auc, .slice (some ⟨bs, os, none⟩) M asc, .slice af h.fs.length afc, .slice ar EL arc, .int .i64 h.nx], .int .i64 (K : Int), .int .i64 now, .int .i64 2] (wr.alloc (.cells #[.int .i64 id, .int .i64 us_, .string mc, .int .i64 ip, .int .i64 be, .int .i64 la, .int .i64 ud, .int .i64 qu, .int .i64 un, .int .i64 il] 84)) fun e w' => ∃ A5 : HuA, e = .returned (.agg #[.slice A5.u (hE (csE now) now h (i + 1)).us.length A5.uc, .slice A5.s (hE (csE now) now h (i + 1)).ss.length A5.sc, .slice A5.f (hE (csE now) now h (i + 1)).fs.length A5.fc, .slice A5.r (hE (csE now) now h (i + 1)).es.length A5.rc, .int .i64 (hE (csE now) now h (i + 1)).nx]) ∧ HuP (fun b => (b < w.heap.size ∨ (w.heap.size + 2 ≤ b ∧ ¬ rwB ia (esI (csE now) h.ss i).length ic b)) ∨ (wr.alloc (.cells #[.int .i64 id, .int .i64 us_, .string mc, .int .i64 ip, .int .i64 be, .int .i64 la, .int .i64 ud, .int .i64 qu, .int .i64 un, .int .i64 il] 84)).heap.size ≤ b) w' A5 (hE (csE now) now h (i + 1)) ∧ Below (wr.alloc (.cells #[.int .i64 id, .int .i64 us_, .string mc, .int .i64 ip, .int .i64 be, .int .i64 la, .int .i64 ud, .int .i64 qu, .int .i64 un, .int .i64 il] 84)).heap.size (wr.alloc (.cells #[.int .i64 id, .int .i64 us_, .string mc, .int .i64 ip, .int .i64 be, .int .i64 la, .int .i64 ud, .int .i64 qu, .int .i64 un, .int .i64 il] 84)) w') := by
          have := l08End_keep _ ⟨au, some ⟨bs, os, none⟩, af, ar, auc, asc, afc, arc⟩ (hE (csE now) now h i) (esS (csE now) h.ss i) (h.ss.drop (i + 1)) ⟨id, us_, mc, ip, be, la, ud, qu, un, il⟩ K now 2 (wr.alloc (.cells #[.int .i64 id, .int .i64 us_, .string mc, .int .i64 ip, .int .i64 be, .int .i64 la, .int .i64 ud, .int .i64 qu, .int .i64 un, .int .i64 il] 84)) (X.out.s.step (Q := (fun b => b < w.heap.size ∨ (w.heap.size + 2 ≤ b ∧ ¬ rwB ia (esI (csE now) h.ss i).length ic b))) BA.size (fun b hb hl => ⟨hb, BA.block b hl⟩)) hss hK HN.out ⟨by omega, by omega⟩
          rw [e3, hM, hEL] at this
          exact this
        have I4 : OwnR (wr.alloc (.cells #[.int .i64 id, .int .i64 us_, .string mc, .int .i64 ip, .int .i64 be, .int .i64 la, .int .i64 ud, .int .i64 qu, .int .i64 un, .int .i64 il] 84)) (w.heap.size + 2) ia (esI (csE now) h.ss i).length ic (esI (csE now) h.ss i) := X.out.i.now BA
        have HW : Hid ((wr.alloc (.cells #[.int .i64 id, .int .i64 us_, .string mc, .int .i64 ip, .int .i64 be, .int .i64 la, .int .i64 ud, .int .i64 qu, .int .i64 un, .int .i64 il] 84)).heap.size = wr.heap.size + 1) := by show _ = _; simp
        clear hyes hno iyes ino gyes gno hss hc0 hcn e3
        go_wp2_with (first | (refine wpList_load_mid rfl 84 _ rfl bs (os + K * 10) rfl [.int .i64 id, .int .i64 us_, .string mc, .int .i64 ip, .int .i64 be, .int .i64 la, .int .i64 ud, .int .i64 qu, .int .i64 un, .int .i64 il] _ (fun j u hu => hcs j u hu) Tryz.underlying84 rfl rfl ?_) | (refine wpl_getT 41 rfl _ rfl (w.heap.size) rfl G4 _ Tryz.underlying41 rfl rfl ?_) | fail)
        refine HE.out.mono ?_
        rintro e w5 ⟨A5, rfl, s5, bx⟩
        have G5 : Bx w5 w.heap.size [.slice au h.us.length auc, .slice (some ⟨bs, os, none⟩) M asc, .slice af h.fs.length afc, .slice ar EL arc, .int .i64 h.nx] := G4.below bx
        have R5 : Bx w5 (w.heap.size + 1) [.slice none 0 0, .slice none 0 0, .slice none 0 0, .slice none 0 0, .int .i64 0] := R4.below bx
        have X5 : Bx w5 wr.heap.size [.int .i64 id, .int .i64 us_, .string mc, .int .i64 ip, .int .i64 be, .int .i64 la, .int .i64 ud, .int .i64 qu, .int .i64 un, .int .i64 il] := X4.below bx
        have B5 : Below w.heap.size w w5 := B4.trans (bx.mono B4.size)
        have I5 : OwnR w5 (w.heap.size + 2) ia (esI (csE now) h.ss i).length ic (esI (csE now) h.ss i) := I4.now bx
        have lt5 := I4.lt
        have sz5 := bx.size
        rw [HW.out] at s5 lt5 sz5
        clear G4 R4 X4 B4 I4 BA bx HE G0 g1 hcs hvl x5 x8 x9
        go_wp2_with (first | (refine wpl_putT 41 rfl _ _ rfl (w.heap.size) _ rfl rfl G5 rfl rfl rfl ?_; intro W6 hw6 R6x; have G6 : Hid (Bx W6 w.heap.size [.slice A5.u (hE (csE now) now h (i + 1)).us.length A5.uc, .slice A5.s (hE (csE now) now h (i + 1)).ss.length A5.sc, .slice A5.f (hE (csE now) now h (i + 1)).fs.length A5.fc, .slice A5.r (hE (csE now) now h (i + 1)).es.length A5.rc, .int .i64 (hE (csE now) now h (i + 1)).nx]) := R6x; clear R6x; have R6 : Hid (Bx W6 (w.heap.size + 1) [.slice none 0 0, .slice none 0 0, .slice none 0 0, .slice none 0 0, .int .i64 0]) := (by rw [hw6]; exact R5.apart _ (by omega)); have X6 : Hid (Bx W6 wr.heap.size [.int .i64 id, .int .i64 us_, .string mc, .int .i64 ip, .int .i64 be, .int .i64 la, .int .i64 ud, .int .i64 qu, .int .i64 un, .int .i64 il]) := (by rw [hw6]; exact X5.apart _ (by omega)); have B6 : Hid (Below w.heap.size w W6) := (by rw [hw6]; exact below_cells (Nat.le_refl _) _ _ _ B5); have I6 : Hid (OwnR W6 (w.heap.size + 2) ia (esI (csE now) h.ss i).length ic (esI (csE now) h.ss i)) := (by rw [hw6]; exact I5.keep (fun b hb => (heap_cellsA _ _ _).2 b (by have := (I5.lt b hb).1; omega))); have S6 : Hid (HuP (fun b => (b < w.heap.size ∨ (w.heap.size + 2 ≤ b ∧ ¬ rwB ia (esI (csE now) h.ss i).length ic b)) ∨ wr.heap.size + 1 ≤ b) W6 A5 (hE (csE now) now h (i + 1))) := (by rw [hw6]; exact s5.step (by rw [(heap_cellsA _ _ _).1]; exact Nat.le_refl _) (fun b hb hl => ⟨hb, (heap_cellsA _ _ _).2 b (by rcases hb with (hb | hb) | hb <;> omega)⟩)); have Z6 : Hid (wr.heap.size + 1 ≤ W6.heap.size) := (by rw [hw6, (heap_cellsA _ _ _).1]; exact sz5); clear hw6 G5 R5 X5 B5 I5 s5; have t0 := X6.out.cell 0 rfl; have A7 : Below W6.heap.size W6 (W6.alloc (.cells #[.int .i64 id] 3)) := (Below.refl _ _).alloc (Nat.le_refl _) _; have I7 : OwnS iG 1 3 (W6.alloc (.cells #[.int .i64 id] 3)) (w.heap.size + 2) (.slice ia (esI (csE now) h.ss i).length ic) (esI (csE now) h.ss i) := I6.out.now A7; have CL := one_new iG W6 #[.int .i64 id] 3 id rfl; have hB7 : w.heap.size + 2 ≤ (W6.alloc (.cells #[.int .i64 id] 3)).heap.size := (by rw [World.size_alloc]; have := Z6.out; omega); have lI : (esI (csE now) h.ss i).length + 1 ≤ 2000000 := (by have := HM2.out; omega)) | (at_builtin; go_loud (refine wpl_IntW _ rfl (.tmp 43) (.tmp 46) rfl (w.heap.size + 2) _ (esI (csE now) h.ss i) [id] rfl I7 W6.heap.size 0 1 1 rfl rfl CL lI hB7 ?_)) | fail)
        intro v8 w8 o8 g8 p8
        rw [← e2] at o8
        obtain ⟨s8, c8, rfl, -⟩ := o8.slice
        have e4 : (esI (csE now) h.ss (i + 1)).length = (esI (csE now) h.ss i).length + 1 := by rw [e2]; simp
        have gb8 : ∀ b, b < W6.heap.size → ¬ rwB ia (esI (csE now) h.ss i).length ic b → w8.heap[b]? = W6.heap[b]? := fun b hb hne => (g8.block b (Nat.lt_of_lt_of_le hb A7.size) (fun e => hne e.symm)).trans (A7.block b hb)
        have gs8 : W6.heap.size ≤ w8.heap.size := Nat.le_trans A7.size g8.size
        have Y : Hid (LX w (csE now) now h (i + 1) A5 s8 c8 w8) := by
          refine ⟨Rlw.bx_loc G6.out (gb8 _ (by have := Z6.out; omega) (fun e => by have := (lt5 _ e).1; omega)), Rlw.bx_loc R6.out (gb8 _ (by have := Z6.out; omega) (fun e => by have := (lt5 _ e).1; omega)), ?_, o8, ?_⟩
          · refine S6.out.step gs8 (fun b hb hl => ?_)
            have hnb : ¬ rwB ia (esI (csE now) h.ss i).length ic b ∨ b < w.heap.size := by
              rcases hb with (hb | hb) | hb
              · exact .inr hb
              · exact .inl hb.2
              · exact .inl (fun e => by have := (lt5 _ e).2; omega)
            have hn2 : ¬ rwB ia (esI (csE now) h.ss i).length ic b := hnb.elim (fun h => h) (fun hb e => by have := (lt5 _ e).1; omega)
            refine ⟨?_, gb8 b hl hn2⟩
            have hn3 : ¬ rwB s8 (esI (csE now) h.ss (i + 1)).length c8 b := fun e => by
              rcases p8 b e with e | e
              · exact hn2 e
              · have := A7.size
                omega
            rcases hb with (hb | hb) | hb
            · exact .inl hb
            · exact .inr ⟨hb.1, hn3⟩
            · exact .inr ⟨by omega, hn3⟩
          · refine ⟨g8.os.trans (A7.os.trans B6.out.os), g8.tape.trans (A7.tape.trans B6.out.tape), g8.output.trans (A7.output.trans B6.out.output), Nat.le_trans B6.out.size gs8, fun b hb => (gb8 b (Nat.lt_of_lt_of_le hb B6.out.size) (fun e => by have := (lt5 _ e).1; omega)).trans (B6.out.block b hb)⟩
        have e5 : (esS (csE now) h.ss (i + 1)).length = K := by rw [e1]; exact hK
        clear G6 R6 X6 B6 I6 S6 Z6 A7 I7 CL t0 o8 g8 p8 gb8 gs8 lt5 HW e1
        go_wp2
        go_roundw
        case rel => exact ⟨i + 1, A5, s8, c8, by omega, rfl, by rw [e5], Y⟩
        case measure => have h1 := HM2.out; have h2 := HM3.out; simp [intOf, lenV]; omega
      have hd2 : decide (il ≤ d) = false := decide_eq_false hq2
      have hc0 : (csE now) ⟨id, us_, mc, ip, be, la, ud, qu, un, il⟩ = 0 := by unfold csE; dsimp only; rw [if_neg hq1, hdw, if_neg hq2]
      have e1 := hyes hc0
      have e2 := iyes hc0
      have e3 := gyes hc0
      have Y : Hid (LX w (csE now) now h (i + 1) ⟨au, some ⟨bs, os, none⟩, af, ar, auc, asc, afc, arc⟩ ia ic (wr.alloc (.cells #[.int .i64 id, .int .i64 us_, .string mc, .int .i64 ip, .int .i64 be, .int .i64 la, .int .i64 ud, .int .i64 qu, .int .i64 un, .int .i64 il] 84))) := by
        refine ⟨by rw [e3]; exact X.out.g.below BA, R4, by rw [e2, e3]; exact X.out.s.step BA.size (fun b hb hl => ⟨hb, BA.block b hl⟩), by rw [e2]; exact X.out.i.now BA, B4⟩
      have e4 : (esS (csE now) h.ss (i + 1)).length = K + 1 := by rw [e1, List.length_append, hK]; rfl
      have hKb : K ≤ 1048576 := by have := HM2.out; omega
      have hwK : IntKind.i64.wrap ((K : Int) + 1) = (K : Int) + 1 := by rw [IntKind.wrap_i64]; omega
      clear hyes hno iyes ino gyes gno hss G4 R4 B4 X4 BA e3 e1
      go_wp2_with (first | (refine wpList_load_mid rfl 84 _ rfl bs (os + K * 10) rfl [.int .i64 id, .int .i64 us_, .string mc, .int .i64 ip, .int .i64 be, .int .i64 la, .int .i64 ud, .int .i64 qu, .int .i64 un, .int .i64 il] _ (fun j u hu => hcs j u hu) Tryz.underlying84 rfl rfl ?_) | fail)
      go_roundw
      case rel => exact ⟨i + 1, _, ia, ic, by omega, by rw [e2], by rw [e4]; rfl, Y⟩
      case measure => have h1 := HM2.out; have h2 := HM3.out; simp [intOf, lenV]; omega
    · obtain rfl : i = n := by omega
      have e9 : hE (csE now) now h i = exG (csE now) now h := by rw [← hl]; exact hE_end _ _ _
      have hKM : ¬ (((esS (csE now) h.ss i).length : Nat) : Int) < (M : Int) := by omega
      have hKz : decide ((((esS (csE now) h.ss i).length : Nat) : Int) < (M : Int)) = false := decide_eq_false hKM
      have g1 := G0.out.cell 1 rfl
      obtain ⟨K, hK⟩ : ∃ K, (esS (csE now) h.ss i).length = K := ⟨_, rfl⟩
      rw [hK] at hKM hKz ⊢
      clear hM2 hsum
      go_wp2_with (first | (refine wpl_getT 41 rfl _ rfl (w.heap.size) rfl G0.out _ Tryz.underlying41 rfl rfl ?_) | (refine wpl_putT 41 rfl _ _ rfl (w.heap.size + 1) _ rfl rfl X.out.r rfl rfl rfl ?_; intro W5 hw5 R5; have B5 : Hid (Below w.heap.size w W5) := (by rw [hw5]; exact below_cells (by omega) _ _ _ X.out.b); have I5 : Hid (OwnR W5 (w.heap.size + 2) ia (esI (csE now) h.ss i).length ic (esI (csE now) h.ss i)) := (by rw [hw5]; exact X.out.i.keep (fun b hb => (heap_cellsA _ _ _).2 b (by have := (X.out.i.lt b hb).1; omega))); have S5 : Hid (HuS W5 ⟨au, as_, af, ar, auc, asc, afc, arc⟩ (hE (csE now) now h i)) := (by rw [hw5]; exact X.out.s _ (by rw [(heap_cellsA _ _ _).1]; exact Nat.le_refl _) (fun b hb _ => (heap_cellsA _ _ _).2 b (by rcases hb with hb | hb <;> omega))); clear hw5) | fail)
      refine bodyPost_ret (v := .tuple #[.agg #[.slice au h.us.length auc, .slice as_ M asc, .slice af h.fs.length afc, .slice ar EL arc, .int .i64 h.nx], .slice ia (esI (csE now) h.ss i).length ic]) (results_cell2 Tryz.results64 (w.heap.size + 1) rfl rfl R5 _ Tryz.underlying41 rfl rfl) rfl ?_
      refine ⟨⟨au, as_, af, ar, auc, asc, afc, arc⟩, ia, ic, ?_, by rw [← e9]; exact S5.out, I5.out.lower (by omega), B5.out⟩
      rw [← e9, hM, hEL]
      rfl
end Go.Proofs.YtmeejholckelgaaGreat

namespace Go.Proofs.YtmeejholckelgaaGreat
open Go.Shelf Go.Lib Go.Proofs Go.RowKit Go.PlainAid Go.Proofs.YtmeejholckelgaaGreat.Bt Go.Sort
set_option linter.unusedVariables false
set_option maxRecDepth 20000

theorem rolePlace1_any (nm nm2 : ByteArray) (ra : Option Addr) (rl2 rc2 : Nat) (rq rm ri : Int) (B : Nat) (w : World) (hc : w.cell? ⟨B, 0, none⟩ = some (.string nm2)) :
    Calls Tryz.prog 151 #[.agg #[.string nm, .slice ra rl2 rc2, .int .i64 rq, .int .i64 rm, .int .i64 ri], .pointer (some ⟨B, 0, none⟩)] w fun e w' => e = .returned (.bool (nm.toList == nm2.toList)) ∧ Grw w w' := by
  have hB : B < w.heap.size := World.block_lt_of_cell? w _ hc
  have hc2 := acell hc (.cells #[.string nm, .slice ra rl2 rc2, .int .i64 rq, .int .i64 rm, .int .i64 ri] 127)
  obtain ⟨u, hu⟩ : ∃ u, (nm.toList == nm2.toList) = u := ⟨_, rfl⟩
  rw [hu]
  go_enter Tryz.func151, Tryz.ntmps151
  go_wp2
  go_ret
  exact ⟨by first | rfl | (rw [hu]; rfl), (Grw.refl _).alloc _⟩
set_option maxHeartbeats 2000000 in
theorem idxRole_any (y : Option Addr) (n c : Nat) (ros : List RoleV) (nm2 : ByteArray) (B : Nat) (w : World) (h : Rw (RoR 0) 5 w y ros) (hl : ros.length = n) (hn : n ≤ 1048576) (hcl : w.cell? ⟨B, 0, none⟩ = some (.string nm2)) :
    Calls Tryz.prog 150 #[.slice y n c, .func (.func 151) #[] #[.pointer (some ⟨B, 0, none⟩)]] w fun e w' => e = .returned (.int .i64 (roI ros nm2)) ∧ Grw w w' := by
  have RY : Hid (Rw (RoR 0) 5 w y ros) := h
  clear h
  have HCL : Hid (w.cell? ⟨B, 0, none⟩ = some (.string nm2)) := hcl
  clear hcl
  have eg : ∀ args w, (callFunc 151 args).run Tryz.prog w = .ok (.enter 151 args) w := enters_of Tryz.func151 (by kernel_rfl) rfl
  go_enter Tryz.func150, Tryz.ntmps150
  go_wp2
  go_loopw [8] (fun u wr => ∃ k : Nat, k ≤ n ∧ u = .int .i64 k ∧ Hid ((ros.take k).find? (rfP nm2) = none) ∧ Hid (Grw w wr)) (fun u _ => n - (intOf u).toNat)
  case atStart => exact ⟨0, Nat.zero_le _, rfl, rfl, Grw.refl _⟩
  case round =>
    obtain ⟨k, hk, rfl, HO, HG⟩ := hrel
    by_cases hlt : k < n
    · obtain ⟨z, hx⟩ := at_of hl hlt
      obtain ⟨bk, off, vs, rfl, hb, hvl, hR, hc⟩ := RY.out.at (RoR.kp 0) HG.out.below hx
      have HY : Hid (rfP nm2 z = true → roI ros nm2 = k) := fun h => by unfold roI; rw [bfind_yes hx HO.out h, bfind_at hx HO.out h]
      have HN : Hid (rfP nm2 z = false → (ros.take (k + 1)).find? (rfP nm2) = none) := fun h => bfind_no hx HO.out h
      obtain ⟨nm, rrs, rq, rm, ri⟩ := z
      obtain ⟨ra, rc2, rfl, -⟩ := hR
      have q0 : wr.cell? ⟨bk, off + k * 5, none⟩ = some (.string nm) := hc 0 _ rfl
      have q1 : wr.cell? ⟨bk, off + k * 5 + 1, none⟩ = some (.slice ra rrs.length rc2) := hc 1 _ rfl
      have q2 : wr.cell? ⟨bk, off + k * 5 + 2, none⟩ = some (.int .i64 rq) := hc 2 _ rfl
      have q3 : wr.cell? ⟨bk, off + k * 5 + 3, none⟩ = some (.int .i64 rm) := hc 3 _ rfl
      have q4 : wr.cell? ⟨bk, off + k * 5 + 4, none⟩ = some (.int .i64 ri) := hc 4 _ rfl
      have hltz : (k : Int) < (n : Int) := by omega
      have he : rfP nm2 ⟨nm, rrs, rq, rm, ri⟩ = (nm.toList == nm2.toList) := rfl
      rw [he] at HY HN
      have HP : Hid (∀ W, Grw w W → Calls Tryz.prog 151 #[.agg #[.string nm, .slice ra rrs.length rc2, .int .i64 rq, .int .i64 rm, .int .i64 ri], .pointer (some ⟨B, 0, none⟩)] W fun e w' => e = .returned (.bool (nm.toList == nm2.toList)) ∧ Grw W w') := fun W g => rolePlace1_any nm nm2 ra rrs.length rc2 rq rm ri B W (g.keep HCL.out)
      generalize (nm.toList == nm2.toList) = u at HY HN HP
      clear hc hvl he hx
      cases u with
      | false =>
        have HN' : Hid ((ros.take (k + 1)).find? (rfP nm2) = none) := HN.out rfl
        clear HY HN
        go_wp2_with (go_at_fn 151; refine (HP.out _ HG.out).mono ?_; rintro e w' ⟨rfl, g1⟩)
        have HG1 : Hid (Grw w _) := HG.out.trans g1
        clear g1 HG
        go_roundw
        case rel => exact ⟨k + 1, by omega, by go_num, HN', HG1⟩
        case measure => simp [intOf]; omega
      | true =>
        have HY' : Hid (roI ros nm2 = k) := HY.out rfl
        clear HY HN
        go_wp2_with (go_at_fn 151; refine (HP.out _ HG.out).mono ?_; rintro e w' ⟨rfl, g1⟩)
        go_ret
        exact ⟨by rw [HY'.out]; rfl, HG.out.trans g1⟩
    · obtain rfl : k = n := by omega
      have hd : Hid (roI ros nm2 = -1) := by show roI ros nm2 = -1; unfold roI; rw [bfind_end hl HO.out]
      go_wp2
      go_ret
      exact ⟨by rw [hd.out]; rfl, HG.out⟩
set_option maxHeartbeats 1000000 in
theorem rolePlace_any (ip b gt : Int) (gm wm : ByteArray) (rs : Int) (x y : Option Addr) (lenx capx leny capy : Nat) (ros : List RoleV) (nm2 : ByteArray) (w : World) (h : Rw (RoR 0) 5 w y ros) (hl : ros.length = leny) (hl9 : leny ≤ 1048576) :
    Calls Tryz.prog 137 #[.agg #[.int .i64 ip, .int .i64 b, .int .i64 gt, .string gm, .string wm, .int .i64 rs, .slice x lenx capx, .slice y leny capy], .string nm2] w fun e w' => e = .returned (.int .i64 (roI ros nm2)) ∧ Grw w w' := by
  have RY : Hid (Rw (RoR 0) 5 w y ros) := h
  have HX : Hid (∀ W B, Grw w W → W.cell? ⟨B, 0, none⟩ = some (.string nm2) → Calls Tryz.prog 150 #[.slice y leny capy, .func (.func 151) #[] #[.pointer (some ⟨B, 0, none⟩)]] W fun e w' => e = .returned (.int .i64 (roI ros nm2)) ∧ Grw W w') := fun W B g hc => idxRole_any y leny capy ros nm2 B W (RY.out.keep (RoR.kp 0) g.below) hl hl9 hc
  clear h
  generalize roI ros nm2 = r at HX ⊢
  go_enter Tryz.func137, Tryz.ntmps137
  go_wp2_with (go_at_call 150; refine (HX.out _ _ (((Grw.refl w).alloc _).alloc _) (by simp [go_sem])).mono ?_; rintro e w' ⟨rfl, g1⟩)
  go_ret
  exact ⟨rfl, (((Grw.refl w).alloc _).alloc _).trans g1⟩
set_option maxHeartbeats 2000000 in
theorem userOK_any (ip b gt : Int) (gm wm : ByteArray) (rs : Int) (x y : Option Addr) (lenx capx leny capy : Nat) (ros : List RoleV) (nm : ByteArray) (sa : ByteArray) (ha : ByteArray) (ro : ByteArray) (bl : Int) (lg : Int) (w : World) (h : Rw (RoR 0) 5 w y ros) (hl : ros.length = leny) (hl9 : leny ≤ 1048576) (hsz : nm.size ≤ 1048576 ∧ sa.size ≤ 1048576 ∧ ha.size ≤ 1048576 ∧ ro.size ≤ 1048576) :
    Calls Tryz.prog 124 #[.agg #[.int .i64 ip, .int .i64 b, .int .i64 gt, .string gm, .string wm, .int .i64 rs, .slice x lenx capx, .slice y leny capy], .agg #[.string nm, .string sa, .string ha, .string ro, .int .i64 bl, .int .i64 lg]] w fun e w' => e = .returned (.bool (uB ros ⟨nm, sa, ha, ro, bl, lg⟩)) ∧ Grw w w' := by
  have RY : Hid (Rw (RoR 0) 5 w y ros) := h
  have HN : Hid (∀ w, Calls Tryz.prog 136 #[.string nm] w fun e w' => e = .returned (.bool (snB nm)) ∧ w' = w) := fun w => shortNameOK_any nm w hsz.1
  have HR : Hid (∀ w, Rw (RoR 0) 5 w y ros → Calls Tryz.prog 137 #[.agg #[.int .i64 ip, .int .i64 b, .int .i64 gt, .string gm, .string wm, .int .i64 rs, .slice x lenx capx, .slice y leny capy], .string ro] w fun e w' => e = .returned (.int .i64 (roI ros ro)) ∧ Grw w w') := fun w h => rolePlace_any ip b gt gm wm rs x y lenx capx leny capy ros ro w h hl hl9
  have HK : Hid (∀ w, Calls Tryz.prog 138 #[.int .i64 bl, .int .i64 lg] w fun e w' => e = .returned (.bool (dec (0 ≤ bl ∧ bl ≤ 1000000) && dec (0 ≤ lg ∧ lg ≤ 1000))) ∧ w' = w) := fun w => creditOK_any bl lg w
  have eu : uB ros ⟨nm, sa, ha, ro, bl, lg⟩ = (snB nm && (dec (sa.size ≤ 40) && (dec (ha.size = 32) && (roH ros ro && (dec (0 ≤ bl ∧ bl ≤ 1000000) && dec (0 ≤ lg ∧ lg ≤ 1000)))))) := rfl
  rw [eu]
  have hss : (sa.size : Int) ≤ 1048576 := by omega
  have hhs : (ha.size : Int) ≤ 1048576 := by omega
  clear h eu
  obtain ⟨q4, hq4⟩ : ∃ q, roH ros ro = q := ⟨_, rfl⟩
  obtain ⟨r, hr⟩ : ∃ r, roI ros ro = r := ⟨_, rfl⟩
  have hrr : (q4 = false ∧ decide (0 ≤ r) = false) ∨ (q4 = true ∧ decide (0 ≤ r) = true) := by
    rw [← hq4, ← hr]
    unfold roH roI
    cases ros.find? (rfP ro) with
    | none => left; exact ⟨rfl, by simp⟩
    | some v => right; exact ⟨rfl, by first | (simp; done) | (simp; omega)⟩
  rw [hq4]
  rw [hr] at HR
  clear hq4 hr
  generalize snB nm = q1 at HN ⊢
  generalize (dec (0 ≤ bl ∧ bl ≤ 1000000) && dec (0 ≤ lg ∧ lg ≤ 1000)) = q5 at HK ⊢
  have b1 : Hid (Grw w ((w.alloc (.cells #[.int .i64 ip, .int .i64 b, .int .i64 gt, .string gm, .string wm, .int .i64 rs, .slice x lenx capx, .slice y leny capy] 48)).alloc (.cells #[.string nm, .string sa, .string ha, .string ro, .int .i64 bl, .int .i64 lg] 86))) := ((Grw.refl w).alloc _).alloc _
  cases q1 with
  | false =>
    go_enter Tryz.func124, Tryz.ntmps124
    go_wp2_with fail
    refine (HN.out _).mono ?_
    rintro e w1 ⟨rfl, hw⟩
    subst hw
    go_wp2
    go_ret
    exact ⟨by first | rfl | simp, b1.out⟩
  | true =>
    by_cases hsa : sa.size ≤ 40
    rotate_left
    · rw [dec_n hsa]
      have hsz1 : decide ((sa.size : Int) ≤ 40) = false := decide_eq_false (by omega)
      go_enter Tryz.func124, Tryz.ntmps124
      go_wp2_with fail
      refine (HN.out _).mono ?_
      rintro e w1 ⟨rfl, hw⟩
      subst hw
      go_wp2
      go_ret
      exact ⟨by first | rfl | simp, b1.out⟩
    rw [dec_y hsa]
    have hsz1 : decide ((sa.size : Int) ≤ 40) = true := decide_eq_true (by omega)
    by_cases hha : ha.size = 32
    rotate_left
    · rw [dec_n hha]
      have hsz2 : ((ha.size : Int) == 32) = false := by simp; omega
      go_enter Tryz.func124, Tryz.ntmps124
      go_wp2_with fail
      refine (HN.out _).mono ?_
      rintro e w1 ⟨rfl, hw⟩
      subst hw
      go_wp2
      go_ret
      exact ⟨by first | rfl | simp, b1.out⟩
    rw [dec_y hha]
    have hsz2 : ((ha.size : Int) == 32) = true := by simp; omega
    rcases hrr with ⟨rfl, hr0⟩ | ⟨rfl, hr0⟩
    · go_enter Tryz.func124, Tryz.ntmps124
      go_wp2_with fail
      refine (HN.out _).mono ?_
      rintro e w1 ⟨rfl, hw⟩
      subst hw
      go_wp2_with fail
      refine (HR.out _ (RY.out.keep (RoR.kp 0) b1.out.below)).mono ?_
      rintro e w2 ⟨rfl, g2⟩
      go_wp2
      go_ret
      exact ⟨by first | rfl | simp, b1.out.trans g2⟩
    · go_enter Tryz.func124, Tryz.ntmps124
      go_wp2_with fail
      refine (HN.out _).mono ?_
      rintro e w1 ⟨rfl, hw⟩
      subst hw
      go_wp2_with fail
      refine (HR.out _ (RY.out.keep (RoR.kp 0) b1.out.below)).mono ?_
      rintro e w2 ⟨rfl, g2⟩
      have k4 : w2.cell? ⟨w.heap.size + 1, 4, none⟩ = some (.int .i64 bl) := g2.keep (a := ⟨w.heap.size + 1, 4, none⟩) (v := .int .i64 bl) (by simp [go_sem])
      have k5 : w2.cell? ⟨w.heap.size + 1, 5, none⟩ = some (.int .i64 lg) := g2.keep (a := ⟨w.heap.size + 1, 5, none⟩) (v := .int .i64 lg) (by simp [go_sem])
      have B2 : Hid (Grw w w2) := b1.out.trans g2
      clear g2
      go_wp2_with fail
      refine (HK.out _).mono ?_
      rintro e w1 ⟨rfl, hw⟩
      subst hw
      go_wp2
      go_ret
      exact ⟨by first | rfl | simp, B2.out⟩
set_option maxHeartbeats 8000000 in
theorem usersOK_any (ip b gt : Int) (gm wm : ByteArray) (rs : Int) (x y : Option Addr) (lenx capx leny capy : Nat) (ros : List RoleV) (a : Option Addr) (len cap : Nat) (us : List UserV) (w : World) (h : Rw (RoR 0) 5 w y ros) (hl2 : ros.length = leny) (hu : Rw UsR 6 w a us) (hl : us.length = len) (hsz : SzU us) (hl9 : leny ≤ 1048576) (hl8 : len ≤ 1048576) :
    Calls Tryz.prog 108 #[.agg #[.int .i64 ip, .int .i64 b, .int .i64 gt, .string gm, .string wm, .int .i64 rs, .slice x lenx capx, .slice y leny capy], .slice a len cap] w fun e w' => e = .returned (.bool (usB ros us)) ∧ Grw w w' := by
  have RY : Hid (Rw (RoR 0) 5 w y ros) := h
  have RW : Hid (Rw UsR 6 w a us) := hu
  have SZ : Hid (SzU us) := hsz
  clear h hu hsz
  by_cases h6 : len ≤ 6
  rotate_left
  · have hv : Hid (usB ros us = false) := by show usB ros us = false; unfold usB; rw [dec_n (by omega)]; rfl
    have h6z : (6 : Int) < (len : Int) := by omega
    go_enter Tryz.func108, Tryz.ntmps108
    go_wp2
    go_ret
    exact ⟨by rw [hv.out]; rfl, (Grw.refl _).alloc _⟩
  have h6z : (len : Int) ≤ 6 := by omega
  go_enter Tryz.func108, Tryz.ntmps108
  go_wp2
  go_loopw [12] (fun u wr => ∃ k : Nat, k ≤ len ∧ u = .int .i64 k ∧ Hid ((List.range k).all (risAt (uB ros) ltU us) = true) ∧ Hid (Grw w wr ∧ wr.cell? ⟨w.heap.size, 0, none⟩ = some (.int .i64 ip) ∧ wr.cell? ⟨w.heap.size, 1, none⟩ = some (.int .i64 b) ∧ wr.cell? ⟨w.heap.size, 2, none⟩ = some (.int .i64 gt) ∧ wr.cell? ⟨w.heap.size, 3, none⟩ = some (.string gm) ∧ wr.cell? ⟨w.heap.size, 4, none⟩ = some (.string wm) ∧ wr.cell? ⟨w.heap.size, 5, none⟩ = some (.int .i64 rs) ∧ wr.cell? ⟨w.heap.size, 6, none⟩ = some (.slice x lenx capx) ∧ wr.cell? ⟨w.heap.size, 7, none⟩ = some (.slice y leny capy))) (fun u _ => len - (intOf u).toNat)
  case atStart => exact ⟨0, Nat.zero_le _, rfl, rfl, (Grw.refl _).alloc _, by simp [go_sem], by simp [go_sem], by simp [go_sem], by simp [go_sem], by simp [go_sem], by simp [go_sem], by simp [go_sem], by simp [go_sem]⟩
  case round =>
    obtain ⟨k, hk, rfl, HO, HG⟩ := hrel
    obtain ⟨G0, d0, d1, d2, d3, d4, d5, d6, d7⟩ := HG.out
    have GG := G0.below
    by_cases hlt : k < len
    · obtain ⟨z, hx⟩ := at_of hl hlt
      obtain ⟨bk, off, vs, rfl, hb, hvl, hR, hc⟩ := RW.out.at UsR.kp GG hx
      have hsz := SZ.out _ (List.mem_of_getElem? hx)
      have HS : Hid (risAt (uB ros) ltU us k = true → (List.range (k + 1)).all (risAt (uB ros) ltU us) = true) := fun h => ris_step HO.out h
      have HF : Hid (risAt (uB ros) ltU us k = false → risB (uB ros) ltU us = false) := fun h => ris_no (by omega) h
      obtain ⟨nm, sa, ha, ro, bl, lg⟩ := z
      obtain ⟨rfl, -⟩ := hR
      have q0 : wr.cell? ⟨bk, off + k * 6, none⟩ = some (.string nm) := hc 0 _ rfl
      have q1 : wr.cell? ⟨bk, off + k * 6 + 1, none⟩ = some (.string sa) := hc 1 _ rfl
      have q2 : wr.cell? ⟨bk, off + k * 6 + 2, none⟩ = some (.string ha) := hc 2 _ rfl
      have q3 : wr.cell? ⟨bk, off + k * 6 + 3, none⟩ = some (.string ro) := hc 3 _ rfl
      have q4 : wr.cell? ⟨bk, off + k * 6 + 4, none⟩ = some (.int .i64 bl) := hc 4 _ rfl
      have q5 : wr.cell? ⟨bk, off + k * 6 + 5, none⟩ = some (.int .i64 lg) := hc 5 _ rfl
      have HK : Hid (∀ w, Rw (RoR 0) 5 w y ros → Calls Tryz.prog 124 #[.agg #[.int .i64 ip, .int .i64 b, .int .i64 gt, .string gm, .string wm, .int .i64 rs, .slice x lenx capx, .slice y leny capy], .agg #[.string nm, .string sa, .string ha, .string ro, .int .i64 bl, .int .i64 lg]] w fun e w' => e = .returned (.bool (uB ros ⟨nm, sa, ha, ro, bl, lg⟩)) ∧ Grw w w') := fun w h => userOK_any ip b gt gm wm rs x y lenx capx leny capy ros nm sa ha ro bl lg w h hl2 hl9 hsz
      have hltz : (k : Int) < (len : Int) := by omega
      by_cases hk0 : k = 0
      · have eo : risAt (uB ros) ltU us k = uB ros ⟨nm, sa, ha, ro, bl, lg⟩ := by subst hk0; exact risAt_zero hx
        have hkd : decide (0 < k) = false := decide_eq_false (by omega)
        clear hk0
        rw [eo] at HS HF
        generalize uB ros ⟨nm, sa, ha, ro, bl, lg⟩ = q at HK HS HF
        clear hc hvl hx eo
        have HA : Hid (Grw w (wr.alloc (.cells #[.string nm, .string sa, .string ha, .string ro, .int .i64 bl, .int .i64 lg] 86))) := G0.alloc _
        have hmix : Tryz.prog.follows .mixedOrders = true := by kernel_rfl
        have y0 : ∀ n os, (grow (World.drewN (wr.alloc (.cells #[.string nm, .string sa, .string ha, .string ro, .int .i64 bl, .int .i64 lg] 86)) n) os).cell? ⟨wr.heap.size, 0, none⟩ = some (.string nm) := fun n os => cell_grown (by simp) (by simp) n os
        have y1 : ∀ n os, (grow (World.drewN (wr.alloc (.cells #[.string nm, .string sa, .string ha, .string ro, .int .i64 bl, .int .i64 lg] 86)) n) os).cell? ⟨wr.heap.size, 1, none⟩ = some (.string sa) := fun n os => cell_grown (by simp) (by simp) n os
        have y2 : ∀ n os, (grow (World.drewN (wr.alloc (.cells #[.string nm, .string sa, .string ha, .string ro, .int .i64 bl, .int .i64 lg] 86)) n) os).cell? ⟨wr.heap.size, 2, none⟩ = some (.string ha) := fun n os => cell_grown (by simp) (by simp) n os
        have y3 : ∀ n os, (grow (World.drewN (wr.alloc (.cells #[.string nm, .string sa, .string ha, .string ro, .int .i64 bl, .int .i64 lg] 86)) n) os).cell? ⟨wr.heap.size, 3, none⟩ = some (.string ro) := fun n os => cell_grown (by simp) (by simp) n os
        have y4 : ∀ n os, (grow (World.drewN (wr.alloc (.cells #[.string nm, .string sa, .string ha, .string ro, .int .i64 bl, .int .i64 lg] 86)) n) os).cell? ⟨wr.heap.size, 4, none⟩ = some (.int .i64 bl) := fun n os => cell_grown (by simp) (by simp) n os
        have y5 : ∀ n os, (grow (World.drewN (wr.alloc (.cells #[.string nm, .string sa, .string ha, .string ro, .int .i64 bl, .int .i64 lg] 86)) n) os).cell? ⟨wr.heap.size, 5, none⟩ = some (.int .i64 lg) := fun n os => cell_grown (by simp) (by simp) n os
        have e0 : ∀ n os, (grow (World.drewN (wr.alloc (.cells #[.string nm, .string sa, .string ha, .string ro, .int .i64 bl, .int .i64 lg] 86)) n) os).cell? ⟨w.heap.size, 0, none⟩ = some (.int .i64 ip) := fun n os => (((Grw.refl wr).alloc _).trans ⟨n, os, rfl⟩).keep d0
        have e1 : ∀ n os, (grow (World.drewN (wr.alloc (.cells #[.string nm, .string sa, .string ha, .string ro, .int .i64 bl, .int .i64 lg] 86)) n) os).cell? ⟨w.heap.size, 1, none⟩ = some (.int .i64 b) := fun n os => (((Grw.refl wr).alloc _).trans ⟨n, os, rfl⟩).keep d1
        have e2 : ∀ n os, (grow (World.drewN (wr.alloc (.cells #[.string nm, .string sa, .string ha, .string ro, .int .i64 bl, .int .i64 lg] 86)) n) os).cell? ⟨w.heap.size, 2, none⟩ = some (.int .i64 gt) := fun n os => (((Grw.refl wr).alloc _).trans ⟨n, os, rfl⟩).keep d2
        have e3 : ∀ n os, (grow (World.drewN (wr.alloc (.cells #[.string nm, .string sa, .string ha, .string ro, .int .i64 bl, .int .i64 lg] 86)) n) os).cell? ⟨w.heap.size, 3, none⟩ = some (.string gm) := fun n os => (((Grw.refl wr).alloc _).trans ⟨n, os, rfl⟩).keep d3
        have e4 : ∀ n os, (grow (World.drewN (wr.alloc (.cells #[.string nm, .string sa, .string ha, .string ro, .int .i64 bl, .int .i64 lg] 86)) n) os).cell? ⟨w.heap.size, 4, none⟩ = some (.string wm) := fun n os => (((Grw.refl wr).alloc _).trans ⟨n, os, rfl⟩).keep d4
        have e5 : ∀ n os, (grow (World.drewN (wr.alloc (.cells #[.string nm, .string sa, .string ha, .string ro, .int .i64 bl, .int .i64 lg] 86)) n) os).cell? ⟨w.heap.size, 5, none⟩ = some (.int .i64 rs) := fun n os => (((Grw.refl wr).alloc _).trans ⟨n, os, rfl⟩).keep d5
        have e6 : ∀ n os, (grow (World.drewN (wr.alloc (.cells #[.string nm, .string sa, .string ha, .string ro, .int .i64 bl, .int .i64 lg] 86)) n) os).cell? ⟨w.heap.size, 6, none⟩ = some (.slice x lenx capx) := fun n os => (((Grw.refl wr).alloc _).trans ⟨n, os, rfl⟩).keep d6
        have e7 : ∀ n os, (grow (World.drewN (wr.alloc (.cells #[.string nm, .string sa, .string ha, .string ro, .int .i64 bl, .int .i64 lg] 86)) n) os).cell? ⟨w.heap.size, 7, none⟩ = some (.slice y leny capy) := fun n os => (((Grw.refl wr).alloc _).trans ⟨n, os, rfl⟩).keep d7
        have YR : Hid (∀ n os, Rw (RoR 0) 5 (grow (World.drewN (wr.alloc (.cells #[.string nm, .string sa, .string ha, .string ro, .int .i64 bl, .int .i64 lg] 86)) n) os) y ros) := fun n os => RY.out.keep (RoR.kp 0) (HA.out.trans ⟨n, os, rfl⟩).below
        cases q with
        | false =>
          have hd : Hid (risB (uB ros) ltU us = false) := HF.out (by simp)
          have hv : Hid (usB ros us = false) := by show usB ros us = false; unfold usB; rw [hd.out, Bool.and_false]
          go_wp2_with fail
          refine wp_region_quiet_grown (by assumption) (by kernel_rfl) ?_
          repeat (go_big_quiet_step (first | fail | (go_at_call 124; exact Calls.grown_of (HK.out _ (YR.out _ _)))))
          refine wpQuiet_nil ?_
          intro _ hw'
          obtain ⟨⟨nq, osq⟩, hw''⟩ := hw'
          subst hw''
          have HG1 : Hid (Grw w _) := HA.out.trans ⟨nq, osq, rfl⟩
          clear y0 y1 y2 y3 y4 y5 e0 e1 e2 e3 e4 e5 e6 e7
          go_wp2
          go_ret
          exact ⟨by rw [hv.out]; rfl, HG1.out⟩
        | true =>
          have HS' : Hid ((List.range (k + 1)).all (risAt (uB ros) ltU us) = true) := HS.out (by simp)
          clear HS HF
          go_wp2_with fail
          refine wp_region_quiet_grown (by assumption) (by kernel_rfl) ?_
          repeat (go_big_quiet_step (first | fail | (go_at_call 124; exact Calls.grown_of (HK.out _ (YR.out _ _)))))
          refine wpQuiet_nil ?_
          intro _ hw'
          obtain ⟨⟨nq, osq⟩, hw''⟩ := hw'
          subst hw''
          have HG1 : Hid (Grw w (grow (World.drewN (wr.alloc (.cells #[.string nm, .string sa, .string ha, .string ro, .int .i64 bl, .int .i64 lg] 86)) nq) osq) ∧ (grow (World.drewN (wr.alloc (.cells #[.string nm, .string sa, .string ha, .string ro, .int .i64 bl, .int .i64 lg] 86)) nq) osq).cell? ⟨w.heap.size, 0, none⟩ = some (.int .i64 ip) ∧ (grow (World.drewN (wr.alloc (.cells #[.string nm, .string sa, .string ha, .string ro, .int .i64 bl, .int .i64 lg] 86)) nq) osq).cell? ⟨w.heap.size, 1, none⟩ = some (.int .i64 b) ∧ (grow (World.drewN (wr.alloc (.cells #[.string nm, .string sa, .string ha, .string ro, .int .i64 bl, .int .i64 lg] 86)) nq) osq).cell? ⟨w.heap.size, 2, none⟩ = some (.int .i64 gt) ∧ (grow (World.drewN (wr.alloc (.cells #[.string nm, .string sa, .string ha, .string ro, .int .i64 bl, .int .i64 lg] 86)) nq) osq).cell? ⟨w.heap.size, 3, none⟩ = some (.string gm) ∧ (grow (World.drewN (wr.alloc (.cells #[.string nm, .string sa, .string ha, .string ro, .int .i64 bl, .int .i64 lg] 86)) nq) osq).cell? ⟨w.heap.size, 4, none⟩ = some (.string wm) ∧ (grow (World.drewN (wr.alloc (.cells #[.string nm, .string sa, .string ha, .string ro, .int .i64 bl, .int .i64 lg] 86)) nq) osq).cell? ⟨w.heap.size, 5, none⟩ = some (.int .i64 rs) ∧ (grow (World.drewN (wr.alloc (.cells #[.string nm, .string sa, .string ha, .string ro, .int .i64 bl, .int .i64 lg] 86)) nq) osq).cell? ⟨w.heap.size, 6, none⟩ = some (.slice x lenx capx) ∧ (grow (World.drewN (wr.alloc (.cells #[.string nm, .string sa, .string ha, .string ro, .int .i64 bl, .int .i64 lg] 86)) nq) osq).cell? ⟨w.heap.size, 7, none⟩ = some (.slice y leny capy)) := ⟨HA.out.trans ⟨nq, osq, rfl⟩, e0 nq osq, e1 nq osq, e2 nq osq, e3 nq osq, e4 nq osq, e5 nq osq, e6 nq osq, e7 nq osq⟩
          clear y0 y1 y2 y3 y4 y5 e0 e1 e2 e3 e4 e5 e6 e7
          go_wp2
          go_roundw
          case rel => exact ⟨k + 1, by omega, by go_num, HS', HG1⟩
          case measure => simp [intOf]; omega
      · obtain ⟨j, hkj⟩ : ∃ j, k = j + 1 := ⟨k - 1, by omega⟩
        obtain ⟨z', hx'⟩ := at_of (k := j) hl (by omega)
        obtain ⟨b', off', vs', e', hb', hvl', hR', hc'⟩ := RW.out.at UsR.kp GG hx'
        cases e'
        obtain ⟨nm', sa', ha', ro', bl', lg'⟩ := z'
        obtain ⟨rfl, -⟩ := hR'
        have p0 : wr.cell? ⟨bk, off + j * 6, none⟩ = some (.string nm') := hc' 0 _ rfl
        obtain ⟨lt, hlt2⟩ : ∃ lt, Op.bytesLess nm'.toList nm.toList = lt := ⟨_, rfl⟩
        have eo : risAt (uB ros) ltU us k = (uB ros ⟨nm, sa, ha, ro, bl, lg⟩ && lt) := by subst hkj; rw [← hlt2]; exact risAt_succ hx hx'
        have hkd : decide (0 < k) = true := decide_eq_true (by omega)
        have hj : (k : Int) - 1 = (j : Int) := by omega
        have hjl : (j : Int) < (len : Int) := by omega
        clear hk0 hkj
        rw [eo] at HS HF
        generalize uB ros ⟨nm, sa, ha, ro, bl, lg⟩ = q at HK HS HF
        clear hc hvl hx eo hc' hvl' hx'
        have HA : Hid (Grw w (wr.alloc (.cells #[.string nm, .string sa, .string ha, .string ro, .int .i64 bl, .int .i64 lg] 86))) := G0.alloc _
        have hmix : Tryz.prog.follows .mixedOrders = true := by kernel_rfl
        have y0 : ∀ n os, (grow (World.drewN (wr.alloc (.cells #[.string nm, .string sa, .string ha, .string ro, .int .i64 bl, .int .i64 lg] 86)) n) os).cell? ⟨wr.heap.size, 0, none⟩ = some (.string nm) := fun n os => cell_grown (by simp) (by simp) n os
        have y1 : ∀ n os, (grow (World.drewN (wr.alloc (.cells #[.string nm, .string sa, .string ha, .string ro, .int .i64 bl, .int .i64 lg] 86)) n) os).cell? ⟨wr.heap.size, 1, none⟩ = some (.string sa) := fun n os => cell_grown (by simp) (by simp) n os
        have y2 : ∀ n os, (grow (World.drewN (wr.alloc (.cells #[.string nm, .string sa, .string ha, .string ro, .int .i64 bl, .int .i64 lg] 86)) n) os).cell? ⟨wr.heap.size, 2, none⟩ = some (.string ha) := fun n os => cell_grown (by simp) (by simp) n os
        have y3 : ∀ n os, (grow (World.drewN (wr.alloc (.cells #[.string nm, .string sa, .string ha, .string ro, .int .i64 bl, .int .i64 lg] 86)) n) os).cell? ⟨wr.heap.size, 3, none⟩ = some (.string ro) := fun n os => cell_grown (by simp) (by simp) n os
        have y4 : ∀ n os, (grow (World.drewN (wr.alloc (.cells #[.string nm, .string sa, .string ha, .string ro, .int .i64 bl, .int .i64 lg] 86)) n) os).cell? ⟨wr.heap.size, 4, none⟩ = some (.int .i64 bl) := fun n os => cell_grown (by simp) (by simp) n os
        have y5 : ∀ n os, (grow (World.drewN (wr.alloc (.cells #[.string nm, .string sa, .string ha, .string ro, .int .i64 bl, .int .i64 lg] 86)) n) os).cell? ⟨wr.heap.size, 5, none⟩ = some (.int .i64 lg) := fun n os => cell_grown (by simp) (by simp) n os
        have e0 : ∀ n os, (grow (World.drewN (wr.alloc (.cells #[.string nm, .string sa, .string ha, .string ro, .int .i64 bl, .int .i64 lg] 86)) n) os).cell? ⟨w.heap.size, 0, none⟩ = some (.int .i64 ip) := fun n os => (((Grw.refl wr).alloc _).trans ⟨n, os, rfl⟩).keep d0
        have e1 : ∀ n os, (grow (World.drewN (wr.alloc (.cells #[.string nm, .string sa, .string ha, .string ro, .int .i64 bl, .int .i64 lg] 86)) n) os).cell? ⟨w.heap.size, 1, none⟩ = some (.int .i64 b) := fun n os => (((Grw.refl wr).alloc _).trans ⟨n, os, rfl⟩).keep d1
        have e2 : ∀ n os, (grow (World.drewN (wr.alloc (.cells #[.string nm, .string sa, .string ha, .string ro, .int .i64 bl, .int .i64 lg] 86)) n) os).cell? ⟨w.heap.size, 2, none⟩ = some (.int .i64 gt) := fun n os => (((Grw.refl wr).alloc _).trans ⟨n, os, rfl⟩).keep d2
        have e3 : ∀ n os, (grow (World.drewN (wr.alloc (.cells #[.string nm, .string sa, .string ha, .string ro, .int .i64 bl, .int .i64 lg] 86)) n) os).cell? ⟨w.heap.size, 3, none⟩ = some (.string gm) := fun n os => (((Grw.refl wr).alloc _).trans ⟨n, os, rfl⟩).keep d3
        have e4 : ∀ n os, (grow (World.drewN (wr.alloc (.cells #[.string nm, .string sa, .string ha, .string ro, .int .i64 bl, .int .i64 lg] 86)) n) os).cell? ⟨w.heap.size, 4, none⟩ = some (.string wm) := fun n os => (((Grw.refl wr).alloc _).trans ⟨n, os, rfl⟩).keep d4
        have e5 : ∀ n os, (grow (World.drewN (wr.alloc (.cells #[.string nm, .string sa, .string ha, .string ro, .int .i64 bl, .int .i64 lg] 86)) n) os).cell? ⟨w.heap.size, 5, none⟩ = some (.int .i64 rs) := fun n os => (((Grw.refl wr).alloc _).trans ⟨n, os, rfl⟩).keep d5
        have e6 : ∀ n os, (grow (World.drewN (wr.alloc (.cells #[.string nm, .string sa, .string ha, .string ro, .int .i64 bl, .int .i64 lg] 86)) n) os).cell? ⟨w.heap.size, 6, none⟩ = some (.slice x lenx capx) := fun n os => (((Grw.refl wr).alloc _).trans ⟨n, os, rfl⟩).keep d6
        have e7 : ∀ n os, (grow (World.drewN (wr.alloc (.cells #[.string nm, .string sa, .string ha, .string ro, .int .i64 bl, .int .i64 lg] 86)) n) os).cell? ⟨w.heap.size, 7, none⟩ = some (.slice y leny capy) := fun n os => (((Grw.refl wr).alloc _).trans ⟨n, os, rfl⟩).keep d7
        have p1 : ∀ n os, (grow (World.drewN (wr.alloc (.cells #[.string nm, .string sa, .string ha, .string ro, .int .i64 bl, .int .i64 lg] 86)) n) os).cell? ⟨bk, off + j * 6, none⟩ = some (.string nm') := fun n os => (((Grw.refl wr).alloc _).trans ⟨n, os, rfl⟩).keep p0
        have YR : Hid (∀ n os, Rw (RoR 0) 5 (grow (World.drewN (wr.alloc (.cells #[.string nm, .string sa, .string ha, .string ro, .int .i64 bl, .int .i64 lg] 86)) n) os) y ros) := fun n os => RY.out.keep (RoR.kp 0) (HA.out.trans ⟨n, os, rfl⟩).below
        cases q with
        | false =>
          have hd : Hid (risB (uB ros) ltU us = false) := HF.out (by simp)
          have hv : Hid (usB ros us = false) := by show usB ros us = false; unfold usB; rw [hd.out, Bool.and_false]
          go_wp2_with fail
          refine wp_region_quiet_grown (by assumption) (by kernel_rfl) ?_
          repeat (go_big_quiet_step (first | fail | (go_at_call 124; exact Calls.grown_of (HK.out _ (YR.out _ _)))))
          refine wpQuiet_nil ?_
          intro _ hw'
          obtain ⟨⟨nq, osq⟩, hw''⟩ := hw'
          subst hw''
          have HG1 : Hid (Grw w _) := HA.out.trans ⟨nq, osq, rfl⟩
          clear y0 y1 y2 y3 y4 y5 e0 e1 e2 e3 e4 e5 e6 e7 p1
          go_wp2
          go_ret
          exact ⟨by rw [hv.out]; rfl, HG1.out⟩
        | true =>
          cases lt with
          | true =>
            have HS' : Hid ((List.range (k + 1)).all (risAt (uB ros) ltU us) = true) := HS.out (by simp)
            clear HS HF
            go_wp2_with fail
            refine wp_region_quiet_grown (by assumption) (by kernel_rfl) ?_
            repeat (go_big_quiet_step (first | fail | (go_at_call 124; exact Calls.grown_of (HK.out _ (YR.out _ _)))))
            refine wpQuiet_nil ?_
            intro _ hw'
            obtain ⟨⟨nq, osq⟩, hw''⟩ := hw'
            subst hw''
            have HG1 : Hid (Grw w (grow (World.drewN (wr.alloc (.cells #[.string nm, .string sa, .string ha, .string ro, .int .i64 bl, .int .i64 lg] 86)) nq) osq) ∧ (grow (World.drewN (wr.alloc (.cells #[.string nm, .string sa, .string ha, .string ro, .int .i64 bl, .int .i64 lg] 86)) nq) osq).cell? ⟨w.heap.size, 0, none⟩ = some (.int .i64 ip) ∧ (grow (World.drewN (wr.alloc (.cells #[.string nm, .string sa, .string ha, .string ro, .int .i64 bl, .int .i64 lg] 86)) nq) osq).cell? ⟨w.heap.size, 1, none⟩ = some (.int .i64 b) ∧ (grow (World.drewN (wr.alloc (.cells #[.string nm, .string sa, .string ha, .string ro, .int .i64 bl, .int .i64 lg] 86)) nq) osq).cell? ⟨w.heap.size, 2, none⟩ = some (.int .i64 gt) ∧ (grow (World.drewN (wr.alloc (.cells #[.string nm, .string sa, .string ha, .string ro, .int .i64 bl, .int .i64 lg] 86)) nq) osq).cell? ⟨w.heap.size, 3, none⟩ = some (.string gm) ∧ (grow (World.drewN (wr.alloc (.cells #[.string nm, .string sa, .string ha, .string ro, .int .i64 bl, .int .i64 lg] 86)) nq) osq).cell? ⟨w.heap.size, 4, none⟩ = some (.string wm) ∧ (grow (World.drewN (wr.alloc (.cells #[.string nm, .string sa, .string ha, .string ro, .int .i64 bl, .int .i64 lg] 86)) nq) osq).cell? ⟨w.heap.size, 5, none⟩ = some (.int .i64 rs) ∧ (grow (World.drewN (wr.alloc (.cells #[.string nm, .string sa, .string ha, .string ro, .int .i64 bl, .int .i64 lg] 86)) nq) osq).cell? ⟨w.heap.size, 6, none⟩ = some (.slice x lenx capx) ∧ (grow (World.drewN (wr.alloc (.cells #[.string nm, .string sa, .string ha, .string ro, .int .i64 bl, .int .i64 lg] 86)) nq) osq).cell? ⟨w.heap.size, 7, none⟩ = some (.slice y leny capy)) := ⟨HA.out.trans ⟨nq, osq, rfl⟩, e0 nq osq, e1 nq osq, e2 nq osq, e3 nq osq, e4 nq osq, e5 nq osq, e6 nq osq, e7 nq osq⟩
            clear y0 y1 y2 y3 y4 y5 e0 e1 e2 e3 e4 e5 e6 e7 p1
            go_wp2
            go_roundw
            case rel => exact ⟨k + 1, by omega, by go_num, HS', HG1⟩
            case measure => simp [intOf]; omega
          | false =>
            have hd : Hid (risB (uB ros) ltU us = false) := HF.out (by simp)
            have hv : Hid (usB ros us = false) := by show usB ros us = false; unfold usB; rw [hd.out, Bool.and_false]
            go_wp2_with fail
            refine wp_region_quiet_grown (by assumption) (by kernel_rfl) ?_
            repeat (go_big_quiet_step (first | fail | (go_at_call 124; exact Calls.grown_of (HK.out _ (YR.out _ _)))))
            refine wpQuiet_nil ?_
            intro _ hw'
            obtain ⟨⟨nq, osq⟩, hw''⟩ := hw'
            subst hw''
            have HG1 : Hid (Grw w _) := HA.out.trans ⟨nq, osq, rfl⟩
            clear y0 y1 y2 y3 y4 y5 e0 e1 e2 e3 e4 e5 e6 e7 p1
            go_wp2
            go_ret
            exact ⟨by rw [hv.out]; rfl, HG1.out⟩
    · obtain rfl : k = len := by omega
      have hv : Hid (usB ros us = true) := by show usB ros us = true; unfold usB; rw [ris_end hl HO.out, dec_y (by omega)]; rfl
      go_wp2
      go_ret
      exact ⟨by rw [hv.out]; rfl, G0⟩
end Go.Proofs.YtmeejholckelgaaGreat

namespace Go.Proofs.YtmeejholckelgaaGreat
open Go.RowKit Go.Maps Go.ChangeMaps Go.MapKept
open Go.WideElems (Fit rd rg pl rd_val elemAt)
set_option linter.unusedVariables false
theorem own_clear {H : Type} {P : Program} {k t e : TypeId} {R : Value → Option (DataW H × List MemPlace)} {w : World} {b n : Nat} {D : DataW H} (h : w.ownsMap P k R b n D) (ht : P.underlying t = some (.map k e)) (ty : TypeId) :
    ∃ w', (Builtin.clear_ #[t] ty #[.map (some b)]).run P w = .ok (.tuple #[]) w' ∧ w'.ownsMap P k R b 0 (.map []) ∧ w.grownBy w' (some b) := by
  obtain ⟨es, clock, hb, F, hs, hD⟩ := h
  have hlt : b < w.heap.size := (Array.getElem?_eq_some_iff.1 hb).1
  refine ⟨setBlock w b (.map #[] clock), ?_, ⟨#[], clock, heap_setBlock_same hb _, ⟨by simp, stamped_empty clock, by simp⟩, Nat.le_refl _, rfl⟩, ⟨rfl, rfl, rfl, by simp [setBlock], fun i _ hi => heap_setBlock_other hb _ (fun e => hi (by rw [e]))⟩⟩
  unfold Builtin.clear_
  have e1 : (underlying t).run P w = .ok (.map k e) w := by simp [underlying, ht]
  have e2 := MapKept.run_getObj_map (P := P) hb
  have e3 := MapKept.run_setObj_map (P := P) (.map #[] clock) hb
  simp [go_sem, e1, e2, e3, setBlock]
end Go.Proofs.YtmeejholckelgaaGreat

namespace Go.Proofs.YtmeejholckelgaaGreat
open Go.Shelf Go.Lib Go.Proofs Go.Maps Go.WideAt Go.WideMaps Go.RowKit Go.PlainAid Go.Proofs.YtmeejholckelgaaGreat.Bt Go.Sort
set_option linter.unusedVariables false
set_option maxRecDepth 20000

set_option maxHeartbeats 1000000 in
theorem inLan_any (ip b gt : Int) (gm wm : ByteArray) (rs : Int) (x y : Option Addr) (lenx capx leny capy : Nat) (q : Int) (w : World) :
    Calls Tryz.prog 139 #[.agg #[.int .i64 ip, .int .i64 b, .int .i64 gt, .string gm, .string wm, .int .i64 rs, .slice x lenx capx, .slice y leny capy], .int .i64 q] w fun e w' => e = .returned (.bool (nhB ip b q)) ∧ Grw w w' := by
  have HA : Hid (∀ w, Calls Tryz.prog 120 #[.agg #[.int .i64 ip, .int .i64 b], .int .i64 q] w fun e w' => e = .returned (.tuple #[.bool (nhB ip b q), .int .i64 (nhC ip b q)]) ∧ Grw w w') := fun w => implNetHas_any ip b q w
  have hcase : (nhC ip b q = 0) ∨ (nhC ip b q ≠ 0 ∧ nhB ip b q = false) := by
    unfold nhC nhB
    cases nB ip b <;> cases dec (0 ≤ q ∧ q ≤ 4294967295) <;> simp
  generalize nhB ip b q = r at HA hcase ⊢
  generalize nhC ip b q = c at HA hcase
  rcases hcase with rfl | ⟨hc, rfl⟩
  · go_enter Tryz.func139, Tryz.ntmps139
    go_wp2_with fail
    refine (HA.out _).mono ?_
    rintro e w2 ⟨rfl, g2⟩
    go_wp2
    go_ret
    exact ⟨by first | rfl | simp, ((Grw.refl w).alloc _).trans g2⟩
  · have hcz : (c == 0) = false := by simp [hc]
    clear hc
    go_enter Tryz.func139, Tryz.ntmps139
    go_wp2_with fail
    refine (HA.out _).mono ?_
    rintro e w2 ⟨rfl, g2⟩
    go_wp2
    go_ret
    exact ⟨by first | rfl | simp, ((Grw.refl w).alloc _).trans g2⟩
set_option maxHeartbeats 4000000 in
theorem sessionOK_any (ip b gt : Int) (gm wm : ByteArray) (rs : Int) (x y : Option Addr) (lenx capx leny capy : Nat) (ua sa fa ra : Option Addr) (ul uc sl sc fl fc rl rc : Nat) (nx : Int) (id us1 : Int) (mc : ByteArray) (sip be la ud qu un il : Int) (w : World) (hn : nB ip b = true) (hn1 : 1 ≤ nx) (hn2 : nx ≤ 10000) (mu : ul ≤ 1048576) :
    Calls Tryz.prog 125 #[.agg #[.int .i64 ip, .int .i64 b, .int .i64 gt, .string gm, .string wm, .int .i64 rs, .slice x lenx capx, .slice y leny capy], .agg #[.slice ua ul uc, .slice sa sl sc, .slice fa fl fc, .slice ra rl rc, .int .i64 nx], .agg #[.int .i64 id, .int .i64 us1, .string mc, .int .i64 sip, .int .i64 be, .int .i64 la, .int .i64 ud, .int .i64 qu, .int .i64 un, .int .i64 il]] w fun e w' => e = .returned (.bool (sB nx ul ip b ⟨id, us1, mc, sip, be, la, ud, qu, un, il⟩)) ∧ Grw w w' := by
  have T0 : Hid (∀ w, Calls Tryz.prog 83 #[.int .i64 id, .int .i64 1, .int .i64 (nx - 1)] w fun e w' => e = .returned (.bool (dec (1 ≤ id ∧ id ≤ nx - 1))) ∧ w' = w) := fun w => between_any id 1 (nx - 1) w
  have T1 : Hid (∀ w, Calls Tryz.prog 83 #[.int .i64 us1, .int .i64 0, .int .i64 ((ul : Int) - 1)] w fun e w' => e = .returned (.bool (dec (0 ≤ us1 ∧ us1 ≤ (ul : Int) - 1))) ∧ w' = w) := fun w => between_any us1 0 ((ul : Int) - 1) w
  have T2 : Hid (∀ w, Calls Tryz.prog 121 #[.string mc] w fun e w' => e = .returned (.bool (dec (mc.size = 6))) ∧ w' = w) := fun w => isMac_any mc w
  have T3 : Hid (∀ w, Calls Tryz.prog 139 #[.agg #[.int .i64 ip, .int .i64 b, .int .i64 gt, .string gm, .string wm, .int .i64 rs, .slice x lenx capx, .slice y leny capy], .int .i64 sip] w fun e w' => e = .returned (.bool (nhB ip b sip)) ∧ Grw w w') := fun w => inLan_any ip b gt gm wm rs x y lenx capx leny capy sip w
  have T4 : Hid (∀ w, Calls Tryz.prog 82 #[.int .i64 be] w fun e w' => e = .returned (.bool (dec (0 ≤ be ∧ be ≤ 100000))) ∧ w' = w) := fun w => timeOK_any be w
  have T5 : Hid (∀ w, Calls Tryz.prog 83 #[.int .i64 la, .int .i64 be, .int .i64 100000] w fun e w' => e = .returned (.bool (dec (be ≤ la ∧ la ≤ 100000))) ∧ w' = w) := fun w => between_any la be 100000 w
  have T6 : Hid (∀ w, Calls Tryz.prog 83 #[.int .i64 un, .int .i64 be, .int .i64 101000] w fun e w' => e = .returned (.bool (dec (be ≤ un ∧ un ≤ 101000))) ∧ w' = w) := fun w => between_any un be 101000 w
  have T7 : Hid (∀ w, Calls Tryz.prog 83 #[.int .i64 qu, .int .i64 1, .int .i64 1000000] w fun e w' => e = .returned (.bool (dec (1 ≤ qu ∧ qu ≤ 1000000))) ∧ w' = w) := fun w => between_any qu 1 1000000 w
  have T8 : Hid (∀ w, Calls Tryz.prog 83 #[.int .i64 ud, .int .i64 0, .int .i64 qu] w fun e w' => e = .returned (.bool (dec (0 ≤ ud ∧ ud ≤ qu))) ∧ w' = w) := fun w => between_any ud 0 qu w
  have T9 : Hid (∀ w, Calls Tryz.prog 140 #[.int .i64 il] w fun e w' => e = .returned (.bool (dec (1 ≤ il ∧ il ≤ 1000))) ∧ w' = w) := fun w => minutesOK_any il w
  have hnh : nhB ip b sip = (hB ip b sip && dec (0 ≤ sip ∧ sip ≤ 4294967295)) := by unfold nhB; rw [hn, Bool.true_and, Bool.and_comm]
  obtain ⟨z, hz⟩ : ∃ z, z = sB nx ul ip b ⟨id, us1, mc, sip, be, la, ud, qu, un, il⟩ := ⟨_, rfl⟩
  have E : Hid (z = (dec (1 ≤ id ∧ id ≤ nx - 1) && (dec (0 ≤ us1 ∧ us1 ≤ (ul : Int) - 1) && (dec (mc.size = 6) && (nhB ip b sip && (dec (0 ≤ be ∧ be ≤ 100000) && (dec (be ≤ la ∧ la ≤ 100000) && (dec (be ≤ un ∧ un ≤ 101000) && (dec (1 ≤ qu ∧ qu ≤ 1000000) && (dec (0 ≤ ud ∧ ud ≤ qu) && dec (1 ≤ il ∧ il ≤ 1000))))))))))) := by
    rw [hz, hnh]
    unfold sB
    dsimp only
    ac_rfl
  rw [← hz]
  clear hz hnh
  generalize dec (1 ≤ id ∧ id ≤ nx - 1) = t0 at T0 E
  generalize dec (0 ≤ us1 ∧ us1 ≤ (ul : Int) - 1) = t1 at T1 E
  generalize dec (mc.size = 6) = t2 at T2 E
  generalize nhB ip b sip = t3 at T3 E
  generalize dec (0 ≤ be ∧ be ≤ 100000) = t4 at T4 E
  generalize dec (be ≤ la ∧ la ≤ 100000) = t5 at T5 E
  generalize dec (be ≤ un ∧ un ≤ 101000) = t6 at T6 E
  generalize dec (1 ≤ qu ∧ qu ≤ 1000000) = t7 at T7 E
  generalize dec (0 ≤ ud ∧ ud ≤ qu) = t8 at T8 E
  generalize dec (1 ≤ il ∧ il ≤ 1000) = t9 at T9 E
  go_enter Tryz.func125, Tryz.ntmps125
  go_wp2_with fail
  refine (T0.out _).mono ?_
  rintro e w9 ⟨rfl, rfl⟩
  cases t0 with
  | false =>
    have hv : Hid (z = false) := by show z = false; rw [E.out]; simp
    go_wp2
    go_ret
    exact ⟨by rw [hv.out]; rfl, ((((Grw.refl w).alloc _).alloc _).alloc _)⟩
  | true =>
    go_wp2_with fail
    refine (T1.out _).mono ?_
    rintro e w9 ⟨rfl, rfl⟩
    cases t1 with
    | false =>
      have hv : Hid (z = false) := by show z = false; rw [E.out]; simp
      go_wp2
      go_ret
      exact ⟨by rw [hv.out]; rfl, ((((Grw.refl w).alloc _).alloc _).alloc _)⟩
    | true =>
      go_wp2_with fail
      refine (T2.out _).mono ?_
      rintro e w9 ⟨rfl, rfl⟩
      cases t2 with
      | false =>
        have hv : Hid (z = false) := by show z = false; rw [E.out]; simp
        go_wp2
        go_ret
        exact ⟨by rw [hv.out]; rfl, ((((Grw.refl w).alloc _).alloc _).alloc _)⟩
      | true =>
        go_wp2_with fail
        refine (T3.out _).mono ?_
        rintro e w2 ⟨rfl, g2⟩
        have x0 : w2.cell? ⟨w.heap.size + 1 + 1, 0, none⟩ = some (.int .i64 id) := g2.keep (a := ⟨w.heap.size + 1 + 1, 0, none⟩) (v := .int .i64 id) (by simp [go_sem])
        have x1 : w2.cell? ⟨w.heap.size + 1 + 1, 1, none⟩ = some (.int .i64 us1) := g2.keep (a := ⟨w.heap.size + 1 + 1, 1, none⟩) (v := .int .i64 us1) (by simp [go_sem])
        have x2 : w2.cell? ⟨w.heap.size + 1 + 1, 2, none⟩ = some (.string mc) := g2.keep (a := ⟨w.heap.size + 1 + 1, 2, none⟩) (v := .string mc) (by simp [go_sem])
        have x3 : w2.cell? ⟨w.heap.size + 1 + 1, 3, none⟩ = some (.int .i64 sip) := g2.keep (a := ⟨w.heap.size + 1 + 1, 3, none⟩) (v := .int .i64 sip) (by simp [go_sem])
        have x4 : w2.cell? ⟨w.heap.size + 1 + 1, 4, none⟩ = some (.int .i64 be) := g2.keep (a := ⟨w.heap.size + 1 + 1, 4, none⟩) (v := .int .i64 be) (by simp [go_sem])
        have x5 : w2.cell? ⟨w.heap.size + 1 + 1, 5, none⟩ = some (.int .i64 la) := g2.keep (a := ⟨w.heap.size + 1 + 1, 5, none⟩) (v := .int .i64 la) (by simp [go_sem])
        have x6 : w2.cell? ⟨w.heap.size + 1 + 1, 6, none⟩ = some (.int .i64 ud) := g2.keep (a := ⟨w.heap.size + 1 + 1, 6, none⟩) (v := .int .i64 ud) (by simp [go_sem])
        have x7 : w2.cell? ⟨w.heap.size + 1 + 1, 7, none⟩ = some (.int .i64 qu) := g2.keep (a := ⟨w.heap.size + 1 + 1, 7, none⟩) (v := .int .i64 qu) (by simp [go_sem])
        have x8 : w2.cell? ⟨w.heap.size + 1 + 1, 8, none⟩ = some (.int .i64 un) := g2.keep (a := ⟨w.heap.size + 1 + 1, 8, none⟩) (v := .int .i64 un) (by simp [go_sem])
        have x9 : w2.cell? ⟨w.heap.size + 1 + 1, 9, none⟩ = some (.int .i64 il) := g2.keep (a := ⟨w.heap.size + 1 + 1, 9, none⟩) (v := .int .i64 il) (by simp [go_sem])
        have BX : Hid (Grw w w2) := ((((Grw.refl w).alloc _).alloc _).alloc _).trans g2
        clear g2
        cases t3 with
        | false =>
          have hv : Hid (z = false) := by show z = false; rw [E.out]; simp
          go_wp2
          go_ret
          exact ⟨by rw [hv.out]; rfl, BX.out⟩
        | true =>
          go_wp2_with fail
          refine (T4.out _).mono ?_
          rintro e w9 ⟨rfl, rfl⟩
          cases t4 with
          | false =>
            have hv : Hid (z = false) := by show z = false; rw [E.out]; simp
            go_wp2
            go_ret
            exact ⟨by rw [hv.out]; rfl, BX.out⟩
          | true =>
            go_wp2_with fail
            refine (T5.out _).mono ?_
            rintro e w9 ⟨rfl, rfl⟩
            cases t5 with
            | false =>
              have hv : Hid (z = false) := by show z = false; rw [E.out]; simp
              go_wp2
              go_ret
              exact ⟨by rw [hv.out]; rfl, BX.out⟩
            | true =>
              go_wp2_with fail
              refine (T6.out _).mono ?_
              rintro e w9 ⟨rfl, rfl⟩
              cases t6 with
              | false =>
                have hv : Hid (z = false) := by show z = false; rw [E.out]; simp
                go_wp2
                go_ret
                exact ⟨by rw [hv.out]; rfl, BX.out⟩
              | true =>
                go_wp2_with fail
                refine (T7.out _).mono ?_
                rintro e w9 ⟨rfl, rfl⟩
                cases t7 with
                | false =>
                  have hv : Hid (z = false) := by show z = false; rw [E.out]; simp
                  go_wp2
                  go_ret
                  exact ⟨by rw [hv.out]; rfl, BX.out⟩
                | true =>
                  go_wp2_with fail
                  refine (T8.out _).mono ?_
                  rintro e w9 ⟨rfl, rfl⟩
                  cases t8 with
                  | false =>
                    have hv : Hid (z = false) := by show z = false; rw [E.out]; simp
                    go_wp2
                    go_ret
                    exact ⟨by rw [hv.out]; rfl, BX.out⟩
                  | true =>
                    go_wp2_with fail
                    refine (T9.out _).mono ?_
                    rintro e w9 ⟨rfl, rfl⟩
                    have hv : Hid (z = t9) := by show z = t9; rw [E.out]; simp
                    go_wp2
                    go_ret
                    exact ⟨by rw [hv.out]; rfl, BX.out⟩
theorem numOf_inj {f g : Nat → Int} (hf : ∀ k, 0 ≤ f k ∧ f k ≤ 255) (hg : ∀ k, 0 ≤ g k ∧ g k ≤ 255) : ∀ k, numOf f k = numOf g k → ∀ j, j < k → f j = g j
  | 0, _, j, hj => absurd hj (by omega)
  | k + 1, h, j, hj => by
    rw [numOf, numOf] at h
    have a := hf k
    have b := hg k
    have e1 : numOf f k = numOf g k := by omega
    by_cases hjk : j < k
    · exact numOf_inj hf hg k e1 j hjk
    · obtain rfl : j = k := by omega
      omega
theorem bt_list9 (s : ByteArray) (j : Nat) (h : j < s.size) : bt s j = ((s.data.toList[j]'(by simpa using h)).toNat : Int) := by
  unfold bt; rw [dif_pos h]; rfl
def macN (s : SessV) : Int := numOf (bt s.mc) 6
theorem macN_iff (x y : SessV) (hx : x.mc.size = 6) (hy : y.mc.size = 6) : macN x = macN y ↔ x.mc.toList = y.mc.toList := by
  constructor
  · intro h
    have h1 := numOf_inj (fun k => ⟨bt_nonneg _ k, bt_le _ k⟩) (fun k => ⟨bt_nonneg _ k, bt_le _ k⟩) 6 h
    rw [ByteArray.toList_eq, ByteArray.toList_eq]
    apply List.ext_getElem (by simp; omega)
    intro j hj1 hj2
    have hj : j < 6 := by simp at hj1; omega
    have e := h1 j hj
    rw [bt_list9 x.mc j (by omega), bt_list9 y.mc j (by omega)] at e
    exact UInt8.toNat_inj.1 (by exact_mod_cast e)
  · intro h
    have e : x.mc = y.mc := by
      rw [ByteArray.toList_eq, ByteArray.toList_eq] at h
      apply ByteArray.ext
      exact Array.toList_inj.1 h
    unfold macN
    rw [e]
set_option maxHeartbeats 1000000 in
theorem apart1_any (id us1 : Int) (mc : ByteArray) (sip be la ud qu un il : Int) (w : World) :
    Calls Tryz.prog 141 #[.agg #[.int .i64 id, .int .i64 us1, .string mc, .int .i64 sip, .int .i64 be, .int .i64 la, .int .i64 ud, .int .i64 qu, .int .i64 un, .int .i64 il]] w fun e w' => e = .returned (.int .i64 us1) ∧ Below w.heap.size w w' := by
  go_enter Tryz.func141, Tryz.ntmps141
  go_wp2
  go_ret
  exact ⟨rfl, (Below.refl _ _).alloc (Nat.le_refl _) _⟩
set_option maxHeartbeats 1000000 in
theorem apart3_any (id us1 : Int) (mc : ByteArray) (sip be la ud qu un il : Int) (w : World) :
    Calls Tryz.prog 144 #[.agg #[.int .i64 id, .int .i64 us1, .string mc, .int .i64 sip, .int .i64 be, .int .i64 la, .int .i64 ud, .int .i64 qu, .int .i64 un, .int .i64 il]] w fun e w' => e = .returned (.int .i64 sip) ∧ Below w.heap.size w w' := by
  go_enter Tryz.func144, Tryz.ntmps144
  go_wp2
  go_ret
  exact ⟨rfl, (Below.refl _ _).alloc (Nat.le_refl _) _⟩
set_option maxHeartbeats 1000000 in
theorem apart2_any (id us1 : Int) (mc : ByteArray) (sip be la ud qu un il : Int) (w : World) (h6 : mc.size = 6) :
    Calls Tryz.prog 142 #[.agg #[.int .i64 id, .int .i64 us1, .string mc, .int .i64 sip, .int .i64 be, .int .i64 la, .int .i64 ud, .int .i64 qu, .int .i64 un, .int .i64 il]] w fun e w' => e = .returned (.int .i64 (numOf (bt mc) 6)) ∧ Below w.heap.size w w' := by
  obtain ⟨W0, hW0⟩ : ∃ W, W = w.alloc (.cells #[.int .i64 id, .int .i64 us1, .string mc, .int .i64 sip, .int .i64 be, .int .i64 la, .int .i64 ud, .int .i64 qu, .int .i64 un, .int .i64 il] 84) := ⟨_, rfl⟩
  have hsz : W0.heap.size = w.heap.size + 1 := by rw [hW0]; simp
  have bw : Below w.heap.size w W0 := by rw [hW0]; exact (Below.refl _ _).alloc (Nat.le_refl _) _
  obtain ⟨cap, w1, hcv, b1, z1, -, h5⟩ := conv_bytes (P := Tryz.prog) W0 9 162 5 mc Tryz.underlying9 Tryz.underlying162 Tryz.underlying5
  have e6 : numOf (bt mc) mc.size = numOf (bt mc) 6 := by rw [h6]
  have HN : Hid (Calls Tryz.prog 143 #[.slice (some ⟨W0.heap.size, 0, none⟩) mc.size cap] w1 fun e w' => e = .returned (.tuple #[.int .i64 (numOf (bt mc) 6), .int .i64 0]) ∧ w' = w1) := by
    rw [← e6]
    exact numberOf_yes _ mc.size cap (bt mc) w1 ⟨fun k => ⟨bt_nonneg mc k, bt_le mc k⟩, fun _ => ⟨_, 0, rfl, fun i hi => by rw [Nat.zero_add]; exact h5 i hi⟩⟩ (by omega) (by omega)
  have B1 : Hid (Below w.heap.size w w1) := bw.trans (b1.mono bw.size)
  rw [hsz] at hcv HN
  rw [hW0] at hcv
  clear b1 z1 h5 e6 h6 bw hsz hW0
  generalize numOf (bt mc) 6 = r at HN ⊢
  go_enter Tryz.func142, Tryz.ntmps142
  go_wp2_with fail
  refine HN.out.mono ?_
  rintro e w2 ⟨rfl, rfl⟩
  go_wp2
  go_ret
  exact ⟨rfl, B1.out⟩
/-- The three marks of a session: the function's number, and what it answers. -/
def mkN (i : Nat) : Nat := if i = 0 then 141 else if i = 1 then 142 else 144
def mkF (i : Nat) : SessV → Int := if i = 0 then (fun s => s.us) else if i = 1 then macN else fun s => s.ip
theorem mk_enter (i : Nat) : ∀ args w, (callFunc (mkN i) args).run Tryz.prog w = .ok (.enter (mkN i) args) w := by
  unfold mkN
  split
  · exact enters_of Tryz.func141 (by kernel_rfl) rfl
  split
  · exact enters_of Tryz.func142 (by kernel_rfl) rfl
  · exact enters_of Tryz.func144 (by kernel_rfl) rfl
theorem mk_any (i : Nat) (id us1 : Int) (mc : ByteArray) (sip be la ud qu un il : Int) (w : World) (h6 : mc.size = 6) :
    Calls Tryz.prog (mkN i) #[.agg #[.int .i64 id, .int .i64 us1, .string mc, .int .i64 sip, .int .i64 be, .int .i64 la, .int .i64 ud, .int .i64 qu, .int .i64 un, .int .i64 il]] w fun e w' => e = .returned (.int .i64 (mkF i ⟨id, us1, mc, sip, be, la, ud, qu, un, il⟩)) ∧ Below w.heap.size w w' := by
  unfold mkN mkF
  split
  · exact apart1_any id us1 mc sip be la ud qu un il w
  split
  · exact apart2_any id us1 mc sip be la ud qu un il w h6
  · exact apart3_any id us1 mc sip be la ud qu un il w
theorem keyI9 : Keyed Tryz.prog 3 := int_keyed Tryz.underlying3
theorem map_below {H : Type} {P : Program} {k : TypeId} {R : Value → Option (DataW H × List MemPlace)} {w w' : World} {b n m : Nat} {D : DataW H} (h : w.ownsMap P k R b n D) (hb : Below m w w') (hm : b < m) : w'.ownsMap P k R b n D := by
  obtain ⟨es, clock, h1, h2⟩ := h
  exact ⟨es, clock, (hb.block b hm).trans h1, h2⟩
theorem mk_wf (i : Nat) (s : SessV) (h : SeRok s) : (Lit.int .i64 (mkF i s)).wf = true := by
  unfold mkF
  split
  · exact h.2.1
  split
  · have := numOf_bd (bt s.mc) (fun k => ⟨bt_nonneg _ k, bt_le _ k⟩) 6
    unfold macN
    have hb : (0 : Int) ≤ numOf (bt s.mc) 6 ∧ numOf (bt s.mc) 6 ≤ 281474976710655 := by simpa using ⟨this.1, by omega⟩
    simp [Lit.wf, IntKind.min, IntKind.max, IntKind.bits, IntKind.signed]
    omega
  · exact h.2.2.2.1
/-- The marks and the map. -/
def ApW (w W : World) (n : Nat) (D : DataW Unit) : Prop := W.ownsMap Tryz.prog 3 unitElem (w.heap.size + 1) n D ∧ (∀ j, j < 3 → W.cell? ⟨w.heap.size, j, none⟩ = some (.func (.func (mkN j)) #[] #[])) ∧ Below w.heap.size w W
theorem ApW.keep {w W W' : World} {n : Nat} {D : DataW Unit} (h : ApW w W n D) (hb : Below W.heap.size W W') : ApW w W' n D :=
  ⟨map_below h.1 hb h.1.lt, fun j hj => bkeep hb (h.2.1 j hj), h.2.2.trans (hb.mono h.2.2.size)⟩
theorem ApW.turn {w W W' : World} {n n' : Nat} {D D' : DataW Unit} (h : ApW w W n D) (o : W'.ownsMap Tryz.prog 3 unitElem (w.heap.size + 1) n' D') (g : W.grownBy W' (some (w.heap.size + 1))) : ApW w W' n' D' := by
  refine ⟨o, fun j hj => ?_, h.2.2.grown g h.2.2.size (fun k hk => by injection hk with e; omega)⟩
  have hc := h.2.1 j hj
  have hlt : w.heap.size < W.heap.size := World.block_lt_of_cell? W _ hc
  rw [World.cell?_of_block (w := W) (g.block w.heap.size hlt (by intro e; injection e with e; omega))]
  exact hc
set_option maxHeartbeats 4000000 in
theorem sessionsApart_any (a : Option Addr) (len cap : Nat) (ss : List SessV) (w : World) (h : Rw SeR 10 w a ss) (hl : ss.length = len) (h3 : len ≤ 3) (h6 : ∀ s ∈ ss, s.mc.size = 6) :
    Calls Tryz.prog 126 #[.slice a len cap] w fun e w' => e = .returned (.bool (dstB (ss.map (mkF 0)) && (dstB (ss.map (mkF 1)) && dstB (ss.map (mkF 2))))) ∧ Below w.heap.size w w' := by
  have RW : Hid (Rw SeR 10 w a ss) := h
  have H6 : Hid (∀ s ∈ ss, s.mc.size = 6) := h6
  clear h h6
  have hmm := @run_makeMap Tryz.prog
  have h3z : (len : Int) ≤ 3 := by omega
  have hz0 : (zeroValue 191).run Tryz.prog w = .ok (.agg #[]) w := by kernel_rfl
  clear hz0
  obtain ⟨z, hz⟩ : ∃ z, z = (dstB (ss.map (mkF 0)) && (dstB (ss.map (mkF 1)) && dstB (ss.map (mkF 2)))) := ⟨_, rfl⟩
  have E : Hid (z = (dstB (ss.map (mkF 0)) && (dstB (ss.map (mkF 1)) && dstB (ss.map (mkF 2))))) := hz
  rw [← hz]
  clear hz
  have A0 : Hid (ApW w ((w.alloc (.cells #[.func (.func 141) #[] #[], .func (.func 142) #[] #[], .func (.func 144) #[] #[]] 103)).alloc (.map #[] 0)) 0 (.map [])) := by
    refine ⟨by have := World.ownsMap_made (H := Unit) (w.alloc (.cells #[.func (.func 141) #[] #[], .func (.func 142) #[] #[], .func (.func 144) #[] #[]] 103)) Tryz.prog 3 unitElem; simpa using this, fun j hj => ?_, ((Below.refl _ _).alloc (Nat.le_refl _) _).alloc (by simp) _⟩
    have : j = 0 ∨ j = 1 ∨ j = 2 := by omega
    rcases this with rfl | rfl | rfl <;> simp [go_sem, mkN]
  go_enter Tryz.func126, Tryz.ntmps126
  go_wp2
  go_loopw [13] (fun u wr => ∃ i : Nat, i ≤ 3 ∧ u = .int .i64 i ∧ Hid (∀ j, j < i → dstB (ss.map (mkF j)) = true) ∧ Hid (∃ n D, ApW w wr n D)) (fun u _ => 3 - (intOf u).toNat)
  case atStart => exact ⟨0, Nat.zero_le _, rfl, fun j hj => absurd hj (by omega), _, _, A0.out⟩
  case round =>
    clear A0
    obtain ⟨i, hi, rfl, HO, X⟩ := hrel
    by_cases hi3 : i < 3
    · obtain ⟨n0, D0, X0⟩ := X.out
      obtain ⟨w4, hclr, o4, g4⟩ := own_clear X0.1 Tryz.underlying190 0
      have mi := X0.2.1 i hi3
      have X4 : Hid (ApW w w4 0 (setI ((ss.take 0).map (mkF i)))) := X0.turn o4 g4
      have hiz : (i : Int) < 3 := by omega
      obtain ⟨g, hg⟩ : ∃ g, g = mkN i := ⟨_, rfl⟩
      have eg : ∀ args w, (callFunc g args).run Tryz.prog w = .ok (.enter g args) w := by rw [hg]; exact mk_enter i
      have HM : Hid (∀ (id us1 : Int) (mc : ByteArray) (sip be la ud qu un il : Int) (w : World), mc.size = 6 → Calls Tryz.prog g #[.agg #[.int .i64 id, .int .i64 us1, .string mc, .int .i64 sip, .int .i64 be, .int .i64 la, .int .i64 ud, .int .i64 qu, .int .i64 un, .int .i64 il]] w fun e w' => e = .returned (.int .i64 (mkF i ⟨id, us1, mc, sip, be, la, ud, qu, un, il⟩)) ∧ Below w.heap.size w w') := by rw [hg]; exact mk_any i
      rw [← hg] at mi
      clear X X0 o4 g4 hg
      go_wp2
      go_loopw [20] (fun u wr => ∃ k : Nat, k ≤ len ∧ u = .int .i64 k ∧ Hid (ApW w wr k (setI ((ss.take k).map (mkF i))))) (fun u _ => len - (intOf u).toNat)
      case atStart => exact ⟨0, Nat.zero_le _, rfl, X4.out⟩
      case round =>
        clear X4
        obtain ⟨k, hk, rfl, X⟩ := hrel
        by_cases hlt : k < len
        · obtain ⟨x9, hx⟩ := at_of hl hlt
          obtain ⟨bk, off, vs, rfl, hbk, hvl, hR, hc⟩ := RW.out.at SeR.kp X.out.2.2 hx
          have hs6 := H6.out x9 (List.mem_of_getElem? hx)
          obtain ⟨id, us1, mc, sip, be, la, ud, qu, un, il⟩ := x9
          obtain ⟨rfl, hok⟩ := hR
          have q0 : wr.cell? ⟨bk, off + k * 10, none⟩ = some (.int .i64 id) := hc 0 _ rfl
          have q1 : wr.cell? ⟨bk, off + k * 10 + 1, none⟩ = some (.int .i64 us1) := hc 1 _ rfl
          have q2 : wr.cell? ⟨bk, off + k * 10 + 2, none⟩ = some (.string mc) := hc 2 _ rfl
          have q3 : wr.cell? ⟨bk, off + k * 10 + 3, none⟩ = some (.int .i64 sip) := hc 3 _ rfl
          have q4 : wr.cell? ⟨bk, off + k * 10 + 4, none⟩ = some (.int .i64 be) := hc 4 _ rfl
          have q5 : wr.cell? ⟨bk, off + k * 10 + 5, none⟩ = some (.int .i64 la) := hc 5 _ rfl
          have q6 : wr.cell? ⟨bk, off + k * 10 + 6, none⟩ = some (.int .i64 ud) := hc 6 _ rfl
          have q7 : wr.cell? ⟨bk, off + k * 10 + 7, none⟩ = some (.int .i64 qu) := hc 7 _ rfl
          have q8 : wr.cell? ⟨bk, off + k * 10 + 8, none⟩ = some (.int .i64 un) := hc 8 _ rfl
          have q9 : wr.cell? ⟨bk, off + k * 10 + 9, none⟩ = some (.int .i64 il) := hc 9 _ rfl
          have hltz : (k : Int) < (len : Int) := by omega
          have X5 : Hid (ApW w (wr.alloc (.cells #[.int .i64 id, .int .i64 us1, .string mc, .int .i64 sip, .int .i64 be, .int .i64 la, .int .i64 ud, .int .i64 qu, .int .i64 un, .int .i64 il] 84)) k (setI ((ss.take k).map (mkF i)))) := X.out.keep ((Below.refl _ _).alloc (Nat.le_refl _) _)
          have hwf := mk_wf i ⟨id, us1, mc, sip, be, la, ud, qu, un, il⟩ hok
          have HT : Hid (∀ D : DataW Unit, D = setI ((ss.take k).map (mkF i)) → D.put (.int .i64 (mkF i ⟨id, us1, mc, sip, be, la, ud, qu, un, il⟩)) (.agg []) = setI ((ss.take (k + 1)).map (mkF i))) := fun D hD => by
            rw [hD, ← setI_snoc, List.take_add_one, hx]
            simp
          have HM1 : Hid (∀ w, Calls Tryz.prog g #[.agg #[.int .i64 id, .int .i64 us1, .string mc, .int .i64 sip, .int .i64 be, .int .i64 la, .int .i64 ud, .int .i64 qu, .int .i64 un, .int .i64 il]] w fun e w' => e = .returned (.int .i64 (mkF i ⟨id, us1, mc, sip, be, la, ud, qu, un, il⟩)) ∧ Below w.heap.size w w') := fun w => HM.out id us1 mc sip be la ud qu un il w hs6
          generalize mkF i ⟨id, us1, mc, sip, be, la, ud, qu, un, il⟩ = r at HT HM1 hwf
          clear hc hvl hx hok hs6 X
          go_wp2_with (go_at_fn g; refine (HM1.out _).mono ?_; rintro e w6 ⟨rfl, b6⟩; have X6 := X5.out.keep b6; obtain ⟨w7, hupd, o7, g7⟩ := X6.1.update keyI9 Tryz.underlying190 (by unfold maxLen; omega) (key := .int .i64 r) (val := .agg #[]) (keyOf_int_mk Tryz.underlying3 hwf) (unitElem_mk (H := Unit)); have X7 : Hid (ApW w w7 (k + 1) (setI ((ss.take (k + 1)).map (mkF i)))) := HT.out _ rfl ▸ X6.turn o7 g7; clear X6 o7 g7 b6)
          go_roundw
          case rel => exact ⟨k + 1, by omega, by go_num, X7⟩
          case measure => simp [intOf]; omega
        · obtain rfl : len = k := by omega
          have hlen := fun ty => X.out.1.len Tryz.underlying190 ty
          have hsl := setI_lt (H := Unit) ((ss.take len).map (mkF i))
          rw [List.take_of_length_le (by omega)] at hlen hsl
          have hsl2 : decide ((Maps.size (setI (H := Unit) (ss.map (mkF i))) : Int) < (len : Int)) = !dstB (ss.map (mkF i)) := by
            rw [← hsl]
            simp [hl]
          generalize Maps.size (setI (H := Unit) (ss.map (mkF i))) = n9 at hlen hsl2
          have HX : Hid (ApW w wr len (setI ((ss.take len).map (mkF i)))) := X.out
          clear hsl X
          cases hd : dstB (ss.map (mkF i)) with
          | false =>
            rw [hd] at hsl2
            have hsl3 : decide (n9 < len) = true := by have := of_decide_eq_true hsl2; exact decide_eq_true (by omega)
            have hv : Hid (z = false) := by
              show z = false
              rw [E.out]
              have : i = 0 ∨ i = 1 ∨ i = 2 := by omega
              rcases this with rfl | rfl | rfl <;> simp [hd]
            clear hd
            go_wp2
            go_ret
            exact ⟨by rw [hv.out]; rfl, HX.out.2.2⟩
          | true =>
            rw [hd] at hsl2
            have hsl3 : decide (n9 < len) = false := by have := of_decide_eq_false hsl2; exact decide_eq_false (by omega)
            have HO' : Hid (∀ j, j < i + 1 → dstB (ss.map (mkF j)) = true) := fun j hj => by
              by_cases hji : j < i
              · exact HO.out j hji
              · obtain rfl : j = i := by omega
                exact hd
            clear hd
            go_wp2
            exact ⟨⟨i + 1, by omega, by go_num, HO', _, _, HX.out⟩, by simp [intOf]; omega⟩
    · obtain rfl : i = 3 := by omega
      have hv : Hid (z = true) := by
        show z = true
        rw [E.out, HO.out 0 (by omega), HO.out 1 (by omega), HO.out 2 (by omega)]
        rfl
      go_wp2
      go_ret
      obtain ⟨n0, D0, X0⟩ := X.out
      exact ⟨by rw [hv.out]; rfl, X0.2.2⟩
end Go.Proofs.YtmeejholckelgaaGreat
