/- Guests marked and held. Configs and guests of one's own as kinds; read again, kept where nothing of them is written. The plain configuration as values. Regions by resources: the kinds of resources. Append within a region walked by resources: the row that comes lies where the elder one lay, or in a new block. Nothing of the program is used. Boxes: stores of one cell. Nothing of the program is used. Append within a region walked by resources (RelW): the row that comes takes the elder one over, or lies in a new block. Nothing of the program is used. Nets, plain numbers: what stands behind a net's bits, and what is kept ahead of it. Nothing of the program is imported. Texts as lists of numbers: of a string, of a number's bytes, of a part; the number and the sum of a list. Nothing of the program is imported. The program's NumberBytes at a size from 1 to 6 and a number that has room: its bytes, the higher ones first, in new memory. The program's part, numberAt, addNumber, setNumber. Laying texts behind one another in a row of the call's own; a struct in a box of the call's own. Nets, the walks: netAround, NetOK, NetHas; the model's NetOK, l05Has, NetHas. Rules: placeOf, placeOK, protoWord, RuleOK; the model's l07Range, RuleOK. The contracts of NameOK, the program's and the model's, and of what they call: whether a byte is a letter, a digit; whether a text is a name. Roles: RoleOK, the program's and the model's. The first rule that fits: l07First, ruleFits; FirstRule, RoleAllows, the program's and the model's. -/
import Derived.Test.YtnlepjcjakghcaaGreatDoorJ7
import Derived.Lib.AppendStr
import Derived.Laws.Concat
import Derived.Laws.CopyOwn
import Derived.Laws.StructEq
namespace Go.Proofs.YtnlepjcjakghcaaGreatDoor
open Go.RowKit Go.PlainAid Go.Proofs.YtnlepjcjakghcaaGreatDoor.Bt Go.Sort
set_option linter.unusedVariables false
set_option maxRecDepth 20000
end Go.Proofs.YtnlepjcjakghcaaGreatDoor

namespace Go.Proofs.YtnlepjcjakghcaaGreatDoor
open Go.RowKit Go.PlainAid Go.Proofs.YtnlepjcjakghcaaGreatDoor.Bt Go.Sort
set_option linter.unusedVariables false
set_option maxRecDepth 20000
theorem rw_okG {α : Type} {c : α → List Value} {ok : α → Prop} {K : Nat} {w : World} {a : Option Addr} {xs : List α} (h : Rw (FR c ok) K w a xs) : ∀ x, x ∈ xs → ok x := by
  intro x hx
  obtain ⟨i, hi⟩ := List.getElem?_of_mem hx
  obtain ⟨b, off, -, -, hc⟩ := h (List.length_pos_of_mem hx)
  obtain ⟨vs, -, ⟨-, hk⟩, -⟩ := hc i x hi
  exact hk
structure RoOk (r : RoleV) : Prop where
  nm : r.nm.size ≤ maxLen
  rs : ∀ x, x ∈ r.rs → RuRok x
theorem own_cap {α : Type} {c : α → List Value} {K n cap : Nat} {a : Option Addr} {e : TypeId} {B : Nat} {xs : List α} {w : World} (h : OwnS c K e w B (.slice a n cap) xs) : n ≤ cap ∧ cap ≤ maxLen := by
  rcases h.2 with ⟨h1, h2⟩ | ⟨g, cap', cur, h1, hB, hg, h3, h4, _⟩
  · cases h1; exact ⟨Nat.le_refl _, Nat.zero_le _⟩
  · cases h1; exact ⟨h3, h4⟩
theorem rw_ro {w : World} {B n cap : Nat} {y : Option Addr} {L : List RoX} (o : OwnRo w B (.slice y n cap) L) (hok : ∀ x, x ∈ L → RoOk x.r) : Rw (RoR 0) 5 w y (L.map (fun x => x.r)) := by
  intro h0
  rw [List.length_map] at h0
  obtain ⟨g, rfl, hB, hg, -⟩ := o.row.form h0
  refine ⟨g, 0, rfl, hg, fun i r hr => ?_⟩
  rw [List.getElem?_map] at hr
  obtain ⟨x, hx, rfl⟩ := Option.map_eq_some_iff.1 hr
  have hm := List.mem_of_getElem? hx
  have hru := o.rules x hm
  obtain ⟨k1, k2⟩ := own_cap hru
  refine ⟨roG x, rfl, ⟨x.ra, x.rc, rfl, (hok x hm).nm, k1, k2, hru.rw (ok := RuRok) rv_len (hok x hm).rs, fun _ _ _ => Nat.zero_le _⟩, fun j u hu => ?_⟩
  have := (o.row.cell roG_len (j := j) hx hu).1
  rw [Nat.zero_add]
  exact this
structure CfV where
  ip : Int
  b : Int
  gt : Int
  gm : ByteArray
  wm : ByteArray
  rs : Int
  ps : List PlaceV
  ros : List RoleV
structure CfA where
  x : Option Addr
  y : Option Addr
  xc : Nat
  yc : Nat
theorem agg_inj {l l' : List Value} (h : Value.agg l.toArray = .agg l'.toArray) : l = l' := by
  injection h with h
  exact List.toArray_inj h
structure OwnCf (w : World) (B : Nat) (A : CfA) (c : CfV) (L : List RoX) : Prop where
  ro : L.map (fun x => x.r) = c.ros
  ps : OwnS pv 4 82 w B (.slice A.x c.ps.length A.xc) c.ps
  rs : OwnRo w B (.slice A.y c.ros.length A.yc) L
def cfB (A : CfA) (c : CfV) (L : List RoX) (k : Nat) : Prop := cfBk (.slice A.x c.ps.length A.xc) (.slice A.y c.ros.length A.yc) L k
theorem OwnCf.now {w w' : World} {B : Nat} {A : CfA} {c : CfV} {L : List RoX} (h : OwnCf w B A c L) (hb : Below w.heap.size w w') : OwnCf w' B A c L := ⟨h.ro, h.ps.now hb, h.rs.now hb⟩
theorem OwnCf.keep {w w' : World} {B : Nat} {A : CfA} {c : CfV} {L : List RoX} (h : OwnCf w B A c L) (hk : ∀ b, cfB A c L b → w'.heap[b]? = w.heap[b]?) : OwnCf w' B A c L :=
  ⟨h.ro, Rlw.own_loc h.ps (fun b e => hk b (.inl e)), h.rs.keepB (fun b e => hk b (.inr e))⟩
theorem OwnCf.lt {w : World} {B : Nat} {A : CfA} {c : CfV} {L : List RoX} (h : OwnCf w B A c L) : ∀ k, cfB A c L k → B ≤ k ∧ k < w.heap.size := by
  rintro k (e | e)
  · exact h.ps.lt k e
  · exact h.rs.lt k e
structure CfR (w : World) (A : CfA) (c : CfV) : Prop where
  ps : Rw PlR 4 w A.x c.ps
  ros : Rw (RoR 0) 5 w A.y c.ros
theorem CfR.below {w w' : World} {A : CfA} {c : CfV} (h : CfR w A c) (hb : Below w.heap.size w w') : CfR w' A c := ⟨h.ps.keep PlR.kp hb, h.ros.keep (RoR.kp 0) hb⟩
structure CfOk (c : CfV) : Prop where
  ps : ∀ x, x ∈ c.ps → PlRok x
  ros : ∀ x, x ∈ c.ros → RoOk x
theorem OwnCf.rw {w : World} {B : Nat} {A : CfA} {c : CfV} {L : List RoX} (h : OwnCf w B A c L) (hk : CfOk c) : CfR w A c := by
  refine ⟨h.ps.rw (ok := PlRok) pv_len hk.ps, ?_⟩
  have := rw_ro h.rs (fun x hx => hk.ros x.r (by rw [← h.ro]; exact List.mem_map_of_mem hx))
  rw [h.ro] at this
  exact this
/-- Guests. -/
structure HuV where
  us : List UserV
  ss : List SessV
  fs : List FailV
  es : List RecV
  nx : Int
structure HuA where
  u : Option Addr
  s : Option Addr
  f : Option Addr
  r : Option Addr
  uc : Nat
  sc : Nat
  fc : Nat
  rc : Nat
def OwnHu (w : World) (B : Nat) (A : HuA) (h : HuV) : Prop := Own4 w B (.slice A.u h.us.length A.uc) (.slice A.s h.ss.length A.sc) (.slice A.f h.fs.length A.fc) (.slice A.r h.es.length A.rc) h.us h.ss h.fs h.es
def huB (A : HuA) (h : HuV) (k : Nat) : Prop := Value.ownBlock (.slice A.u h.us.length A.uc) = some k ∨ Value.ownBlock (.slice A.s h.ss.length A.sc) = some k ∨ Value.ownBlock (.slice A.f h.fs.length A.fc) = some k ∨ Value.ownBlock (.slice A.r h.es.length A.rc) = some k
theorem OwnHu.keep {w w' : World} {B : Nat} {A : HuA} {h : HuV} (o : OwnHu w B A h) (hk : ∀ b, huB A h b → w'.heap[b]? = w.heap[b]?) : OwnHu w' B A h :=
  ⟨Rlw.own_loc o.u (fun b e => hk b (.inl e)), Rlw.own_loc o.s (fun b e => hk b (.inr (.inl e))), Rlw.own_loc o.f (fun b e => hk b (.inr (.inr (.inl e)))), Rlw.own_loc o.r (fun b e => hk b (.inr (.inr (.inr e)))), o.us_, o.uf, o.ur, o.sf, o.sr, o.fr⟩
theorem OwnHu.lt {w : World} {B : Nat} {A : HuA} {h : HuV} (o : OwnHu w B A h) : ∀ k, huB A h k → B ≤ k ∧ k < w.heap.size := by
  rintro k (e | e | e | e)
  · exact o.u.lt k e
  · exact o.s.lt k e
  · exact o.f.lt k e
  · exact o.r.lt k e
structure HuR (w : World) (A : HuA) (h : HuV) : Prop where
  us : Rw UsR 6 w A.u h.us
  ss : Rw SeR 10 w A.s h.ss
  fs : Rw FaR 3 w A.f h.fs
  es : Rw ReR 5 w A.r h.es
theorem HuR.below {w w' : World} {A : HuA} {h : HuV} (o : HuR w A h) (hb : Below w.heap.size w w') : HuR w' A h := ⟨o.us.keep UsR.kp hb, o.ss.keep SeR.kp hb, o.fs.keep FaR.kp hb, o.es.keep ReR.kp hb⟩
structure HuOk (h : HuV) : Prop where
  us : ∀ x, x ∈ h.us → UsRok x
  ss : ∀ x, x ∈ h.ss → SeRok x
  fs : ∀ x, x ∈ h.fs → FaRok x
  es : ∀ x, x ∈ h.es → ReRok x
theorem HuR.ok {w : World} {A : HuA} {h : HuV} (o : HuR w A h) : HuOk h := ⟨rw_okG (c := uvG) (ok := UsRok) o.us, rw_okG (c := svG) (ok := SeRok) o.ss, rw_okG (c := fvG) (ok := FaRok) o.fs, rw_okG (c := evG) (ok := ReRok) o.es⟩
theorem OwnHu.rw {w : World} {B : Nat} {A : HuA} {h : HuV} (o : OwnHu w B A h) (hk : HuOk h) : HuR w A h :=
  ⟨o.u.rw (ok := UsRok) uvG_len hk.us, o.s.rw (ok := SeRok) svG_len hk.ss, o.f.rw (ok := FaRok) fvG_len hk.fs, o.r.rw (ok := ReRok) evG_len hk.es⟩
def zeroHu : HuV := ⟨[], [], [], [], 0⟩
def zeroHA : HuA := ⟨none, none, none, none, 0, 0, 0, 0⟩
theorem ap_none (v : Value) (n c : Nat) : Ap (.slice none n c) v := by
  intro k hk
  cases hk
theorem OwnHu.zero (w : World) (B : Nat) : OwnHu w B zeroHA zeroHu :=
  ⟨OwnS.nil w B, OwnS.nil w B, OwnS.nil w B, OwnS.nil w B, ap_none _ _ _, ap_none _ _ _, ap_none _ _ _, ap_none _ _ _, ap_none _ _ _, ap_none _ _ _⟩
/-- A list that is handed in, out of one of one's own. -/
theorem OwnS.src {α : Type} {c : α → List Value} {K n cap : Nat} {a : Option Addr} {e : TypeId} {B : Nat} {xs : List α} {w : World} {ok : α → Prop} (h : OwnS c K e w B (.slice a n cap) xs) (hK : ∀ x, (c x).length = K) (hok : ∀ x, x ∈ xs → ok x) (hm : n ≤ 1048576) : Src (FR c ok) K w a n cap xs := by
  refine ⟨h.rw hK hok, h.len, hm, (own_cap h).1, ?_, ?_⟩
  · intro p hp
    rcases h.2 with ⟨h1, _⟩ | ⟨g, cap', cur, h1, _⟩
    · cases h1; cases hp
    · cases h1; cases hp; rfl
  · intro hn
    rcases h.2 with ⟨h1, _⟩ | ⟨g, cap', cur, h1, _⟩
    · cases h1; exact ⟨rfl, rfl⟩
    · cases h1; cases hn
end Go.Proofs.YtnlepjcjakghcaaGreatDoor

namespace Go.Proofs.YtnlepjcjakghcaaGreatDoor
open Go.RowKit Go.PlainAid Go.Proofs.YtnlepjcjakghcaaGreatDoor.Bt Go.Sort
set_option linter.unusedVariables false
set_option maxRecDepth 20000

def plP : List PlaceV := [⟨151587081, 32, 443, 443⟩]
def plRa : List RuleV := [⟨6, 84215296, 24, 0, 65535, false⟩, ⟨0, 0, 0, 80, 443, true⟩]
def plRb : List RuleV := [⟨0, 0, 0, 0, 65535, true⟩]
def plR : List RoleV := [⟨⟨#[103, 117, 101, 115, 116]⟩, plRa, 400, 40, 10⟩, ⟨⟨#[115, 116, 97, 102, 102]⟩, plRb, 100000, 1000, 100⟩]
def plC : CfV := ⟨167772160, 24, 167772161, ⟨#[2, 0, 0, 0, 0, 0]⟩, ⟨#[2, 0, 0, 0, 0, 255]⟩, 16843009, plP, plR⟩
/-- What the slices of roles point to. -/
def plX (a b : Nat) : List RoX := [⟨⟨⟨#[103, 117, 101, 115, 116]⟩, plRa, 400, 40, 10⟩, some ⟨a, 0, none⟩, 2⟩, ⟨⟨⟨#[115, 116, 97, 102, 102]⟩, plRb, 100000, 1000, 100⟩, some ⟨b, 0, none⟩, 1⟩]
end Go.Proofs.YtnlepjcjakghcaaGreatDoor

namespace Go.Proofs.YtnlepjcjakghcaaGreatDoor
open Go.RowKit
set_option linter.unusedVariables false
namespace Rel
theorem cell_of {w w' : World} {a : Addr} (h : w'.heap[a.block]? = w.heap[a.block]?) : w'.cell? a = w.cell? a := by
  unfold World.cell?; rw [h]
theorem froz_of {w w' : World} {a : Addr} (h : w'.heap[a.block]? = w.heap[a.block]?) : w'.frozen? a = w.frozen? a := by
  unfold World.frozen?; rw [h]
theorem bx_loc {w w' : World} {q : Nat} {cs : List Value} (h : Bx w q cs) (hq : w'.heap[q]? = w.heap[q]?) : Bx w' q cs :=
  Bx.of (fun j v hv => (cell_of (a := ⟨q, j, none⟩) hq).trans (h.cell j hv)) (fun j hj => (froz_of (a := ⟨q, j, none⟩) hq).trans (h.thaw j hj))
theorem own_loc {e : TypeId} {w w' : World} {B K n : Nat} {v : Value} {F : List Value} (h : w.ownsRow B e K v n F) (hq : ∀ k, v.ownBlock = some k → w'.heap[k]? = w.heap[k]?) : w'.ownsRow B e K v n F := by
  refine ⟨h.1, ?_⟩
  rcases h.2 with h' | ⟨g, cap, cur, h1, hB, hg, h4⟩
  · exact .inl h'
  · exact .inr ⟨g, cap, cur, h1, hB, by rw [hq g (by rw [h1]; rfl)]; exact hg, h4⟩

/-- A value that is known. -/
def valR (i : Nat) (nd : List Nat) (v : Value) : Rsc := ⟨fun σ _ => σ i = v, fun _ _ => False, [i], [], nd⟩
theorem valR_ok {Bs : Nat → Prop} (i : Nat) (nd : List Nat) (v : Value) : (valR i nd v).Ok Bs :=
  ⟨fun σ w w' h _ => h, fun σ σ' h => ⟨fun w hf => (h i (by simp [valR])).trans hf, fun b hb => hb⟩⟩
/-- Two values that stand to each other so. -/
def twoR (i j : Nat) (nd : List Nat) (p : Value → Value → Prop) : Rsc := ⟨fun σ _ => p (σ i) (σ j), fun _ _ => False, [i, j], [], nd⟩
theorem twoR_ok {Bs : Nat → Prop} (i j : Nat) (nd : List Nat) (p : Value → Value → Prop) : (twoR i j nd p).Ok Bs :=
  ⟨fun σ w w' h _ => h, fun σ σ' h => ⟨fun w hf => by
    have h1 := h i (by simp [twoR]); have h2 := h j (by simp [twoR])
    show p (σ' i) (σ' j)
    rw [h1, h2]; exact hf, fun b hb => hb⟩⟩
/-- A new value, with blocks of its own. -/
def retR (i : Nat) (nd : List Nat) (F : Value → World → Prop) (ow : Value → Nat → Prop) : Rsc := ⟨fun σ w => F (σ i) w, fun σ b => ow (σ i) b, [i], [], nd⟩
theorem retR_ok {Bs : Nat → Prop} (i : Nat) (nd : List Nat) (F : Value → World → Prop) (ow : Value → Nat → Prop) (h : ∀ v w w', F v w → Keep (fun b => Bs b ∨ ow v b) w w' → F v w') : (retR i nd F ow).Ok Bs :=
  ⟨fun σ w w' hf hk => h (σ i) w w' hf hk, fun σ σ' hh => by
    have h1 := hh i (by simp [retR])
    exact ⟨fun w hf => by show F (σ' i) w; rw [h1]; exact hf, fun b hb => by show ow (σ i) b; rw [← h1]; exact hb⟩⟩
/-- A box. -/
def boxF (cs : List Value) (v : Value) (w : World) : Prop := ∃ q, v = .pointer (some ⟨q, 0, none⟩) ∧ Bx w q cs
def boxO (v : Value) (b : Nat) : Prop := v = .pointer (some ⟨b, 0, none⟩)
theorem box_loc {Bs : Nat → Prop} {cs : List Value} (v : Value) (w w' : World) (h : boxF cs v w) (hk : Keep (fun b => Bs b ∨ boxO v b) w w') : boxF cs v w' := by
  obtain ⟨q, hv, hb⟩ := h
  exact ⟨q, hv, bx_loc hb (hk.block q (.inr hv))⟩
def boxR (i : Nat) (nd : List Nat) (cs : List Value) : Rsc := retR i nd (boxF cs) boxO
theorem boxR_ok {Bs : Nat → Prop} (i : Nat) (nd : List Nat) (cs : List Value) : (boxR i nd cs).Ok Bs := retR_ok i nd _ _ box_loc
/-- The box j, filled by operation i. -/
def putR (j : Nat) (nd : List Nat) (cs : List Value) : Rsc := ⟨fun σ w => boxF cs (σ j) w, fun σ b => boxO (σ j) b, [j], [j], nd⟩
theorem putR_ok {Bs : Nat → Prop} (j : Nat) (nd : List Nat) (cs : List Value) : (putR j nd cs).Ok Bs :=
  ⟨fun σ w w' hf hk => box_loc (σ j) w w' hf hk, fun σ σ' hh => by
    have h1 := hh j (by simp [putR])
    exact ⟨fun w hf => by show boxF cs (σ' j) w; rw [h1]; exact hf, fun b hb => by show boxO (σ j) b; rw [← h1]; exact hb⟩⟩

theorem left_below {R : List Rsc} {r : Rsc} {i : Nat} {σ : Nat → Value} {w : World} {v : Value} {w' : World} (hf : r.fact (upd σ i v) w') (ho : ∀ b, r.own (upd σ i v) b → w.heap.size ≤ b ∧ b < w'.heap.size) (hb : Below w.heap.size w w') : Left R r i σ w v w' :=
  ⟨hf, fun b h => .inr (ho b h), ⟨hb.os, hb.tape, hb.output, hb.size, fun k hk => hb.block k hk.1⟩⟩
theorem left_val {R : List Rsc} {i : Nat} {nd : List Nat} {σ : Nat → Value} {w : World} {v : Value} : Left R (valR i nd v) i σ w v w :=
  left_below (upd_self σ i v) (fun b h => h.elim) (Below.refl _ _)
theorem left_valB {R : List Rsc} {i : Nat} {nd : List Nat} {σ : Nat → Value} {w w' : World} {v : Value} (hb : Below w.heap.size w w') : Left R (valR i nd v) i σ w v w' :=
  left_below (upd_self σ i v) (fun b h => h.elim) hb
theorem left_ret {R : List Rsc} {i : Nat} {nd : List Nat} {σ : Nat → Value} {w w' : World} {v : Value} {F : Value → World → Prop} {ow : Value → Nat → Prop} (hf : F v w') (ho : ∀ b, ow v b → w.heap.size ≤ b ∧ b < w'.heap.size) (hb : Below w.heap.size w w') : Left R (retR i nd F ow) i σ w v w' :=
  left_below (by show F (upd σ i v i) w'; rw [upd_self]; exact hf) (fun b h => ho b (by have h2 : ow (upd σ i v i) b := h; rwa [upd_self] at h2)) hb
theorem left_box {R : List Rsc} {i : Nat} {nd : List Nat} {σ : Nat → Value} {w : World} (cs : Array Value) (t : TypeId) : Left R (boxR i nd cs.toList) i σ w (.pointer (some ⟨w.heap.size, 0, none⟩)) (w.alloc (.cells cs t)) :=
  left_ret ⟨_, rfl, Bx.new w cs t⟩ (fun b h => by
    have : w.heap.size = b := by cases h; rfl
    subst this
    simp) ((Below.refl _ _).alloc (Nat.le_refl _) _)
theorem heap_cells {q : Nat} : ∀ (vs : List Value) (o : Nat) (w : World), (w.setCells q o vs).heap.size = w.heap.size ∧ (w.setCells q o vs).os = w.os ∧ (w.setCells q o vs).tape = w.tape ∧ (w.setCells q o vs).output = w.output ∧ ∀ k, k ≠ q → (w.setCells q o vs).heap[k]? = w.heap[k]?
  | [], _, _ => ⟨rfl, rfl, rfl, rfl, fun _ _ => rfl⟩
  | v :: r, o, w => by
    rw [World.setCells]
    obtain ⟨h1, h2, h3, h4, h5⟩ := heap_cells r (o + 1) (w.setCell ⟨q, o, none⟩ v)
    exact ⟨h1.trans (by simp [World.setCell]), h2, h3, h4, fun k hk => (h5 k hk).trans (Below.heap_setCell _ _ _ _ hk)⟩
theorem left_put {R : List Rsc} {i j q : Nat} {nd nd' : List Nat} {σ : Nat → Value} {w : World} {u : Value} {cs vs : List Value} (hR : R[j]? = some (boxR j nd' cs)) (hij : j ≠ i) (hq : σ j = .pointer (some ⟨q, 0, none⟩)) (hb : Bx w q cs) (hl : vs.length = cs.length) : Left R (putR j nd vs) i σ w u (w.setCells q 0 vs) := by
  have hu : upd σ i u j = .pointer (some ⟨q, 0, none⟩) := by rw [upd_ne σ u hij]; exact hq
  obtain ⟨h1, h2, h3, h4, h5⟩ := heap_cells (q := q) vs 0 w
  refine ⟨⟨q, hu, hb.put vs hl⟩, fun b h => .inl ⟨j, _, by simp [putR], hR, ?_⟩, ⟨h2, h3, h4, by omega, fun k hk => h5 k ?_⟩⟩
  · show boxO (σ j) b
    have h6 : boxO (upd σ i u j) b := h
    rwa [upd_ne σ u hij] at h6
  · intro e
    subst e
    exact hk.2 j _ (by simp [putR]) hR hq
theorem keep_below {w w' : World} (h : Keep (fun b => b < w.heap.size) { w with drawn := w.drawn + 1 } w') : Below w.heap.size w w' := ⟨h.os, h.tape, h.output, h.size, h.block⟩
theorem fact_of {Bs : Nat → Prop} {R : List Rsc} {σ : Nat → Value} {w : World} : ∀ {l : List Nat} {j : Nat} {r : Rsc}, factsOf Bs R σ w l → l.contains j = true → R[j]? = some r → r.fact σ w
  | x :: l, j, r, h, hm, hr => by
    rcases List.mem_cons.1 (List.contains_iff_mem.1 hm) with e | e
    · subst e
      obtain ⟨r', hr', hf, _⟩ := h.1
      rw [hr] at hr'; cases hr'
      exact hf
    · exact fact_of h.2 (List.contains_iff_mem.2 e) hr
theorem walk_cons {P : Program} {ops : Array Oper} {Bs : Nat → Prop} {wS : World} {R : List Rsc} {o : Oper} {l : List Oper} {r : Rsc} {rs : List Rsc} {i : Nat} {Fr : (Nat → Value) → Act}
    (h : StepAt P ops Bs wS R i o r Fr) (hr : Walk P ops Bs wS R l rs (i + 1) (fun σ => (Fr σ).put o.dst (σ i))) : Walk P ops Bs wS R (o :: l) (r :: rs) i Fr := ⟨h, hr⟩
theorem walk_nil {P : Program} {ops : Array Oper} {Bs : Nat → Prop} {wS : World} {R : List Rsc} {rs : List Rsc} {i : Nat} {Fr : (Nat → Value) → Act} : Walk P ops Bs wS R [] rs i Fr := trivial
/-- What an operation has yielded, shut (so that no tactic looks into the run). -/
structure Yld (P : Program) (post : Value → World → Prop) (res : Result Next) : Prop where
  out : relUpon P post res
theorem yld_val {P : Program} {post : Value → World → Prop} {u : Value} {w : World} (h : post u w) : Yld P post (.ok (.value u) w) := ⟨h⟩
theorem yld_call {P : Program} {post : Value → World → Prop} {w : World} {f : FuncId} {args : Array Value} (h : Calls P f args w fun e w'' => ∃ v, e = .returned v ∧ post v w'') : Yld P post (.ok (.enter f args) w) := ⟨h⟩
theorem yld_get {P : Program} {post : Value → World → Prop} {o : Oper} {a : Act} {w : World} (t : TypeId) (x : Operand) (ho : o.op = .load t x) {q : Nat} (hx : a.eval x = .pointer (some ⟨q, 0, none⟩)) {cs : List Value} (hb : Bx w q cs) (d : TypeDesc) (hu : P.underlying t = some d) (hd : d.isRow = true)
    (hi : (P.info? t).map (·.size) = some cs.length) (h : post (.agg cs.toArray) w) : Yld P post ((execOp a.eval o).run P w) := by
  refine ⟨?_⟩
  unfold execOp
  simp only [ho, hx, Instr.loadAt, Instr.sureAddr, Sem.run_bind, Sem.run_pure, Result.andThen_ok, run_loadVar_mid w q 0 t cs d hb.cl hu hd hi]
  exact h
theorem yld_put {P : Program} {post : Value → World → Prop} {o : Oper} {a : Act} {w : World} (t : TypeId) (x y : Operand) (ho : o.op = .store t x y) {q : Nat} {cells : Array Value} (hx : a.eval x = .pointer (some ⟨q, 0, none⟩)) (hy : a.eval y = .agg cells) {cs : List Value} (hb : Bx w q cs)
    (hl : cells.size = cs.length) (hi : (P.info? t).map (·.size) = some cells.size) (h1 : cells.toList.all (·.oneCell') = true) (h : post undef (w.setCells q 0 cells.toList)) : Yld P post ((execOp a.eval o).run P w) := by
  refine ⟨?_⟩
  have hr := run_storeAt_mid w q 0 t cells (by rw [hl]; exact hb.th) hi (by rw [← Array.all_toList]; exact h1)
  unfold execOp
  simp only [ho, hx, hy, Sem.run_bind, Sem.run_pure, Result.andThen_ok, hr]
  exact h
theorem step_want {P : Program} {ops : Array Oper} {Bs : Nat → Prop} {wS : World} {R : List Rsc} {o : Oper} {r : Rsc} {i : Nat} {Fr : (Nat → Value) → Act} (hg : o.guard = none)
    (h : ∀ σ w, Keep Bs wS w → factsOf Bs R σ w (r.tk ++ r.nd) → ∀ post : Value → World → Prop, (∀ v w', Left R r i σ w v w' → post v w') → Yld P post ((execOp (Fr σ).eval o).run P w)) : StepAt P ops Bs wS R i o r Fr := by
  intro σ w hK hF
  rw [if_pos (by unfold Region.wanted; rw [hg])]
  exact (h σ w hK hF _ (fun _ _ h => h)).out
end Rel
end Go.Proofs.YtnlepjcjakghcaaGreatDoor

namespace Go.Proofs.YtnlepjcjakghcaaGreatDoor
open Go.RowKit
set_option linter.unusedVariables false
namespace Rel
/-- Where the row lies behind an append. -/
theorem append_where {P : Program} (w : World) (base : Nat) (t ty e : TypeId) (i : TypeInfo) (z : Value) (bytes : Nat) (ht : P.underlying t = some (.slice e)) (hi : P.info? e = some i) (hz : i.zero = some z)
    (hby : i.bytes = bytes) (hsz : 0 < i.size) (v : Value) (n : Nat) (xs : List Value) (hown : w.ownsRow base e i.size v n xs)
    (a : Addr) (m c : Nat) (news : List Value) (hl : news.length = m * i.size) (hnews : ∀ j u, news[j]? = some u → w.cell? (a.add j) = some u) (h1 : ∀ u ∈ news, u.oneCell' = true)
    (h63 : n + m ≤ maxLen) (hbytes : (n + m) * bytes ≤ 140737488355328) {v' : Value} {w' : World} (hr : (Builtin.append_ #[t, t] ty #[v, .slice (some a) m c]).run P w = .ok v' w') (hm : 0 < m) :
    v'.ownBlock = v.ownBlock ∨ v'.ownBlock = some w.heap.size := by
  subst hby
  have hs63 : n + m ≤ 9223372036854775807 := by simp only [maxLen] at h63; omega
  rcases hown.2 with ⟨rfl, rfl⟩ | ⟨g, cap, cur, rfl, hbg, hg, hnc, hcm, hcs, htake⟩
  · have h2 := run_append_nil (P := P) w t ty e i z ht hi hz a m c news hl hnews hm (by omega) (by have hb := hbytes; simp only [Nat.zero_add] at hb; omega)
    rw [h2] at hr
    injection hr with hv _
    rw [← hv]
    exact .inr rfl
  · by_cases hroom : n + m ≤ cap
    · have h2 := run_append_room (P := P) w t ty e i ht hi g n cap cur hg a m c news hl hnews h1 hroom (by rw [hl, hcs, ← Nat.add_mul]; exact Nat.mul_le_mul_right _ hroom)
      rw [h2] at hr
      injection hr with hv _
      rw [← hv]
      exact .inl rfl
    · have h2 := run_append_grow (P := P) w t ty e i z ht hi hz ⟨g, 0, none⟩ n cap xs hown.1 (hown.cells (g := g) rfl) a m c news hl hnews (by omega) (by omega) (growslice_fits (by omega) hbytes)
      rw [h2] at hr
      injection hr with hv _
      rw [← hv]
      exact .inr rfl
end Rel
end Go.Proofs.YtnlepjcjakghcaaGreatDoor

namespace Go.Proofs.YtnlepjcjakghcaaGreatDoor
open Go.RowKit Go.PlainAid Go.Sort
set_option linter.unusedVariables false
set_option maxRecDepth 20000
theorem run_storeVar_at {P : Program} (w : World) (b o : Nat) (ty : TypeId) (v : Value) (ht : w.there b o 1) (hi : (P.info? ty).map (·.size) = some 1) (h1 : v.oneCell' = true) :
    (storeVar ty ⟨b, o, none⟩ v).run P w = .ok () (w.setCells b o [v]) := by
  have hc : v.cells = #[v] := by cases v <;> first | rfl | cases h1
  have := run_storeCells_cells (P := P) b o [v] 0 w (fun j hj => by simpa using (ht j (by simpa using hj)).1) (fun j hj => by simpa using (ht j (by simpa using hj)).2)
    (fun u hu => by simp at hu; subst hu; exact h1)
  cases hq : P.info? ty with
  | none => simp [hq] at hi
  | some i =>
    have hs : i.size = 1 := by simpa [hq] using hi
    simp only [Nat.add_zero] at this
    simp [storeVar, sizeOf, typeInfo, hq, hc, hs, this]
theorem wpl_put1 {P : Program} {ops : Array Oper} {rest : List Oper} {op : Oper} {a : Act} {w : World} {Q : Exit → Act → World → Prop} (t : TypeId) (hgd : op.guard = none) (x y : Operand) (ho : op.op = .store t x y)
    (q o : Nat) (v : Value) (hx : a.eval x = .pointer (some ⟨q, o, none⟩)) (hy : a.eval y = v) {cs : List Value} (h0 : Bx w q cs) (hn : (decide (o + 1 ≤ cs.length)) = true) (hi : (P.info? t).map (·.size) = some 1) (h1 : v.oneCell' = true)
    (h : ∀ w', w' = w.setCells q o [v] → wpList P ops Q rest (a.put op.dst undef) w') : wpList P ops Q (op :: rest) a w :=
  wpList_plain hgd fun _ hK => by
    unfold Oper.wp execOp
    simp only [ho, hx, hy, Instr.storeAt, Instr.sureAddr, Sem.run_bind, Sem.run_pure, Result.andThen_ok, run_storeVar_at w q o t v (h0.thereAt o 1 (of_decide_eq_true hn)) hi h1]
    exact hK _ _ (h _ rfl)
/-- A struct result that lies in a box is read whole. -/
theorem results_cell {P : Program} {fn : Func} {tmps : Array Value} {w : World} {a : Tmp} {t : TypeId} (hr : fn.results = #[.cell a t]) (q : Nat) (hp : tmps.getD a undef = .pointer (some ⟨q, 0, none⟩)) {cs : List Value} (hb : Bx w q cs)
    (d : TypeDesc) (hu : P.underlying t = some d) (hd : d.isRow = true) (hi : (P.info? t).map (·.size) = some cs.length) : (results fn tmps).run P w = .ok (.agg cs.toArray) w := by
  have h := run_loadVar_mid w q 0 t cs d hb.cl hu hd hi
  unfold results
  rw [hr]
  have hp' : tmps[a]?.getD undef = .pointer (some ⟨q, 0, none⟩) := by rw [← Array.getD_eq_getD_getElem?]; exact hp
  simp [hp', asAddr, h]
end Go.Proofs.YtnlepjcjakghcaaGreatDoor

namespace Go.Proofs.YtnlepjcjakghcaaGreatDoor
open Go.RowKit
set_option linter.unusedVariables false
namespace Rlw
open Rel (Keep)
theorem run_append_w {P : Program} (w : World) (base : Nat) (t ty e : TypeId) (i : TypeInfo) (z : Value) (size bytes : Nat) (ht : P.underlying t = some (.slice e)) (hi : P.info? e = some i) (hz : i.zero = some z)
    (hsize : i.size = size) (hby : i.bytes = bytes) (hzs : z.cells.size = size) (hsz : 0 < size)
    (v : Value) (n : Nat) (xs : List Value) (hown : w.ownsRow base e size v n xs)
    (a : Addr) (m c : Nat) (news : List Value) (hl : news.length = m * size) (hnews : ∀ j u, news[j]? = some u → w.cell? (a.add j) = some u) (h1 : ∀ u ∈ news, u.oneCell' = true)
    (h63 : n + m ≤ maxLen) (hbytes : (n + m) * bytes ≤ 140737488355328) (hbase : base ≤ w.heap.size) :
    ∃ v' w', (Builtin.append_ #[t, t] ty #[v, .slice (some a) m c]).run P w = .ok v' w' ∧ w'.ownsRow base e size v' (n + m) (xs ++ news) ∧ w.grownBy w' v.ownBlock ∧
      (∀ k, v'.ownBlock = some k → v.ownBlock = some k ∨ (w.heap.size ≤ k ∧ k < w'.heap.size)) := by
  obtain ⟨v', w', hr, h2, h3, h4⟩ := run_append_own (P := P) w base t ty e i z size bytes ht hi hz hsize hby hzs hsz v n xs hown a m c news hl hnews h1 h63 hbytes hbase
  refine ⟨v', w', hr, h2, h3, fun k hk => ?_⟩
  have hlt := (World.ownsRow.lt h2 k hk).2
  subst hsize
  have hw : v'.ownBlock = v.ownBlock ∨ v'.ownBlock = some w.heap.size := by
    by_cases hm : 0 < m
    · exact Rel.append_where w base t ty e i z bytes ht hi hz hby hsz v n xs hown a m c news hl hnews h1 h63 hbytes hr hm
    · obtain rfl : m = 0 := by omega
      rcases hown.2 with ⟨hv, _⟩ | ⟨g, cap, cur, rfl, hbg, hg, hnc, hcm, hcs, htake⟩
      · rw [h4.2 ⟨hv, rfl⟩, hv]; exact .inl rfl
      · have h5 := run_append_room (P := P) w t ty e i ht hi g n cap cur hg a 0 c news hl hnews h1 (by omega) (by rw [hl, hcs]; simp; exact Nat.mul_le_mul_right _ hnc)
        rw [h5] at hr
        injection hr with hv _
        rw [← hv]
        exact .inl rfl
  rcases hw with e1 | e1
  · exact .inl (e1 ▸ hk)
  · rw [e1] at hk
    cases hk
    exact .inr ⟨Nat.le_refl _, hlt⟩
/-- A part of an elder box (block q) is filled with what operation t has yielded: the box as an initial resource j. -/
def fillR (q j t : Nat) (nd : List Nat) (cs : Value → List Value) : Rsc := ⟨fun σ w => Bx w q (cs (σ t)), fun _ _ b => b = q, [t], [j], nd⟩
theorem fillR_ok {Bs : Nat → Prop} (q j t : Nat) (nd : List Nat) (cs : Value → List Value) : (fillR q j t nd cs).Ok Bs :=
  ⟨fun σ w w' h hk => ⟨bx_loc h (hk.block _ (.inr rfl)), fun b hb => hb⟩, fun σ σ' hs w => ⟨fun h => by have e := hs t (by simp [fillR]); show Bx w q (cs (σ' t)); rw [e]; exact h, fun b hb => hb⟩⟩
def iniR (q : Nat) (cs : List Value) : Rsc := ⟨fun _ w => Bx w q cs, fun _ _ b => b = q, [], [], []⟩
theorem iniR_ok {Bs : Nat → Prop} (q : Nat) (cs : List Value) : (iniR q cs).Ok Bs :=
  ⟨fun σ w w' h hk => ⟨bx_loc h (hk.block _ (.inr rfl)), fun b hb => hb⟩, fun σ σ' hs w => ⟨fun h => h, fun b hb => hb⟩⟩
theorem left_fill {R : List Rsc} {i j q t o : Nat} {nd : List Nat} {σ : Nat → Value} {w : World} {u : Value} {cs : List Value} {cf : Value → List Value} (hR : R[j]? = some (iniR q cs)) (hti : t ≠ i) (hb : Bx w q cs) (vs : List Value) (hcf : cf (σ t) = sets cs o vs) : Left R (fillR q j t nd cf) i σ w u (w.setCells q o vs) := by
  obtain ⟨h1, h2, h3, h4, h5⟩ := heap_cells (q := q) vs o w
  refine ⟨?_, fun b h => .inl ⟨j, _, by simp [fillR], hR, h⟩, ⟨h2, h3, h4, by omega, fun k hk => h5 k ?_⟩⟩
  · show Bx _ q (cf (upd σ i u t))
    rw [upd_ne σ u hti, hcf]
    exact Bx.sets vs o w cs hb
  · intro e
    exact hk.2 j _ (by simp [fillR]) hR e
theorem bx_keepW {w w' : World} {q : Nat} {cs : List Value} {P : Nat → Prop} (h : Bx w q cs) (hk : Keep P w w') (hq : P q) : Bx w' q cs := bx_loc h (hk.block q hq)
end Rlw
end Go.Proofs.YtnlepjcjakghcaaGreatDoor

namespace Go.Proofs.YtnlepjcjakghcaaGreatDoor.Bt
open Go.RowKit
set_option linter.unusedVariables false

theorem behind_nat : ∀ b, b < 33 → 4294967295 / 2 ^ b = 2 ^ (32 - b) - 1 := by decide
theorem behind (b : Nat) (h : b ≤ 32) : (4294967295 : Int) / 2 ^ b = ((2 ^ (32 - b) - 1 : Nat) : Int) := by
  rw [← behind_nat b (by omega)]
  simp
theorem keep_hi (a k : Nat) (ha : a < 4294967296) (hk : k ≤ 32) : bits .andNot .i64 (a : Int) ((2 ^ k - 1 : Nat) : Int) = ((a / 2 ^ k * 2 ^ k : Nat) : Int) := by
  have hp : 2 ^ k ≤ 2 ^ 32 := Nat.pow_le_pow_right (by omega) hk
  have hp0 : 0 < 2 ^ k := Nat.two_pow_pos k
  have hle : a / 2 ^ k * 2 ^ k ≤ a := Nat.div_mul_le_self _ _
  have e : a &&& (2 ^ 64 - (2 ^ k - 1 + 1)) = a / 2 ^ k * 2 ^ k := by
    apply Nat.eq_of_testBit_eq
    intro i
    rw [← Nat.shiftRight_eq_div_pow, ← Nat.shiftLeft_eq, Nat.testBit_and, Nat.testBit_two_pow_sub_succ (by omega), Nat.testBit_shiftLeft, Nat.testBit_shiftRight, Nat.testBit_two_pow_sub_one]
    by_cases h1 : i < k
    · simp [h1]; omega
    · have h2 : k + (i - k) = i := by omega
      rw [h2]
      by_cases h3 : i < 64
      · simp [h1, h3]; omega
      · have : a.testBit i = false := Nat.testBit_lt_two_pow (Nat.lt_of_lt_of_le ha (by rw [show (4294967296 : Nat) = 2 ^ 32 from rfl]; exact Nat.pow_le_pow_right (by omega) (by omega)))
        simp [this]
  show IntKind.i64.wrap ((BitVec.ofInt 64 (a : Int) &&& ~~~BitVec.ofInt 64 ((2 ^ k - 1 : Nat) : Int)).toNat : Int) = _
  rw [BitVec.toNat_and, BitVec.toNat_not, ofInt_i64 a (by omega), ofInt_i64 (2 ^ k - 1) (by omega), IntKind.wrap_i64, show 2 ^ 64 - 1 - (2 ^ k - 1) = 2 ^ 64 - (2 ^ k - 1 + 1) by omega, e]
  omega

/-- The size of a net of b bits. -/
def netM (b : Int) : Int := 2 ^ (32 - b.toNat)
theorem netM_pos (b : Int) : 1 ≤ netM b := Int.pow_pos (by omega)
/-- 'ip &^ (MaxAddress >> bits)'. -/
theorem around (ip : Int) (b : Nat) (h0 : 0 ≤ ip) (h1 : ip ≤ 4294967295) (hb : b ≤ 32) : bits .andNot .i64 ip (4294967295 / 2 ^ b) = ip / netM b * netM b := by
  obtain ⟨a, rfl⟩ := Int.eq_ofNat_of_zero_le h0
  rw [behind b hb, keep_hi a (32 - b) (by omega) (by omega)]
  unfold netM
  simp
theorem mul_same (a m : Int) (hm : 1 ≤ m) : (a = a / m * m) ↔ a % m = 0 := by
  have := Int.mul_ediv_add_emod a m
  rw [Int.mul_comm] at this
  omega
theorem mul_has (a x m : Int) (hm : 1 ≤ m) (h : a % m = 0) : (a = x / m * m) ↔ a / m = x / m := by
  have h2 := Int.mul_ediv_add_emod a m
  rw [Int.mul_comm] at h2
  constructor
  · intro e
    have h3 : a / m * m = x / m * m := by omega
    exact Int.eq_of_mul_eq_mul_right (by omega) h3
  · intro e
    rw [← e]; omega
end Go.Proofs.YtnlepjcjakghcaaGreatDoor.Bt

namespace Go.Proofs.YtnlepjcjakghcaaGreatDoor
open Go.RowKit Go.PlainAid Go.Proofs.YtnlepjcjakghcaaGreatDoor.Pl
set_option linter.unusedVariables false

/-- A string's bytes. -/
def nums (s : ByteArray) : List Int := s.data.toList.map fun b => (b.toNat : Int)

theorem nums_len (s : ByteArray) : (nums s).length = s.size := by unfold nums; rw [List.length_map, Array.length_toList]; rfl
theorem nums_strOfNums (L : List Int) (h : ∀ x ∈ L, 0 ≤ x ∧ x ≤ 255) : nums (strOfNums L) = L := by
  unfold strOfNums nums
  simp only [List.map_map]
  conv => rhs; rw [← List.map_id L]
  apply List.map_congr_left
  intro x hx
  have := h x hx
  simp
  omega
/-- A list told by places is the list. -/
theorem getD_bd {L : List Int} (h : ∀ x ∈ L, 0 ≤ x ∧ x ≤ 255) (k : Nat) : 0 ≤ L.getD k 0 ∧ L.getD k 0 ≤ 255 := by
  by_cases hk : k < L.length
  · rw [List.getD_eq_getElem?_getD, List.getElem?_eq_getElem hk]; exact h _ (List.getElem_mem hk)
  · rw [List.getD_eq_getElem?_getD, List.getElem?_eq_none (by omega)]; simp
end Go.Proofs.YtnlepjcjakghcaaGreatDoor

namespace Go.Proofs.YtnlepjcjakghcaaGreatDoor
open Go.RowKit Go.PlainAid
set_option linter.unusedVariables false
set_option maxRecDepth 20000

/-- Byte j of n in m bytes, the higher ones first. -/
def nb (n : Int) (m j : Nat) : Int := n / 2 ^ (8 * (m - 1 - j)) % 256
theorem nb_bd (n : Int) (m j : Nat) : 0 ≤ nb n m j ∧ nb n m j ≤ 255 := by unfold nb; omega

set_option maxHeartbeats 400000 in
theorem numberBytes_yes (n : Int) (m : Nat) (w : World) (h1 : 1 ≤ m) (h6 : m ≤ 6) (hn : 0 ≤ n) (hr : n < 2 ^ (8 * m)) (hx : n ≤ 9223372036854775807) :
    Calls Tryz.prog 87 #[.int .i64 n, .int .i64 m] w fun e w' => e = .returned (.tuple #[.slice (some ⟨w.heap.size, 0, none⟩) m m, .int .i64 0]) ∧ Fill w w' m m (nb n m) := by
  have hmk := run_make_row' (P := Tryz.prog) 22 5 (.int .u8 0) 1 Tryz.underlying22 Tryz.infoB rfl .i64 .i64 m (by omega) (by omega)
  have hst := fill_start w m (nb n m) 5
  have b1 : decide ((m : Int) < 1) = false := by simp; omega
  have b2 : decide (6 < (m : Int)) = false := by simp; omega
  have HR : Hid (n < 2 ^ (8 * m)) := hr
  clear hr
  go_enter Tryz.func87, Tryz.ntmps87
  go_wp2_with fail
  refine (hasRoom_y n m w h1 h6 hn HR.out hx).mono ?_
  rintro e w0 ⟨rfl, hw⟩
  have hw' := hw.symm
  subst hw'
  go_wp2
  go_loopw [23] (fun i wr => ∃ k : Nat, k ≤ m ∧ i = .int .i64 k ∧ Fill w wr m k (nb n m)) (fun i _ => m - (intOf i).toNat)
  case atStart => exact ⟨0, Nat.zero_le _, rfl, hst⟩
  case round =>
    obtain ⟨k, hk, rfl, hfill⟩ := hrel
    have hfill' : Hid (Fill w wr m k (nb n m)) := hfill
    by_cases hlt2 : k < m
    · have hfz := hfill.2.2.1 k
      obtain ⟨v, hv⟩ := hfill.2.2.2.1 k hlt2
      clear hfill hst hmk
      have hp : (0 : Int) < 2 ^ (8 * (m - 1 - k)) := Int.pow_pos (by omega)
      have hq0 : 0 ≤ n / 2 ^ (8 * (m - 1 - k)) := Int.ediv_nonneg hn (by omega)
      go_wp2
      go_roundw
      case rel => exact ⟨k + 1, by omega, by go_num, fill_step hfill'.out hlt2⟩
      case measure => simp [intOf]; omega
    · obtain rfl : k = m := by omega
      clear hst hmk hfill
      go_wp2
      go_ret2
      exact ⟨rfl, hfill'.out⟩

end Go.Proofs.YtnlepjcjakghcaaGreatDoor

namespace Go.Proofs.YtnlepjcjakghcaaGreatDoor
open Go.RowKit Go.PlainAid
set_option linter.unusedVariables false
set_option maxRecDepth 20000

theorem part_any (b off len cap at_ size : Nat) (w : World) (h : at_ + size ≤ cap) (hc : cap ≤ 9223372036854775807) :
    Calls Tryz.prog 61 #[.slice (some ⟨b, off, none⟩) len cap, .int .i64 at_, .int .i64 size] w fun e w' => ∃ a', e = .returned (.slice a' size size) ∧ (0 < size → a' = some ⟨b, off + at_, none⟩) ∧ w' = w := by
  go_enter Tryz.func61, Tryz.ntmps61
  go_wp2
  · go_ret
    obtain rfl : size = 0 := by omega
    exact ⟨_, rfl, by omega, rfl⟩
  · go_ret
    exact ⟨_, rfl, fun _ => rfl, rfl⟩

theorem Bytes.part {w : World} {b off len : Nat} {f : Nat → Int} (h : Bytes w (some ⟨b, off, none⟩) len f) (at_ size : Nat) (hs : at_ + size ≤ len) (a' : Option Addr) (ha : 0 < size → a' = some ⟨b, off + at_, none⟩) : Bytes w a' size (fun j => f (at_ + j)) := by
  refine ⟨fun k => h.1 _, fun h0 => ?_⟩
  obtain ⟨b', off', e, hc⟩ := h.2 (by omega)
  cases e
  exact ⟨b, off + at_, ha h0, fun i hi => by rw [Nat.add_assoc]; exact hc (at_ + i) (by omega)⟩

theorem numberAt_any (a : Option Addr) (len cap : Nat) (f : Nat → Int) (at_ size : Nat) (w : World) (h : Bytes w a len f) (hs : at_ + size ≤ len) (hc : len ≤ cap) (hx : cap ≤ 9223372036854775807) (h1 : 1 ≤ size) (h6 : size ≤ 6) :
    Calls Tryz.prog 97 #[.slice a len cap, .int .i64 at_, .int .i64 size] w fun e w' => e = .returned (.int .i64 (numOf (fun j => f (at_ + j)) size)) ∧ w' = w := by
  obtain ⟨b, off, rfl, -⟩ := h.2 (by omega)
  have H : Hid (Bytes w (some ⟨b, off, none⟩) len f) := h
  clear h
  go_enter Tryz.func97, Tryz.ntmps97
  go_wp2_with fail
  refine (part_any b off len cap at_ size w (by omega) hx).mono ?_
  rintro e w0 ⟨a', rfl, ha, hw⟩
  subst hw
  have HA : Hid (0 < size → a' = some ⟨b, off + at_, none⟩) := ha
  clear ha
  go_wp2_with fail
  refine (numberOf_yes a' size size _ w0 (H.out.part at_ size hs a' HA.out) h1 h6).mono ?_
  rintro e w1 ⟨rfl, hw⟩
  subst hw
  go_wp2
  go_ret
  exact ⟨rfl, rfl⟩

/-- A number's bytes. -/
def nbl (n : Int) (m : Nat) : List Int := (List.range m).map (nb n m)
theorem nbl_len (n : Int) (m : Nat) : (nbl n m).length = m := by simp [nbl]
theorem nbl_bd (n : Int) (m : Nat) : ∀ x ∈ nbl n m, 0 ≤ x ∧ x ≤ 255 := by
  intro x hx
  obtain ⟨j, -, rfl⟩ := List.mem_map.1 hx
  exact nb_bd n m j
theorem below_grownBy {w w' : World} (h : Below w.heap.size w w') (row : Option Nat) : w.grownBy w' row := ⟨h.os, h.tape, h.output, h.size, fun k hk _ => h.block k hk⟩
theorem gr_trans {w w1 w2 : World} {r : Option Nat} (h : w.grownBy w1 r) (k : w1.grownBy w2 r) : w.grownBy w2 r :=
  ⟨k.os.trans h.os, k.tape.trans h.tape, k.output.trans h.output, Nat.le_trans h.size k.size, fun i hi hr => (k.block i (Nat.lt_of_lt_of_le hi h.size) hr).trans (h.block i hi hr)⟩
theorem news_of_fill {w w1 : World} {m : Nat} {f : Nat → Int} (h : Fill w w1 m m f) : ∀ j u, ((List.range m).map fun i => Value.int .u8 (f i))[j]? = some u → w1.cell? ((⟨w.heap.size, 0, none⟩ : Addr).add j) = some u := by
  intro j u hu
  have hj : j < m := by
    by_cases hj : j < m
    · exact hj
    · rw [List.getElem?_eq_none (by simp; omega)] at hu; cases hu
  have e : (⟨w.heap.size, 0, none⟩ : Addr).add j = ⟨w.heap.size, j, none⟩ := by unfold Addr.add; split <;> simp_all
  rw [e, h.2.2.2.2 j hj]
  simpa [hj] using hu

set_option maxHeartbeats 400000 in
theorem addNumber_any (v : Value) (L : List Int) (n : Int) (m : Nat) (w : World) (B : Nat) (h : OwnL 5 w B v L) (hB : B ≤ w.heap.size) (h1 : 1 ≤ m) (h6 : m ≤ 6) (hn : 0 ≤ n) (hr : n < 2 ^ (8 * m)) (hx : n ≤ 9223372036854775807) (hl : L.length ≤ 1000000) :
    Calls Tryz.prog 62 #[v, .int .i64 n, .int .i64 m] w fun e w' => ∃ v', e = .returned v' ∧ OwnL 5 w' B v' (L ++ nbl n m) ∧ w.grownBy w' v.ownBlock := by
  obtain ⟨i0, hi, hz0, hz1, hz2⟩ := info_parts Tryz.infoB
  have H : Hid (OwnL 5 w B v L) := h
  have HR : Hid (n < 2 ^ (8 * m)) := hr
  clear h hr
  go_enter Tryz.func62, Tryz.ntmps62
  go_wp2_with fail
  refine (numberBytes_yes n m w h1 h6 hn HR.out hx).mono ?_
  rintro e w1 ⟨rfl, hf⟩
  have F : Hid (Fill w w1 m m (nb n m)) := hf
  clear hf
  have hz := F.out.1.size
  have O : Hid (w1.ownsRow B 5 1 v L.length (L.map (Value.int .u8))) := by
    have h0 := H.out
    rcases hv : v.ownBlock with _ | q
    · exact World.ownsRow.kept h0 (below_grownBy F.out.1 none) (.inl hv)
    · exact World.ownsRow.kept h0 (below_grownBy F.out.1 none) (.inr (by rw [hv]; simp))
  go_wp2_with (at_builtin; refine wpList_append_own _ rfl _ _ 22 rfl B 5 i0 (.int .u8 0) 1 1 Tryz.underlying22 hi hz0 hz1 hz2 rfl (by decide) v L.length (L.map (Value.int .u8)) rfl O.out ⟨w.heap.size, 0, none⟩ m m ((List.range m).map fun i => Value.int .u8 (nb n m i)) rfl (by simp) (news_of_fill F.out) ?c2 ?c3 ?c4 ?c5 ?_)
  case c2 => intro u hu; obtain ⟨j, -, rfl⟩ := List.mem_map.1 hu; rfl
  case c3 => unfold maxLen; omega
  case c4 => omega
  case c5 => omega
  intro v' w2 ho hg _
  have X : Hid (OwnL 5 w2 B v' (L ++ nbl n m) ∧ w.grownBy w2 v.ownBlock) := by
    refine ⟨?_, gr_trans (below_grownBy F.out.1 _) hg⟩
    unfold OwnL
    have e : (L ++ nbl n m).length = L.length + m := by simp [nbl_len]
    rw [e, List.map_append]
    simpa [nbl, List.map_map, Function.comp_def] using ho
  clear ho hg
  go_wp2
  go_ret
  exact ⟨v', rfl, X.out⟩

/-- A part of a list laid anew. -/
def over (L : List Int) (at_ : Nat) (M : List Int) : List Int := L.take at_ ++ (M ++ L.drop (at_ + M.length))
theorem OwnL.form {e : TypeId} {w : World} {B : Nat} {v : Value} {L : List Int} (h : OwnL e w B v L) (h0 : 0 < L.length) :
    ∃ g cap cur, v = .slice (some ⟨g, 0, none⟩) L.length cap ∧ B ≤ g ∧ w.heap[g]? = some (.cells cur e (0, 0)) ∧ L.length ≤ cap ∧ cap ≤ maxLen ∧ cur.size = cap ∧ cur.toList.take L.length = L.map (Value.int .u8) := by
  rcases h.2 with ⟨h1, h2⟩ | ⟨g, cap, cur, h1, h2, h3, h4, h5, h6, h7⟩
  · omega
  · exact ⟨g, cap, cur, h1, h2, h3, h4, h5, by simpa using h6, by simpa using h7⟩

end Go.Proofs.YtnlepjcjakghcaaGreatDoor

namespace Go.Proofs.YtnlepjcjakghcaaGreatDoor
open Go.RowKit Go.PlainAid
set_option linter.unusedVariables false
set_option maxRecDepth 20000

/-- A box holds these. -/
def Boxed (w : World) (q : Nat) (cs : List Value) : Prop := ∀ i v, cs[i]? = some v → w.cell? ⟨q, i, none⟩ = some v
theorem Boxed.new (w : World) (cs : List Value) (t : TypeId) : Boxed (w.alloc (.cells cs.toArray t)) w.heap.size cs := by
  intro i v h
  rw [World.cell?_alloc_new]
  simpa using h
theorem keep_below {B : Nat} {w wx w' : World} (h : Below B w wx) (hB : B < wx.heap.size) (b : Below wx.heap.size wx w') : Below B w w' := h.trans (b.mono (by omega))
theorem news_row {w : World} {q : Nat} {M : List Int} (h : Boxed w q (M.map (Value.int .u8))) : ∀ j u, (M.map (Value.int .u8))[j]? = some u → w.cell? ((⟨q, 0, none⟩ : Addr).add j) = some u := by
  intro j u hu
  have e : (⟨q, 0, none⟩ : Addr).add j = ⟨q, j, none⟩ := by unfold Addr.add; split <;> simp_all
  rw [e]
  exact h j u hu

/-- What an append leaves: the longer row, and all that lies below it. -/
def Laid (w w' : World) (B : Nat) (v' : Value) (L : List Int) : Prop := OwnL 5 w' B v' L ∧ Below B w w'
theorem Laid.own {w w' : World} {B : Nat} {v' : Value} {L : List Int} (h : Laid w w' B v' L) : OwnL 5 w' B v' L := h.1
theorem Laid.below {w w' : World} {B : Nat} {v' : Value} {L : List Int} (h : Laid w w' B v' L) : Below B w w' := h.2

theorem grown_below {w w' : World} {B : Nat} {v : Value} {L : List Int} (h : OwnL 5 w B v L) (hB : B ≤ w.heap.size) (hg : w.grownBy w' v.ownBlock) : Below B w w' :=
  (Below.refl B w).grown hg hB (fun k hk => (World.ownsRow.lt h k hk).1)

theorem wpl_app (w : World) {ops : Array Oper} {rest : List Oper} {o : Oper} {a : Act} {Q : Exit → Act → World → Prop} (hgd : o.guard = none) (s x : Operand)
    (ho : o.op = .call { callee := .builtin .append, args := #[s, x], argTypes := #[22, 22] })
    (B : Nat) (v : Value) (L : List Int) (hs : a.eval s = v) (hown : OwnL 5 w B v L)
    (ad : Addr) (m c : Nat) (M : List Int) (hx : a.eval x = .slice (some ad) m c) (hl : M.length = m) (hnews : ∀ j u, (M.map (Value.int .u8))[j]? = some u → w.cell? (ad.add j) = some u)
    (hlen : L.length + m ≤ 1000000) (hB : B ≤ w.heap.size)
    (h : ∀ v' w', Hid (Laid w w' B v' (L ++ M)) → wpList Tryz.prog ops Q rest (a.put o.dst v') w') : wpList Tryz.prog ops Q (o :: rest) a w := by
  obtain ⟨i0, hi, hz0, hz1, hz2⟩ := info_parts Tryz.infoB
  refine wpList_append_own w hgd s x 22 ho B 5 i0 (.int .u8 0) 1 1 Tryz.underlying22 hi hz0 hz1 hz2 rfl (by decide) v L.length (L.map (Value.int .u8)) hs hown ad m c (M.map (Value.int .u8)) hx (by simp [hl]) hnews
    (by intro u hu; obtain ⟨j, -, rfl⟩ := List.mem_map.1 hu; rfl) (by unfold maxLen; omega) (by omega) hB ?_
  intro v' w' h1 h2 _
  exact h v' w' ⟨OwnL.more (by rw [hl]; exact h1), grown_below hown hB h2⟩

theorem addNum (v : Value) (L : List Int) (n : Int) (m : Nat) (w : World) (B : Nat) (h : OwnL 5 w B v L) (hB : B ≤ w.heap.size) (h1 : 1 ≤ m) (h6 : m ≤ 6) (hn : 0 ≤ n) (hr : n < 2 ^ (8 * m)) (hx : n ≤ 9223372036854775807) (hl : L.length ≤ 1000000) :
    Calls Tryz.prog 62 #[v, .int .i64 n, .int .i64 m] w fun e w' => ∃ v', e = .returned v' ∧ Hid (Laid w w' B v' (L ++ nbl n m)) :=
  (addNumber_any v L n m w B h hB h1 h6 hn hr hx hl).mono fun e w' ⟨v', he, ho, hg⟩ => ⟨v', he, ho, grown_below h hB hg⟩
/-- 'make([]byte, 0, c)'. -/
theorem make_room (c : Nat) (hc : c ≤ 1000000) : ∃ MC : Array Value, ∀ w : World,
    (Instr.makeSlice 22 (.int .i64 0) (.int .i64 (c : Int))).run Tryz.prog w = .ok (.slice (some ⟨w.heap.size, 0, none⟩) 0 c) (w.alloc (.cells MC 5)) ∧
      OwnL 5 (w.alloc (.cells MC 5)) w.heap.size (.slice (some ⟨w.heap.size, 0, none⟩) 0 c) [] := by
  obtain ⟨i0, hi, hz0, hz1, hz2⟩ := info_parts Tryz.infoB
  refine ⟨madeCells (Value.int .u8 0).cells (c * i0.size), fun w => ⟨?_, ?_⟩⟩
  · have := run_make (P := Tryz.prog) w 22 5 i0 (.int .u8 0) Tryz.underlying22 hi hz0 .i64 .i64 0 c (Int.le_refl _) (by omega) (by rw [hz2]; omega) (by omega)
    simpa using this
  · exact World.ownsRow_made w _ c (Nat.le_refl _) (by unfold maxLen; omega) (by rw [size_madeCells, hz1])

/-- The row that a writer hands back. -/
theorem Laid.writ {w w' : World} {B : Nat} {v : Value} {L : List Int} (h : OwnL 5 w B v L) (hL : ∀ x ∈ L, 0 ≤ x ∧ x ≤ 255) (h0 : 0 < L.length) :
    ∃ g cap, v = .slice (some ⟨g, 0, none⟩) L.length cap ∧ L.length ≤ cap ∧ cap ≤ maxLen ∧ B ≤ g ∧ g < w.heap.size ∧ (∀ i, w.frozen? ⟨g, i, none⟩ = false) ∧ ∀ i, i < L.length → w.cell? ⟨g, i, none⟩ = some (.int .u8 (L.getD i 0)) := by
  obtain ⟨g, cap, cur, rfl, hB, hg, hcap, hmax, hs, ht⟩ := h.form h0
  refine ⟨g, cap, rfl, hcap, hmax, hB, (World.ownsRow.lt h g rfl).2, fun i => World.ownsRow.frozenAt h i, fun i hi => ?_⟩
  rw [World.ownsRow.cellAt h i (by simpa using hi)]
  simp [hi]
end Go.Proofs.YtnlepjcjakghcaaGreatDoor

namespace Go.Proofs.YtnlepjcjakghcaaGreatDoor
open Go.RowKit Go.PlainAid Go.Proofs.YtnlepjcjakghcaaGreatDoor.Bt Go.Sort
set_option linter.unusedVariables false
set_option maxRecDepth 20000

/-- Whether it is a net. -/
def nB (ip b : Int) : Bool := dec (0 ≤ ip ∧ ip ≤ 4294967295 ∧ 0 ≤ b ∧ b ≤ 32 ∧ ip % netM b = 0)
/-- Whether a net has an address. -/
def hB (ip b x : Int) : Bool := dec (ip / netM b = x / netM b)

theorem netAround_any (ip : Int) (b : Nat) (w : World) (h0 : 0 ≤ ip) (h1 : ip ≤ 4294967295) (hb : b ≤ 32) :
    Calls Tryz.prog 70 #[.int .i64 ip, .int .i64 b] w fun e w' => e = .returned (.agg #[.int .i64 (ip / netM b * netM b), .int .i64 b]) ∧ Grw w w' := by
  have hm := around ip b h0 h1 hb
  generalize ip / netM b * netM b = r at hm ⊢
  go_enter Tryz.func70, Tryz.ntmps70
  go_wp2
  (try simp only [Exit.inBlock, Exit.then])
  refine bodyPost_ret (v := .agg #[.int .i64 r, .int .i64 b]) (by simp [results, Tryz.results70, go_sem]; try rfl) rfl ?_
  exact ⟨rfl, (Grw.refl _).alloc _⟩

/-- Nets compared. -/
theorem eql_net (x0 x1 y0 y1 : Int) (w : World) : (binOp .eql 31 (.agg #[.int .i64 x0, .int .i64 x1]) (.agg #[.int .i64 y0, .int .i64 y1])).run Tryz.prog w = .ok (.bool (decide (x0 = y0 ∧ x1 = y1))) w := by
  have u3 := Tryz.underlying3
  have a3 := Tryz.isAgg3
  have z3 := Tryz.sizeOf3
  have hS : Tryz.prog.underlying 31 = some (.struct (Tryz.prog.fieldsOf 31)) := by kernel_rfl
  have hp : Tryz.prog.stoodInHeld 31 = false := by kernel_rfl
  rw [run_eql_struct, show (10000 : Nat) = 9999 + 1 from rfl, run_equalIn_agg w 9999 31 _ _ hS hp]
  simp only [Program.fieldsOf, Tryz.underlying31]
  go_simp
  by_cases h1 : x0 = y0 <;> by_cases h2 : x1 = y1 <;> simp [h1, h2]

theorem implNetOK_any (ip b : Int) (w : World) :
    Calls Tryz.prog 68 #[.agg #[.int .i64 ip, .int .i64 b]] w fun e w' => e = .returned (.bool (nB ip b)) ∧ Grw w w' := by
  obtain ⟨q, hq⟩ : ∃ q, q = dec (0 ≤ ip ∧ ip ≤ 4294967295) := ⟨_, rfl⟩
  have HA : Hid (∀ w, Calls Tryz.prog 69 #[.int .i64 ip] w fun e w' => e = .returned (.bool q) ∧ w' = w) := fun w => hq ▸ addressOK_any ip w
  by_cases ha : 0 ≤ ip ∧ ip ≤ 4294967295
  · rw [dec_y ha] at hq
    subst hq
    by_cases hb : b < 0
    · have HN : nB ip b = false := dec_n (by omega)
      rw [HN]; clear HN
      go_enter Tryz.func68, Tryz.ntmps68
      go_wp2_with fail
      refine (HA.out _).mono ?_
      rintro e w1 ⟨rfl, hw⟩
      subst hw
      go_wp2
      go_ret
      exact ⟨rfl, (Grw.refl _).alloc _⟩
    obtain ⟨b, rfl⟩ := Int.eq_ofNat_of_zero_le (by omega : 0 ≤ b)
    by_cases hb : 32 < b
    · have HN : nB ip b = false := dec_n (by omega)
      rw [HN]; clear HN
      go_enter Tryz.func68, Tryz.ntmps68
      go_wp2_with fail
      refine (HA.out _).mono ?_
      rintro e w1 ⟨rfl, hw⟩
      subst hw
      go_wp2
      go_ret
      exact ⟨rfl, (Grw.refl _).alloc _⟩
    have e : nB ip b = decide (ip = ip / netM b * netM b ∧ (b : Int) = b) := by
      have := mul_same ip (netM b) (netM_pos b)
      unfold nB dec
      apply decide_eq_decide.2
      constructor
      · rintro ⟨_, _, _, _, h⟩; exact ⟨this.2 h, rfl⟩
      · rintro ⟨h, _⟩; exact ⟨ha.1, ha.2, by omega, by omega, this.1 h⟩
    rw [e]
    clear e
    have HR : Hid (∀ w, Calls Tryz.prog 70 #[.int .i64 ip, .int .i64 b] w fun e w' => e = .returned (.agg #[.int .i64 (ip / netM b * netM b), .int .i64 b]) ∧ Grw w w') := fun w => netAround_any ip b w ha.1 ha.2 (by omega)
    generalize ip / netM b * netM b = r at HR ⊢
    have he : ∀ w, (binOp .eql 31 (.agg #[.int .i64 ip, .int .i64 b]) (.agg #[.int .i64 r, .int .i64 b])).run Tryz.prog w = .ok (.bool (decide (ip = r ∧ (b : Int) = b))) w := fun w => eql_net ip b r b w
    generalize decide (ip = r ∧ (b : Int) = b) = q at he ⊢
    go_enter Tryz.func68, Tryz.ntmps68
    go_wp2_with fail
    refine (HA.out _).mono ?_
    rintro e w1 ⟨rfl, hw⟩
    subst hw
    go_wp2_with fail
    have hmix : Tryz.prog.follows .mixedOrders = true := by kernel_rfl
    have k0 : ∀ n os, (grow ((w.alloc (.cells #[.int .i64 ip, .int .i64 b] 31)).drewN n) os).cell? ⟨w.heap.size, 0, none⟩ = some (.int .i64 ip) := fun n os => cell_grown (by simp) (by simp) n os
    have k1 : ∀ n os, (grow ((w.alloc (.cells #[.int .i64 ip, .int .i64 b] 31)).drewN n) os).cell? ⟨w.heap.size, 1, none⟩ = some (.int .i64 b) := fun n os => cell_grown (by simp) (by simp) n os
    refine wp_region_quiet_grown (by assumption) (by kernel_rfl) ?_
    repeat (go_big_quiet_step (first | fail | (go_at_call 70; exact Calls.grown_of (HR.out _))))
    refine wpQuiet_nil ?_
    intro _ hw'
    obtain ⟨⟨nq, osq⟩, hw''⟩ := hw'
    subst hw''
    go_wp2
    go_ret
    exact ⟨rfl, ((Grw.refl _).alloc _).trans ⟨nq, osq, rfl⟩⟩
  · have HN : nB ip b = false := dec_n (by omega)
    rw [HN]; clear HN
    rw [dec_n ha] at hq
    subst hq
    go_enter Tryz.func68, Tryz.ntmps68
    go_wp2_with fail
    refine (HA.out _).mono ?_
    rintro e w1 ⟨rfl, hw⟩
    subst hw
    go_wp2
    go_ret
    exact ⟨rfl, (Grw.refl _).alloc _⟩

theorem nB_yes {ip b : Int} (h : nB ip b = true) : 0 ≤ ip ∧ ip ≤ 4294967295 ∧ 0 ≤ b ∧ b ≤ 32 ∧ ip % netM b = 0 := by
  unfold nB dec at h
  exact of_decide_eq_true h
/-- What NetHas answers. -/
def nhB (ip b x : Int) : Bool := nB ip b && dec (0 ≤ x ∧ x ≤ 4294967295) && hB ip b x
def nhC (ip b x : Int) : Int := if nB ip b = false then 1 else if dec (0 ≤ x ∧ x ≤ 4294967295) = false then 4 else 0

theorem has_around (ip x : Int) (b : Nat) (h : nB ip b = true) : hB ip b x = decide (ip = x / netM b * netM b ∧ (b : Int) = b) := by
  have := mul_has ip x (netM b) (netM_pos b) (nB_yes h).2.2.2.2
  unfold hB dec
  apply decide_eq_decide.2
  rw [this]
  simp
theorem implNetHas_any (ip b x : Int) (w : World) :
    Calls Tryz.prog 43 #[.agg #[.int .i64 ip, .int .i64 b], .int .i64 x] w fun e w' => e = .returned (.tuple #[.bool (nhB ip b x), .int .i64 (nhC ip b x)]) ∧ Grw w w' := by
  obtain ⟨q, hq⟩ : ∃ q, q = nB ip b := ⟨_, rfl⟩
  have HO : Hid (∀ w, Calls Tryz.prog 68 #[.agg #[.int .i64 ip, .int .i64 b]] w fun e w' => e = .returned (.bool q) ∧ Grw w w') := fun w => hq ▸ implNetOK_any ip b w
  obtain ⟨r, hr⟩ : ∃ r, r = dec (0 ≤ x ∧ x ≤ 4294967295) := ⟨_, rfl⟩
  have HA : Hid (∀ w, Calls Tryz.prog 69 #[.int .i64 x] w fun e w' => e = .returned (.bool r) ∧ w' = w) := fun w => hr ▸ addressOK_any x w
  cases q with
  | false =>
    have e1 : nhB ip b x = false := by unfold nhB; rw [← hq]; rfl
    have e2 : nhC ip b x = 1 := by unfold nhC; rw [← hq]; rfl
    rw [e1, e2]
    clear e1 e2 hq hr
    go_enter Tryz.func43, Tryz.ntmps43
    go_wp2_with fail
    refine (HO.out _).mono ?_
    rintro e w1 ⟨rfl, b1⟩
    have B1 : Hid (Grw w w1) := ((Grw.refl _).alloc _).trans b1
    clear b1
    go_wp2
    go_ret2
    exact ⟨rfl, B1.out⟩
  | true =>
    have hn := nB_yes hq.symm
    cases r with
    | false =>
      have e1 : nhB ip b x = false := by unfold nhB; rw [← hq, ← hr]; rfl
      have e2 : nhC ip b x = 4 := by unfold nhC; rw [← hq, ← hr]; rfl
      rw [e1, e2]
      clear e1 e2 hq hr hn
      go_enter Tryz.func43, Tryz.ntmps43
      go_wp2_with fail
      refine (HO.out _).mono ?_
      rintro e w1 ⟨rfl, b1⟩
      have B1 : Hid (Grw w w1) := ((Grw.refl _).alloc _).trans b1
      clear b1
      go_wp2_with fail
      refine (HA.out _).mono ?_
      rintro e w2 ⟨rfl, hw⟩
      subst hw
      go_wp2
      go_ret2
      exact ⟨rfl, B1.out⟩
    | true =>
      obtain ⟨b, rfl⟩ := Int.eq_ofNat_of_zero_le hn.2.2.1
      have hx : 0 ≤ x ∧ x ≤ 4294967295 := of_decide_eq_true hr.symm
      have e1 : nhB ip b x = decide (ip = x / netM b * netM b ∧ (b : Int) = b) := by unfold nhB; rw [← hq, ← hr, ← has_around ip x b hq.symm]; rfl
      have e2 : nhC ip b x = 0 := by unfold nhC; rw [← hq, ← hr]; rfl
      rw [e1, e2]
      have HR : Hid (∀ w, Calls Tryz.prog 70 #[.int .i64 x, .int .i64 b] w fun e w' => e = .returned (.agg #[.int .i64 (x / netM b * netM b), .int .i64 b]) ∧ Grw w w') := fun w => netAround_any x b w hx.1 hx.2 (by omega)
      clear e1 e2 hq hr hn
      generalize x / netM b * netM b = r at HR ⊢
      have he : ∀ w, (binOp .eql 31 (.agg #[.int .i64 ip, .int .i64 b]) (.agg #[.int .i64 r, .int .i64 b])).run Tryz.prog w = .ok (.bool (decide (ip = r ∧ (b : Int) = b))) w := fun w => eql_net ip b r b w
      generalize decide (ip = r ∧ (b : Int) = b) = q at he ⊢
      have hmix : Tryz.prog.follows .mixedOrders = true := by kernel_rfl
      go_enter Tryz.func43, Tryz.ntmps43
      go_wp2_with fail
      refine (HO.out _).mono ?_
      rintro e w1 ⟨rfl, b1⟩
      have B1 : Hid (Grw w w1) := ((Grw.refl _).alloc _).trans b1
      have q0 : w1.cell? ⟨w.heap.size, 0, none⟩ = some (.int .i64 ip) := by rw [b1.below.cell (by simp)]; simp
      have q1 : w1.cell? ⟨w.heap.size, 1, none⟩ = some (.int .i64 b) := by rw [b1.below.cell (by simp)]; simp
      clear b1
      go_wp2_with fail
      refine (HA.out _).mono ?_
      rintro e w2 ⟨rfl, hw⟩
      subst hw
      have hl : w.heap.size < w2.heap.size := World.block_lt_of_cell? w2 _ q0
      have k0 : ∀ n os, (grow (w2.drewN n) os).cell? ⟨w.heap.size, 0, none⟩ = some (.int .i64 ip) := fun n os => cell_grown (by exact hl) q0 n os
      have k1 : ∀ n os, (grow (w2.drewN n) os).cell? ⟨w.heap.size, 1, none⟩ = some (.int .i64 b) := fun n os => cell_grown (by exact hl) q1 n os
      go_wp2_with fail
      refine wp_region_quiet_grown (by assumption) (by kernel_rfl) ?_
      repeat (go_big_quiet_step (first | fail | (go_at_call 70; exact Calls.grown_of (HR.out _))))
      refine wpQuiet_nil ?_
      intro _ hw'
      obtain ⟨⟨nq, osq⟩, hw''⟩ := hw'
      subst hw''
      go_wp2
      go_ret2
      exact ⟨rfl, B1.out.trans ⟨nq, osq, rfl⟩⟩
end Go.Proofs.YtnlepjcjakghcaaGreatDoor

namespace Go.Proofs.YtnlepjcjakghcaaGreatDoor
open Go.RowKit Go.PlainAid Go.Proofs.YtnlepjcjakghcaaGreatDoor.Bt Go.Sort
set_option linter.unusedVariables false
set_option maxRecDepth 20000

/-- Ports; a proto; a rule. -/
def rgB (lo hi : Int) : Bool := dec (0 ≤ lo ∧ lo ≤ 65535) && dec (lo ≤ hi ∧ hi ≤ 65535)
def prB (p : Int) : Bool := dec (p = 0 ∨ p = 1 ∨ p = 6 ∨ p = 17)
def plB (ip b lo hi : Int) : Bool := nB ip b && rgB lo hi
def ruB (r : RuleV) : Bool := prB r.p && plB r.ip r.b r.lo r.hi
theorem rg_ports (lo hi : Int) : (dec (0 ≤ lo ∧ lo ≤ 65535) && (dec (0 ≤ hi ∧ hi ≤ 65535) && decide (lo ≤ hi))) = rgB lo hi := by
  unfold rgB dec
  rw [Bool.eq_iff_iff]
  simp
  omega

theorem placeOf_any (p ip b lo hi : Int) (al : Bool) (w : World) :
    Calls Tryz.prog 114 #[.agg #[.int .i64 p, .int .i64 ip, .int .i64 b, .int .i64 lo, .int .i64 hi, .bool al]] w fun e w' => e = .returned (.agg #[.int .i64 ip, .int .i64 b, .int .i64 lo, .int .i64 hi]) ∧ Grw w w' := by
  go_enter Tryz.func114, Tryz.ntmps114
  go_wp2
  (try simp only [Exit.inBlock, Exit.then])
  refine bodyPost_ret (v := .agg #[.int .i64 ip, .int .i64 b, .int .i64 lo, .int .i64 hi]) (by simp [results, Tryz.results114, go_sem]; try rfl) rfl ?_
  exact ⟨rfl, ((Grw.refl _).alloc _).alloc _⟩

set_option maxHeartbeats 1000000 in
theorem placeOK_any (ip b lo hi : Int) (w : World) (hl : lo ≤ 9223372036854775807) (hh : hi ≤ 9223372036854775807) :
    Calls Tryz.prog 100 #[.agg #[.int .i64 ip, .int .i64 b, .int .i64 lo, .int .i64 hi]] w fun e w' => e = .returned (.bool (plB ip b lo hi)) ∧ Grw w w' := by
  obtain ⟨q, hq⟩ : ∃ q, q = nB ip b := ⟨_, rfl⟩
  obtain ⟨r, hr⟩ : ∃ r, r = dec (0 ≤ lo ∧ lo ≤ 65535) := ⟨_, rfl⟩
  obtain ⟨s, hs⟩ : ∃ s, s = dec (0 ≤ hi ∧ hi ≤ 65535) := ⟨_, rfl⟩
  obtain ⟨u, hu⟩ : ∃ u, u = decide (lo ≤ hi) := ⟨_, rfl⟩
  have HA : Hid (∀ w, Calls Tryz.prog 68 #[.agg #[.int .i64 ip, .int .i64 b]] w fun e w' => e = .returned (.bool q) ∧ Grw w w') := fun w => hq ▸ implNetOK_any ip b w
  have HB : Hid (∀ w, Calls Tryz.prog 111 #[.int .i64 lo] w fun e w' => e = .returned (.bool r) ∧ w' = w) := fun w => hr ▸ portOK_any lo w hl
  have HC : Hid (∀ w, Calls Tryz.prog 111 #[.int .i64 hi] w fun e w' => e = .returned (.bool s) ∧ w' = w) := fun w => hs ▸ portOK_any hi w hh
  have E : Hid (plB ip b lo hi = (q && (r && (s && u)))) := by
    rw [hq, hr, hs, hu, rg_ports]
    rfl
  have hu' : decide (lo ≤ hi) = u := hu.symm
  clear hq hr hs hu
  go_enter Tryz.func100, Tryz.ntmps100
  go_wp2_with fail
  refine (HA.out _).mono ?_
  rintro e wx1 ⟨rfl, bx⟩
  have k0 : World.cell? _ ⟨w.heap.size, 0, none⟩ = some (.int .i64 ip) := bx.keep (a := ⟨w.heap.size, 0, none⟩) (v := .int .i64 ip) (by simp [go_sem])
  have k1 : World.cell? _ ⟨w.heap.size, 1, none⟩ = some (.int .i64 b) := bx.keep (a := ⟨w.heap.size, 1, none⟩) (v := .int .i64 b) (by simp [go_sem])
  have k2 : World.cell? _ ⟨w.heap.size, 2, none⟩ = some (.int .i64 lo) := bx.keep (a := ⟨w.heap.size, 2, none⟩) (v := .int .i64 lo) (by simp [go_sem])
  have k3 : World.cell? _ ⟨w.heap.size, 3, none⟩ = some (.int .i64 hi) := bx.keep (a := ⟨w.heap.size, 3, none⟩) (v := .int .i64 hi) (by simp [go_sem])
  have BX : Hid (Grw w _) := ((Grw.refl _).alloc _).trans bx
  clear bx
  cases q with
  | false =>
    go_wp2
    go_ret
    exact ⟨by rw [E.out]; rfl, BX.out⟩
  | true =>
    go_wp2_with fail
    refine (HB.out _).mono ?_
    rintro e wx2 ⟨rfl, rfl⟩
    cases r with
    | false =>
      go_wp2
      go_ret
      exact ⟨by rw [E.out]; rfl, BX.out⟩
    | true =>
      go_wp2_with fail
      refine (HC.out _).mono ?_
      rintro e wx3 ⟨rfl, rfl⟩
      cases s with
      | false =>
        go_wp2
        go_ret
        exact ⟨by rw [E.out]; rfl, BX.out⟩
      | true =>
        go_wp2
        go_ret
        exact ⟨by rw [E.out]; rfl, BX.out⟩

/-- The word of a proto. -/
def pwS (p : Int) : ByteArray := if p = 0 then ⟨#[97, 110, 121]⟩ else if p = 1 then ⟨#[105, 99, 109, 112]⟩ else if p = 6 then ⟨#[116, 99, 112]⟩ else if p = 17 then ⟨#[117, 100, 112]⟩ else ⟨#[]⟩
theorem protoWord_any (p : Int) (w : World) :
    Calls Tryz.prog 113 #[.int .i64 p] w fun e w' => e = .returned (.string (pwS p)) ∧ w' = w := by
  by_cases h0 : p = 0
  · subst h0
    go_enter Tryz.func113, Tryz.ntmps113
    go_wp2
    go_ret
    exact ⟨rfl, rfl⟩
  by_cases h1 : p = 1
  · subst h1
    go_enter Tryz.func113, Tryz.ntmps113
    go_wp2
    go_ret
    exact ⟨rfl, rfl⟩
  by_cases h2 : p = 6
  · subst h2
    go_enter Tryz.func113, Tryz.ntmps113
    go_wp2
    go_ret
    exact ⟨rfl, rfl⟩
  by_cases h3 : p = 17
  · subst h3
    go_enter Tryz.func113, Tryz.ntmps113
    go_wp2
    go_ret
    exact ⟨rfl, rfl⟩
  have e : pwS p = ⟨#[]⟩ := by unfold pwS; rw [if_neg h0, if_neg h1, if_neg h2, if_neg h3]
  rw [e]
  have n0 : (p == 0) = false := by simp; omega
  have n1 : (p == 1) = false := by simp; omega
  have n2 : (p == 6) = false := by simp; omega
  have n3 : (p == 17) = false := by simp; omega
  go_enter Tryz.func113, Tryz.ntmps113
  go_wp2
  go_ret
  exact ⟨rfl, rfl⟩

set_option maxHeartbeats 1000000 in
theorem implRuleOK_any (p ip b lo hi : Int) (al : Bool) (w : World) (hl : lo ≤ 9223372036854775807) (hh : hi ≤ 9223372036854775807) :
    Calls Tryz.prog 112 #[.agg #[.int .i64 p, .int .i64 ip, .int .i64 b, .int .i64 lo, .int .i64 hi, .bool al]] w fun e w' => e = .returned (.bool (ruB ⟨p, ip, b, lo, hi, al⟩)) ∧ Grw w w' := by
  obtain ⟨r, hr⟩ : ∃ r, r = plB ip b lo hi := ⟨_, rfl⟩
  have HP := fun w => protoWord_any p w
  have HA : Hid (∀ w, Calls Tryz.prog 113 #[.int .i64 p] w fun e w' => e = .returned (.string (pwS p)) ∧ w' = w) := fun w => protoWord_any p w
  have HB : Hid (∀ w, Calls Tryz.prog 114 #[.agg #[.int .i64 p, .int .i64 ip, .int .i64 b, .int .i64 lo, .int .i64 hi, .bool al]] w fun e w' => e = .returned (.agg #[.int .i64 ip, .int .i64 b, .int .i64 lo, .int .i64 hi]) ∧ Grw w w') := fun w => placeOf_any p ip b lo hi al w
  have HC : Hid (∀ w, Calls Tryz.prog 100 #[.agg #[.int .i64 ip, .int .i64 b, .int .i64 lo, .int .i64 hi]] w fun e w' => e = .returned (.bool r) ∧ Grw w w') := fun w => hr ▸ placeOK_any ip b lo hi w hl hh
  have E : Hid (ruB ⟨p, ip, b, lo, hi, al⟩ = (prB p && r)) := by rw [hr]; rfl
  clear hr HP
  generalize ruB ⟨p, ip, b, lo, hi, al⟩ = z at E ⊢
  by_cases hp : p = 0 ∨ p = 1 ∨ p = 6 ∨ p = 17
  · have e1 : prB p = true := dec_y hp
    rw [e1] at E
    have hS : ((pwS p).toList == []) = false := by rcases hp with rfl | rfl | rfl | rfl <;> simp [pwS]
    generalize pwS p = S at HA hS
    go_enter Tryz.func112, Tryz.ntmps112
    go_wp2_with fail
    refine (HA.out _).mono ?_
    rintro e wx1 ⟨rfl, rfl⟩
    go_wp2_with fail
    refine (HB.out _).mono ?_
    rintro e wx2 ⟨rfl, bx⟩
    have k0 : World.cell? _ ⟨w.heap.size, 0, none⟩ = some (.int .i64 p) := bx.keep (a := ⟨w.heap.size, 0, none⟩) (v := .int .i64 p) (by simp [go_sem])
    have k1 : World.cell? _ ⟨w.heap.size, 1, none⟩ = some (.int .i64 ip) := bx.keep (a := ⟨w.heap.size, 1, none⟩) (v := .int .i64 ip) (by simp [go_sem])
    have k2 : World.cell? _ ⟨w.heap.size, 2, none⟩ = some (.int .i64 b) := bx.keep (a := ⟨w.heap.size, 2, none⟩) (v := .int .i64 b) (by simp [go_sem])
    have k3 : World.cell? _ ⟨w.heap.size, 3, none⟩ = some (.int .i64 lo) := bx.keep (a := ⟨w.heap.size, 3, none⟩) (v := .int .i64 lo) (by simp [go_sem])
    have k4 : World.cell? _ ⟨w.heap.size, 4, none⟩ = some (.int .i64 hi) := bx.keep (a := ⟨w.heap.size, 4, none⟩) (v := .int .i64 hi) (by simp [go_sem])
    have k5 : World.cell? _ ⟨w.heap.size, 5, none⟩ = some (.bool al) := bx.keep (a := ⟨w.heap.size, 5, none⟩) (v := .bool al) (by simp [go_sem])
    have BX : Hid (Grw w _) := ((Grw.refl _).alloc _).trans bx
    clear bx
    go_wp2_with fail
    refine (HC.out _).mono ?_
    rintro e wx3 ⟨rfl, bx⟩
    replace k0 := bx.keep k0
    replace k1 := bx.keep k1
    replace k2 := bx.keep k2
    replace k3 := bx.keep k3
    replace k4 := bx.keep k4
    replace k5 := bx.keep k5
    replace BX : Hid (Grw w _) := BX.out.trans bx
    clear bx
    go_wp2
    go_ret
    exact ⟨by rw [E.out]; rfl, BX.out⟩
  · have e1 : prB p = false := dec_n hp
    rw [e1] at E
    have e : pwS p = ⟨#[]⟩ := by unfold pwS; rw [if_neg (by omega), if_neg (by omega), if_neg (by omega), if_neg (by omega)]
    rw [e] at HA
    go_enter Tryz.func112, Tryz.ntmps112
    go_wp2_with fail
    refine (HA.out _).mono ?_
    rintro e wx1 ⟨rfl, rfl⟩
    go_wp2
    go_ret
    exact ⟨by rw [E.out]; rfl, (Grw.refl _).alloc _⟩

end Go.Proofs.YtnlepjcjakghcaaGreatDoor

namespace Go.Proofs.YtnlepjcjakghcaaGreatDoor
open Go.RowKit Go.PlainAid
set_option linter.unusedVariables false

def letB (c : Int) : Bool := decide ((97 ≤ c ∧ c ≤ 122) ∨ (65 ≤ c ∧ c ≤ 90) ∨ c = 95)
def digB (c : Int) : Bool := decide (48 ≤ c ∧ c ≤ 57)

theorem ret_bool {a b : Bool} (h : a = b) : Ending.returned (.bool a) = .returned (.bool b) := by rw [h]

theorem let_cases (c : Int) : (c < 65 ∧ letB c = false) ∨ (65 ≤ c ∧ c ≤ 90 ∧ letB c = true) ∨ (90 < c ∧ c < 95 ∧ letB c = false) ∨ (c = 95 ∧ letB c = true) ∨ (95 < c ∧ c < 97 ∧ letB c = false) ∨ (97 ≤ c ∧ c ≤ 122 ∧ letB c = true) ∨ (122 < c ∧ letB c = false) := by
  unfold letB; simp; omega
theorem dig_cases (c : Int) : (c < 48 ∧ digB c = false) ∨ (48 ≤ c ∧ c ≤ 57 ∧ digB c = true) ∨ (57 < c ∧ digB c = false) := by
  unfold digB; simp; omega
theorem dig_not_let (c : Int) (h : digB c = true) : letB c = false := by
  unfold digB at h; unfold letB; simp at h ⊢; omega

theorem isDigit_any (c : Int) (w : World) : Calls Tryz.prog 56 #[.int .u8 c] w fun e w' => e = .returned (.bool (digB c)) ∧ w' = w := by
  rcases dig_cases c with ⟨h1, h2⟩ | ⟨h1, h3, h2⟩ | ⟨h1, h2⟩
  all_goals
    have H : Hid (digB c = _) := h2
    clear h2
    go_enter Tryz.func56, Tryz.ntmps56
    go_wp2
    go_ret
    exact ⟨ret_bool (Eq.trans (by first | rfl | (simp; omega)) H.out.symm), rfl⟩
theorem l00Digit_any (c : Int) (w : World) : Calls Tryz.prog 82 #[.int .u8 c] w fun e w' => e = .returned (.bool (digB c)) ∧ w' = w := by
  rcases dig_cases c with ⟨h1, h2⟩ | ⟨h1, h3, h2⟩ | ⟨h1, h2⟩
  all_goals
    have H : Hid (digB c = _) := h2
    clear h2
    go_enter Tryz.func82, Tryz.ntmps82
    go_wp2
    go_ret
    exact ⟨ret_bool (Eq.trans (by first | rfl | (simp; omega)) H.out.symm), rfl⟩
theorem isLetter_any (c : Int) (w : World) : Calls Tryz.prog 57 #[.int .u8 c] w fun e w' => e = .returned (.bool (letB c)) ∧ w' = w := by
  rcases let_cases c with ⟨h1, h2⟩ | ⟨h1, h3, h2⟩ | ⟨h1, h3, h2⟩ | ⟨rfl, h2⟩ | ⟨h1, h3, h2⟩ | ⟨h1, h3, h2⟩ | ⟨h1, h2⟩
  all_goals
    have H : Hid (letB _ = _) := h2
    clear h2
    go_enter Tryz.func57, Tryz.ntmps57
    go_wp2
    go_ret
    exact ⟨ret_bool (Eq.trans (by first | rfl | (simp; omega)) H.out.symm), rfl⟩
theorem l00Letter_any (c : Int) (w : World) : Calls Tryz.prog 81 #[.int .u8 c] w fun e w' => e = .returned (.bool (letB c)) ∧ w' = w := by
  rcases let_cases c with ⟨h1, h2⟩ | ⟨h1, h3, h2⟩ | ⟨h1, h3, h2⟩ | ⟨rfl, h2⟩ | ⟨h1, h3, h2⟩ | ⟨h1, h3, h2⟩ | ⟨h1, h2⟩
  all_goals
    have H : Hid (letB _ = _) := h2
    clear h2
    go_enter Tryz.func81, Tryz.ntmps81
    go_wp2
    go_ret
    exact ⟨ret_bool (Eq.trans (by first | rfl | (simp; omega)) H.out.symm), rfl⟩

/-- A name: 1 to 40 bytes, a letter, then letters and digits. -/
def nameB (f : Nat → Int) (n : Nat) : Bool := decide (1 ≤ n ∧ n ≤ 40 ∧ letB (f 0) = true ∧ ∀ j, j < n → letB (f j) = true ∨ digB (f j) = true)

theorem name_no_len (f : Nat → Int) (n : Nat) (h : n < 1 ∨ 40 < n) : nameB f n = false := by unfold nameB; rw [decide_eq_false_iff_not]; omega
theorem name_no_let (f : Nat → Int) (n : Nat) (h : letB (f 0) = false) : nameB f n = false := by unfold nameB; rw [decide_eq_false_iff_not]; simp [h]
theorem name_no_at (f : Nat → Int) (n k : Nat) (hk : k < n) (h : letB (f k) = false) (h' : digB (f k) = false) : nameB f n = false := by
  unfold nameB; rw [decide_eq_false_iff_not]; rintro ⟨_, _, _, h4⟩; have := h4 k hk; simp [h, h'] at this
theorem name_yes (f : Nat → Int) (n : Nat) (h0 : 1 ≤ n) (h1 : n ≤ 40) (h2 : letB (f 0) = true) (h : ∀ j, j < n → letB (f j) = true ∨ digB (f j) = true) : nameB f n = true := by
  unfold nameB; rw [decide_eq_true_iff]; exact ⟨h0, h1, h2, h⟩

theorem all_step {f : Nat → Int} {k : Nat} (h : ∀ j, j < k → letB (f j) = true ∨ digB (f j) = true) (hk : letB (f k) = true ∨ digB (f k) = true) : ∀ j, j < k + 1 → letB (f j) = true ∨ digB (f j) = true := by
  intro j hj
  by_cases e : j = k
  · subst e; exact hk
  · exact h j (by omega)

set_option maxHeartbeats 400000 in
theorem nameOK_any (s : ByteArray) (w : World) (hs : s.size ≤ 1048576) :
    Calls Tryz.prog 33 #[.string s] w fun e w' => e = .returned (.bool (nameB (bt s) s.size)) ∧ w' = w := by
  have hb := get_bt s
  by_cases h1 : s.size < 1
  · have hz : s.size = 0 := by omega
    go_enter Tryz.func33, Tryz.ntmps33
    go_wp2
    go_ret
    exact ⟨ret_bool (name_no_len _ _ (by omega)).symm, rfl⟩
  by_cases h40 : 40 < s.size
  · go_enter Tryz.func33, Tryz.ntmps33
    go_wp2
    go_ret
    exact ⟨ret_bool (name_no_len _ _ (by omega)).symm, rfl⟩
  by_cases hd : digB (bt s 0) = true
  · go_enter Tryz.func33, Tryz.ntmps33
    go_wp2_with (go_at_call 56; refine (isDigit_any _ _).mono ?_; rintro e w' ⟨rfl, rfl⟩)
    go_ret
    exact ⟨ret_bool (name_no_let _ _ (dig_not_let _ hd)).symm, rfl⟩
  simp only [Bool.not_eq_true] at hd
  have b1 : decide ((s.size : Int) < 1) = false := by simp; omega
  have b2 : decide (40 < (s.size : Int)) = false := by simp; omega
  go_enter Tryz.func33, Tryz.ntmps33
  go_wp2_with (go_at_call 56; refine (isDigit_any _ _).mono ?_; rintro e w' ⟨rfl, rfl⟩)
  go_loop [19] (fun i => ∃ k : Nat, k ≤ s.size ∧ i = .int .i64 k ∧ ∀ j, j < k → letB (bt s j) = true ∨ digB (bt s j) = true) (fun i => s.size - (intOf i).toNat)
  case atStart => exact ⟨0, Nat.zero_le _, rfl, fun j hj => absurd hj (by omega)⟩
  case round =>
    obtain ⟨k, hk, rfl, hall⟩ := hrel
    have HA : Hid (∀ j, j < k → letB (bt s j) = true ∨ digB (bt s j) = true) := hall
    clear hall
    have HD : Hid (digB (bt s 0) = false) := hd
    clear hd
    by_cases hlt : k < s.size
    · cases hl : letB (bt s k)
      · cases hg : digB (bt s k)
        · go_wp2_with (first | (go_at_call 57; refine (isLetter_any _ _).mono ?_; rintro e w' ⟨rfl, rfl⟩) | (go_at_call 56; refine (isDigit_any _ _).mono ?_; rintro e w' ⟨rfl, rfl⟩))
          go_ret
          exact ⟨ret_bool (name_no_at _ _ k hlt hl hg).symm, rfl⟩
        · go_wp2_with (first | (go_at_call 57; refine (isLetter_any _ _).mono ?_; rintro e w' ⟨rfl, rfl⟩) | (go_at_call 56; refine (isDigit_any _ _).mono ?_; rintro e w' ⟨rfl, rfl⟩))
          go_round
          case rel => exact ⟨k + 1, by omega, by go_num, all_step HA.out (.inr hg)⟩
          case measure => simp [intOf]; omega
      · go_wp2_with (first | (go_at_call 57; refine (isLetter_any _ _).mono ?_; rintro e w' ⟨rfl, rfl⟩) | (go_at_call 56; refine (isDigit_any _ _).mono ?_; rintro e w' ⟨rfl, rfl⟩))
        go_round
        case rel => exact ⟨k + 1, by omega, by go_num, all_step HA.out (.inl hl)⟩
        case measure => simp [intOf]; omega
    · obtain rfl : k = s.size := by omega
      go_wp2
      go_ret
      exact ⟨ret_bool (name_yes _ _ (by omega) (by omega) (by have := HA.out 0 (by omega); have := HD.out; simp_all) HA.out).symm, rfl⟩

set_option maxHeartbeats 400000 in
theorem l00Word_any (s : ByteArray) (w : World) (hs : s.size ≤ 1048576) :
    Calls Tryz.prog 58 #[.string s] w fun e w' => e = .returned (.bool (nameB (bt s) s.size)) ∧ w' = w := by
  have hb := get_bt s
  by_cases h1 : s.size < 1
  · have hz : s.size = 0 := by omega
    go_enter Tryz.func58, Tryz.ntmps58
    go_wp2
    go_ret
    exact ⟨ret_bool (name_no_len _ _ (by omega)).symm, rfl⟩
  by_cases h40 : 40 < s.size
  · go_enter Tryz.func58, Tryz.ntmps58
    go_wp2
    go_ret
    exact ⟨ret_bool (name_no_len _ _ (by omega)).symm, rfl⟩
  cases hd : letB (bt s 0)
  · go_enter Tryz.func58, Tryz.ntmps58
    go_wp2_with (go_at_call 81; refine (l00Letter_any _ _).mono ?_; rintro e w' ⟨rfl, rfl⟩)
    go_ret
    exact ⟨ret_bool (name_no_let _ _ hd).symm, rfl⟩
  have b1 : decide ((s.size : Int) < 1) = false := by simp; omega
  have b2 : decide (40 < (s.size : Int)) = false := by simp; omega
  go_enter Tryz.func58, Tryz.ntmps58
  go_wp2_with (go_at_call 81; refine (l00Letter_any _ _).mono ?_; rintro e w' ⟨rfl, rfl⟩)
  go_loop [3] (fun i => ∃ k : Nat, 1 ≤ k ∧ k ≤ s.size ∧ i = .int .i64 k ∧ ∀ j, j < k → letB (bt s j) = true ∨ digB (bt s j) = true) (fun i => s.size - (intOf i).toNat)
  case atStart => exact ⟨1, Nat.le_refl _, by omega, rfl, fun j hj => by obtain rfl : j = 0 := by omega
                                                                         exact .inl hd⟩
  case round =>
    obtain ⟨k, hk1, hk, rfl, hall⟩ := hrel
    have HA : Hid (∀ j, j < k → letB (bt s j) = true ∨ digB (bt s j) = true) := hall
    clear hall
    have HD : Hid (letB (bt s 0) = true) := hd
    clear hd
    by_cases hlt : k < s.size
    · cases hl : letB (bt s k)
      · cases hg : digB (bt s k)
        · go_wp2_with (first | (go_at_call 81; refine (l00Letter_any _ _).mono ?_; rintro e w' ⟨rfl, rfl⟩) | (go_at_call 82; refine (l00Digit_any _ _).mono ?_; rintro e w' ⟨rfl, rfl⟩))
          go_ret
          exact ⟨ret_bool (name_no_at _ _ k hlt hl hg).symm, rfl⟩
        · go_wp2_with (first | (go_at_call 81; refine (l00Letter_any _ _).mono ?_; rintro e w' ⟨rfl, rfl⟩) | (go_at_call 82; refine (l00Digit_any _ _).mono ?_; rintro e w' ⟨rfl, rfl⟩))
          go_round
          case rel => exact ⟨k + 1, by omega, by omega, by go_num, all_step HA.out (.inr hg)⟩
          case measure => simp [intOf]; omega
      · go_wp2_with (first | (go_at_call 81; refine (l00Letter_any _ _).mono ?_; rintro e w' ⟨rfl, rfl⟩) | (go_at_call 82; refine (l00Digit_any _ _).mono ?_; rintro e w' ⟨rfl, rfl⟩))
        go_round
        case rel => exact ⟨k + 1, by omega, by omega, by go_num, all_step HA.out (.inl hl)⟩
        case measure => simp [intOf]; omega
    · obtain rfl : k = s.size := by omega
      go_wp2
      go_ret
      exact ⟨ret_bool (name_yes _ _ (by omega) (by omega) HD.out HA.out).symm, rfl⟩

theorem specNameOK_any (s : ByteArray) (w : World) (hs : s.size ≤ 1048576) :
    Calls Tryz.prog 36 #[.string s] w fun e w' => e = .returned (.bool (nameB (bt s) s.size)) ∧ w' = w := by
  go_enter Tryz.func36, Tryz.ntmps36
  go_wp2_with (go_at_call 58; refine (l00Word_any _ _ hs).mono ?_; rintro e w' ⟨rfl, rfl⟩)
  go_ret
  exact ⟨rfl, rfl⟩

end Go.Proofs.YtnlepjcjakghcaaGreatDoor

namespace Go.Proofs.YtnlepjcjakghcaaGreatDoor
open Go.RowKit Go.PlainAid Go.Proofs.YtnlepjcjakghcaaGreatDoor.Bt Go.Sort
set_option linter.unusedVariables false
set_option maxRecDepth 20000

/-- A role. -/
def roB (r : RoleV) : Bool := nameB (bt r.nm) r.nm.size && (dec (r.nm.size ≤ 8) && (dec (r.rs.length ≤ 8) && (dec (1 ≤ r.q ∧ r.q ≤ 1000000) && (dec (1 ≤ r.m ∧ r.m ≤ 1000) && (dec (1 ≤ r.i ∧ r.i ≤ 1000) && r.rs.all ruB)))))
theorem all_step2 {α : Type} {f : α → Bool} {xs : List α} {k : Nat} {x : α} (hx : xs[k]? = some x) (h : (xs.take k).all f = true) (hf : f x = true) : (xs.take (k + 1)).all f = true := by
  rw [List.take_add_one, List.all_append, h, hx]
  simp [hf]
theorem all_no {α : Type} {f : α → Bool} {xs : List α} {k : Nat} {x : α} (hx : xs[k]? = some x) (hf : f x = false) : xs.all f = false := by
  rw [List.all_eq_false]
  exact ⟨x, List.mem_of_getElem? hx, by simp [hf]⟩
theorem all_end {α : Type} {f : α → Bool} {xs : List α} {k : Nat} (hk : xs.length = k) (h : (xs.take k).all f = true) : xs.all f = true := by
  rwa [List.take_of_length_le (by omega)] at h
theorem minutesOK_any (n : Int) (w : World) : Calls Tryz.prog 102 #[.int .i64 n] w fun e w' => e = .returned (.bool (dec (1 ≤ n ∧ n ≤ 1000))) ∧ w' = w := by
  by_cases h : 1 ≤ n
  · by_cases h' : n ≤ 1000
    · rw [dec_y ⟨h, h'⟩]
      go_enter Tryz.func102, Tryz.ntmps102
      go_wp2
      go_ret
      exact ⟨rfl, rfl⟩
    · rw [dec_n (fun x => h' x.2)]
      go_enter Tryz.func102, Tryz.ntmps102
      go_wp2
      go_ret
      exact ⟨rfl, rfl⟩
  · rw [dec_n (fun x => h x.1)]
    go_enter Tryz.func102, Tryz.ntmps102
    go_wp2
    go_ret
    exact ⟨rfl, rfl⟩
theorem shortNameOK_any (s : ByteArray) (w : World) (hs : s.size ≤ 1048576) : Calls Tryz.prog 14 #[.string s] w fun e w' => e = .returned (.bool (nameB (bt s) s.size && dec (s.size ≤ 8))) ∧ w' = w := by
  obtain ⟨n, hn⟩ : ∃ n, n = nameB (bt s) s.size := ⟨_, rfl⟩
  have HN : Hid (∀ w, Calls Tryz.prog 33 #[.string s] w fun e w' => e = .returned (.bool n) ∧ w' = w) := fun w => hn ▸ nameOK_any s w hs
  rw [← hn]
  clear hn
  by_cases h8 : s.size ≤ 8
  · rw [dec_y h8, Bool.and_true]
    have h8z : (s.size : Int) ≤ 8 := by omega
    go_enter Tryz.func14, Tryz.ntmps14
    go_wp2_with fail
    refine (HN.out _).mono ?_
    rintro e w1 ⟨rfl, rfl⟩
    go_wp2
    go_ret
    exact ⟨rfl, rfl⟩
  · rw [dec_n h8, Bool.and_false]
    have h8z : ¬ (s.size : Int) ≤ 8 := by omega
    go_enter Tryz.func14, Tryz.ntmps14
    go_wp2
    go_ret
    exact ⟨rfl, rfl⟩

set_option maxHeartbeats 2000000 in
theorem implRoleOK_any (nm : ByteArray) (rs : List RuleV) (q m i : Int) (a : Option Addr) (len cap : Nat) (w : World) (hs : nm.size ≤ 1048576) (h : Rw RuR 6 w a rs) (hl : rs.length = len) (hl2 : len ≤ 1048576) :
    Calls Tryz.prog 101 #[.agg #[.string nm, .slice a len cap, .int .i64 q, .int .i64 m, .int .i64 i]] w fun e w' => e = .returned (.bool (roB ⟨nm, rs, q, m, i⟩)) ∧ Grw w w' := by
  obtain ⟨bn, hbn⟩ : ∃ n, n = nameB (bt nm) nm.size := ⟨_, rfl⟩
  obtain ⟨bq, hbq⟩ : ∃ n, n = dec (1 ≤ q ∧ q ≤ 1000000) := ⟨_, rfl⟩
  obtain ⟨bm, hbm⟩ : ∃ n, n = dec (1 ≤ m ∧ m ≤ 1000) := ⟨_, rfl⟩
  obtain ⟨bi, hbi⟩ : ∃ n, n = dec (1 ≤ i ∧ i ≤ 1000) := ⟨_, rfl⟩
  have E : Hid (roB ⟨nm, rs, q, m, i⟩ = (bn && (dec (nm.size ≤ 8) && (dec (rs.length ≤ 8) && (bq && (bm && (bi && rs.all ruB))))))) := by rw [hbn, hbq, hbm, hbi]; rfl
  generalize roB ⟨nm, rs, q, m, i⟩ = z at E ⊢
  have RW : Hid (Rw RuR 6 w a rs) := h
  clear h
  have HN : Hid (∀ w, Calls Tryz.prog 14 #[.string nm] w fun e w' => e = .returned (.bool (bn && dec (nm.size ≤ 8))) ∧ w' = w) := fun w => hbn ▸ shortNameOK_any nm w hs
  have HM : Hid (∀ w, Calls Tryz.prog 102 #[.int .i64 m] w fun e w' => e = .returned (.bool bm) ∧ w' = w) := fun w => hbm ▸ minutesOK_any m w
  have HI : Hid (∀ w, Calls Tryz.prog 102 #[.int .i64 i] w fun e w' => e = .returned (.bool bi) ∧ w' = w) := fun w => hbi ▸ minutesOK_any i w
  have E2 : Hid (z = ((bn && dec (nm.size ≤ 8)) && (dec (rs.length ≤ 8) && (bq && (bm && (bi && rs.all ruB)))))) := by rw [E.out]; cases bn <;> rfl
  clear E hbn hbm hbi
  have E := E2
  clear E2
  generalize (bn && dec (nm.size ≤ 8)) = bs at E HN
  cases bs with
  | false =>
    go_enter Tryz.func101, Tryz.ntmps101
    go_wp2_with fail
    refine (HN.out _).mono ?_
    rintro e w1 ⟨rfl, rfl⟩
    go_wp2
    go_ret
    exact ⟨by rw [E.out]; simp, (Grw.refl _).alloc _⟩
  | true =>
    by_cases hc : rs.length ≤ 8
    rotate_left
    · rw [dec_n hc] at E
      have hcz : (8 : Int) < (len : Int) := by omega
      go_enter Tryz.func101, Tryz.ntmps101
      go_wp2_with fail
      refine (HN.out _).mono ?_
      rintro e w1 ⟨rfl, rfl⟩
      go_wp2
      go_ret
      exact ⟨by rw [E.out]; simp, (Grw.refl _).alloc _⟩
    rw [dec_y hc] at E
    have hcz : (len : Int) ≤ 8 := by omega
    by_cases hq1 : 1 ≤ q
    rotate_left
    · rw [dec_n (fun x => hq1 x.1)] at hbq
      subst hbq
      go_enter Tryz.func101, Tryz.ntmps101
      go_wp2_with fail
      refine (HN.out _).mono ?_
      rintro e w1 ⟨rfl, rfl⟩
      go_wp2
      go_ret
      exact ⟨by rw [E.out]; simp, (Grw.refl _).alloc _⟩
    by_cases hq2 : q ≤ 1000000
    rotate_left
    · rw [dec_n (fun x => hq2 x.2)] at hbq
      subst hbq
      go_enter Tryz.func101, Tryz.ntmps101
      go_wp2_with fail
      refine (HN.out _).mono ?_
      rintro e w1 ⟨rfl, rfl⟩
      go_wp2
      go_ret
      exact ⟨by rw [E.out]; simp, (Grw.refl _).alloc _⟩
    rw [dec_y ⟨hq1, hq2⟩] at hbq
    subst hbq
    go_enter Tryz.func101, Tryz.ntmps101
    go_wp2_with fail
    refine (HN.out _).mono ?_
    rintro e w1 ⟨rfl, rfl⟩
    go_wp2_with fail
    refine (HM.out _).mono ?_
    rintro e w1 ⟨rfl, rfl⟩
    cases bm with
    | false =>
      go_wp2
      go_ret
      exact ⟨by rw [E.out]; simp, (Grw.refl _).alloc _⟩
    | true =>
      go_wp2_with fail
      refine (HI.out _).mono ?_
      rintro e w1 ⟨rfl, rfl⟩
      cases bi with
      | false =>
        go_wp2
        go_ret
        exact ⟨by rw [E.out]; simp, (Grw.refl _).alloc _⟩
      | true =>
        go_wp2
        go_loopw [38] (fun x wr => ∃ k : Nat, k ≤ len ∧ x = .int .i64 k ∧ Hid ((rs.take k).all ruB = true) ∧ Hid (Grw (w.alloc (.cells #[.string nm, .slice a len cap, .int .i64 q, .int .i64 m, .int .i64 i] 87)) wr)) (fun x _ => len - (intOf x).toNat)
        case atStart => exact ⟨0, Nat.zero_le _, rfl, rfl, Grw.refl _⟩
        case round =>
          obtain ⟨k, hk, rfl, HO, HG⟩ := hrel
          have b1 : wr.cell? ⟨w.heap.size, 1, none⟩ = some (.slice a len cap) := HG.out.keep (by simp)
          by_cases hlt : k < len
          · obtain ⟨x, hx⟩ := at_of hl hlt
            obtain ⟨b, off, vs, rfl, hb, hvl, hR, hc⟩ := RW.out.at RuR.kp (((Grw.refl w).alloc _).trans HG.out).below hx
            obtain ⟨p, ip, bb, lo, hi, al⟩ := x
            obtain ⟨rfl, hlo, hhi⟩ := hR
            have q0 : wr.cell? ⟨b, off + k * 6, none⟩ = some (.int .i64 p) := hc 0 _ rfl
            have q1 : wr.cell? ⟨b, off + k * 6 + 1, none⟩ = some (.int .i64 ip) := hc 1 _ rfl
            have q2 : wr.cell? ⟨b, off + k * 6 + 2, none⟩ = some (.int .i64 bb) := hc 2 _ rfl
            have q3 : wr.cell? ⟨b, off + k * 6 + 3, none⟩ = some (.int .i64 lo) := hc 3 _ rfl
            have q4 : wr.cell? ⟨b, off + k * 6 + 4, none⟩ = some (.int .i64 hi) := hc 4 _ rfl
            have q5 : wr.cell? ⟨b, off + k * 6 + 5, none⟩ = some (.bool al) := hc 5 _ rfl
            have HN : Hid (∀ w, Calls Tryz.prog 112 #[.agg #[.int .i64 p, .int .i64 ip, .int .i64 bb, .int .i64 lo, .int .i64 hi, .bool al]] w fun e w' => e = .returned (.bool (ruB ⟨p, ip, bb, lo, hi, al⟩)) ∧ Grw w w') := fun w => implRuleOK_any _ _ _ _ _ _ w hlo hhi
            have HS : Hid (ruB ⟨p, ip, bb, lo, hi, al⟩ = true → (rs.take (k + 1)).all ruB = true) := fun h => all_step2 hx HO.out h
            have HF : Hid (ruB ⟨p, ip, bb, lo, hi, al⟩ = false → rs.all ruB = false) := fun h => all_no hx h
            generalize ruB ⟨p, ip, bb, lo, hi, al⟩ = r at HN HS HF
            have hltz : (k : Int) < (len : Int) := by omega
            clear hc hvl hx
            go_wp2_with fail
            refine (HN.out _).mono ?_
            rintro e w1 ⟨rfl, g1⟩
            have HG1 : Hid (Grw _ w1) := (HG.out.alloc _).trans g1
            clear q0 q1 q2 q3 q4 q5 HN
            cases r with
            | true =>
              have HS' : Hid ((rs.take (k + 1)).all ruB = true) := HS.out rfl
              clear HS HF g1 HG
              go_wp2
              go_roundw
              case rel => exact ⟨k + 1, by omega, by go_num, HS', HG1⟩
              case measure => simp [intOf]; omega
            | false =>
              have hd : Hid (rs.all ruB = false) := HF.out rfl
              go_wp2
              go_ret
              exact ⟨by rw [E.out, hd.out]; rfl, ((Grw.refl _).alloc _).trans HG1.out⟩
          · obtain rfl : k = len := by omega
            have hd : Hid (rs.all ruB = true) := all_end hl HO.out
            go_wp2
            go_ret
            exact ⟨by rw [E.out, hd.out]; rfl, ((Grw.refl _).alloc _).trans HG.out⟩

end Go.Proofs.YtnlepjcjakghcaaGreatDoor

namespace Go.Proofs.YtnlepjcjakghcaaGreatDoor
open Go.RowKit Go.PlainAid Go.Proofs.YtnlepjcjakghcaaGreatDoor.Bt Go.Sort
set_option linter.unusedVariables false
set_option maxRecDepth 20000

/-- The place of the first that fits, or -1. -/
def fv (f : RuleV → Bool) (rs : List RuleV) : Int := match rs.findIdx? f with | some k => k | none => -1
end Go.Proofs.YtnlepjcjakghcaaGreatDoor
