/- At every gateway and number, SetIsn of the program answers the gateway and the code that its specification answers, it writes into no argument, and its answer is memory of its own. -/
import Derived.Test.YtbeehlhcckndcaaGreatRows
import Derived.Test.YtbeehlhcckndcaaGreatJ22
import Derived.WalkKit
import Derived.ProofKit
import Derived.OpenShut
import Derived.ShutString
import Derived.ChangeOld
import Derived.Below
namespace Go.Proofs.YtbeehlhcckndcaaGreat.fnExactSetIsn
open Go.ChangeShapes Go.WideShapes Go.ChangeAt Go.RowKit
set_option linter.unusedVariables false
theorem own:ownKnob Tryz.prog.godebug=none:=by kernel_rfl
theorem laidOut:laidOutB Tryz.prog=true:=by kernel_rfl
theorem cells65:Tryz.prog.cellsOf 65=18:=by kernel_rfl
theorem walk (A0:GtA) (g0:GtV) (a1:Int) (w:World) (w0:GtR w A0 g0∧GtB A0 g0) (w1:(Lit.int .i64 a1).wf=true) :
  Calls Tryz.prog 4 #[.agg #[.int .i64 g0.ip,.int .i64 g0.b,.int .i64 g0.gt,.string g0.gm,.string g0.wm,.int .i64 g0.rs,.slice A0.x g0.ps.length A0.xc,.slice A0.y g0.ros.length A0.yc,.slice A0.ua g0.us.length A0.uc,.slice A0.sa g0.ss.length A0.sc,.slice A0.fa g0.fs.length A0.fc,.slice A0.ra g0.es.length A0.rc,.int .i64 g0.nx,.slice A0.la g0.fl.length A0.lc,.slice A0.ca g0.co.length A0.cc,.int .i64 g0.nw,.int .i64 g0.dr,.int .i64 g0.sn],.int .i64 a1] w fun e w'=>e=.returned (.bool true)∧Below w.heap.size w w':=by
 exact lawSetIsn_any A0 g0 a1 w w0.1 w0.2
set_option maxRecDepth 100000 in
theorem lifted (os:Os) (started:os.Started) (H:Type) (enc:TypeId × Value→H) :
  ReturnsInHanded {} Tryz.checked os 4 .any (Rows.fnExactSetIsnSpec.pre6 enc Tryz.prog Tryz.f4 Rows.fnExactSetIsnRow.domain false) (Rows.fnExactSetIsnSpec.post enc Tryz.prog Tryz.f4 false true false false):=by
 refine returnsInHanded_of_change (C:=Tryz.checked) own started (by kernel_rfl) Tryz.func4
  (ChangeSpec.witness6 (enc:=enc) (C:=Tryz.checked) false ⟨#[],#[.agg #[.int .i64 0,.int .i64 0,.int .i64 0,.string ⟨#[]⟩,.string ⟨#[]⟩,.int .i64 0,.slice none 0 0,.slice none 0 0,.slice none 0 0,.slice none 0 0,.slice none 0 0,.slice none 0 0,.int .i64 0,.slice none 0 0,.slice none 0 0,.int .i64 0,.int .i64 0,.int .i64 0],.int .i64 0],[]⟩ 8 (by kernel_rfl) (by kernel_rfl) (by kernel_rfl) (by kernel_rfl)) ?_
 intro W base args ds gs before hval0 hW hcnd _
 have hval:∀ (j:Nat) t v,Tryz.f4.params[j]?=some t→args[j]?=some v→Value.okWide Tryz.prog W .any base t v:=hval0
 have hW':=hW
 obtain ⟨p,q,hA0,hV,rfl,hfz,hnd⟩:=hW
 have hA:DataW.TrodAll enc Tryz.prog W 0 (fun _=>true) true Tryz.f4.params.toList args.toList ds p:=hA0
 rw [Tryz.params4] at hA hval
 obtain ⟨v0,vs0,d0,ds0,p0,q0,hargs,rfl,rfl,h0,r0⟩:=trodAll_cons hA
 obtain ⟨v1,vs1,d1,ds1,p1,q1,rfl,rfl,rfl,h1,r1⟩:=trodAll_cons r0
 obtain ⟨rfl,rfl,rfl⟩:=trodAll_nil r1
 obtain rfl:args=#[v0,v1]:=by cases args;simp_all
 obtain ⟨rfl,rfl⟩:=trodVars_none hV
 obtain ⟨cs0,rfl,hsz0⟩:=okWide_struct Tryz.underlying65 (hval 0 65 v0 rfl rfl)
 have k0:=h0
 have lt0:∀ x ∈ p0,x.block<W.heap.size:=by obtain ⟨m,hm⟩:=k0;exact DataW.trod_lt m _ _ _ hm
 obtain ⟨fuel0,hf0⟩:=h0
 obtain ⟨A0,g0,q0,w0⟩:=open_gateway hf0
 obtain rfl:cs0=#[.int .i64 g0.ip,.int .i64 g0.b,.int .i64 g0.gt,.string g0.gm,.string g0.wm,.int .i64 g0.rs,.slice A0.x g0.ps.length A0.xc,.slice A0.y g0.ros.length A0.yc,.slice A0.ua g0.us.length A0.uc,.slice A0.sa g0.ss.length A0.sc,.slice A0.fa g0.fs.length A0.fc,.slice A0.ra g0.es.length A0.rc,.int .i64 g0.nx,.slice A0.la g0.fl.length A0.lc,.slice A0.ca g0.co.length A0.cc,.int .i64 g0.nw,.int .i64 g0.dr,.int .i64 g0.sn]:=by
  obtain ⟨l0⟩:=cs0
  simpa [Value.cells,gtC] using q0
 obtain ⟨a1,rfl⟩:=okWide_int Tryz.underlying3 (hval 1 3 v1 rfl rfl)
 have k1:=h1
 have lt1:∀ x ∈ p1,x.block<W.heap.size:=by obtain ⟨m,hm⟩:=k1;exact DataW.trod_lt m _ _ _ hm
 have w1:(Lit.int .i64 a1).wf=true:=by
  obtain ⟨fuel,hf⟩:=h1
  obtain ⟨n,hn,_,hw⟩:=DataW.trod_int Tryz.underlying3 hf
  simp [Value.cells] at hn
  subst hn
  exact hw
 clear hA0 hval0
 refine (walk A0 g0 a1 W w0 w1).mono fun e W' ⟨he,bel⟩=>?_
 subst he
 exact ⟨_,rfl,_,_,_,[],_,[],hW',trodAll_mk1 (shut_bool Tryz.underlying4 _),(trodAll_cons_mk (Below.trod laidOut (by kernel_rfl) (of_decide_eq_true (by kernel_rfl)) k0 bel lt0) (trodAll_cons_mk (Below.trod laidOut (by kernel_rfl) (of_decide_eq_true (by kernel_rfl)) k1 bel lt1) trodAll_mk0)),rfl,bel.frame _,fun h=>by cases h⟩
theorem over:Rows.fnExactSetIsnRow.holds Tryz.pinned (OpenSpec.ofChange Rows.fnExactSetIsnSpec) :=
 OpenClaim.holds_of_wide 4 Tryz.f4 rfl rfl rfl rfl rfl rfl rfl ⟨rfl,rfl,rfl,rfl,rfl⟩ rfl rfl rfl rfl rfl (by kernel_rfl) Tryz.func4 (by kernel_rfl)
  (of_decide_eq_true (by kernel_rfl)) (by unfold Func.isWrapper;first | (rw [if_pos (by decide +kernel)];kernel_rfl) | (rw [if_neg (by decide +kernel)];exact ⟨rfl,rfl⟩))
  (fun os started H enc _=>lifted os started H enc)
theorem proved:Rows.FnExactSetIsnSaid:=over
end Go.Proofs.YtbeehlhcckndcaaGreat.fnExactSetIsn
namespace Go.Proofs.YtbeehlhcckndcaaGreat
theorem fnExactSetIsn_holds:Rows.FnExactSetIsnSaid:=fnExactSetIsn.proved
#print axioms fnExactSetIsn_holds
end Go.Proofs.YtbeehlhcckndcaaGreat
