/- Login answers as the model does, for all right shapes of a config and of guests, all texts, addresses and times, and keeps what it was handed, whatever the caller does with the answer behind it -/
import Derived.Test.YtojcakkkakmniaaGreatDoorCards
import Derived.Test.YtojcakkkakmniaaGreatDoorTie
import Derived.Test.YtojcakkkakmniaaGreatDoorJ30
import Derived.ShutString
import Derived.ChangeOld
import Derived.OpenVars
namespace Go.Proofs.YtojcakkkakmniaaGreatDoor.fnExactLogin
open Go.ChangeShapes Go.WideShapes Go.ChangeAt Go.RowKit Go.WideElems
set_option linter.unusedVariables false
theorem own:ownKnob Tryz.prog.godebug=none:=by kernel_rfl
theorem laidOut:laidOutB Tryz.prog=true:=by kernel_rfl
theorem cells27:Tryz.prog.cellsOf 27=8:=by kernel_rfl
theorem cells33:Tryz.prog.cellsOf 33=5:=by kernel_rfl
theorem walk (ip0 b0 gt0:Int) (gm0 wm0:ByteArray) (rs0:Int) (x0 y0:Option Addr) (lenx0 capx0 leny0 capy0:Nat) (ps0:List PlaceV) (ros0:List RoleV) (ua1 sa1 fa1 ra1:Option Addr) (ul1 uc1 sl1 sc1 fl1 fc1 rl1 rc1:Nat) (us1:List UserV) (ss1:List SessV) (fs1:List FailV) (es1:List RecV) (nx1:Int) (a2:ByteArray) (a3:ByteArray) (a4:ByteArray) (a5:Int) (a6:Int) (w:World) (w0:gm0.size≤maxLen∧wm0.size≤maxLen∧(ps0.length=lenx0∧lenx0≤capx0∧capx0≤maxLen∧Rw PlR 4 w x0 ps0)∧ros0.length=leny0∧leny0≤capy0∧capy0≤maxLen∧Rw (RoR 0) 5 w y0 ros0) (w1:(us1.length=ul1∧ul1≤uc1∧uc1≤maxLen∧Rw UsR 6 w ua1 us1)∧(ss1.length=sl1∧sl1≤sc1∧sc1≤maxLen∧Rw SeR 10 w sa1 ss1)∧(fs1.length=fl1∧fl1≤fc1∧fc1≤maxLen∧Rw FaR 3 w fa1 fs1)∧(es1.length=rl1∧rl1≤rc1∧rc1≤maxLen∧Rw ReR 5 w ra1 es1)∧(Lit.int .i64 nx1).wf=true) (w2:a2.size≤maxLen) (w3:a3.size≤maxLen) (w4:a4.size≤maxLen) (w5:(Lit.int .i64 a5).wf=true) (w6:(Lit.int .i64 a6).wf=true) (hL:laidMetH Tryz.prog Rows.fnExactLoginRow.laid w) :
  Calls Tryz.prog 3 #[.agg #[.int .i64 ip0,.int .i64 b0,.int .i64 gt0,.string gm0,.string wm0,.int .i64 rs0,.slice x0 lenx0 capx0,.slice y0 leny0 capy0],.agg #[.slice ua1 ul1 uc1,.slice sa1 sl1 sc1,.slice fa1 fl1 fc1,.slice ra1 rl1 rc1,.int .i64 nx1],.string a2,.string a3,.string a4,.int .i64 a5,.int .i64 a6] w fun e w'=>e=.returned (.bool true)∧Below w.heap.size w w':=by
 obtain ⟨hg,hw,⟨rfl,h1,h2,h3⟩,rfl,h4,h5,h6⟩:=w0
 obtain ⟨⟨rfl,u1,u2,u3⟩,⟨rfl,s1,s2,s3⟩,⟨rfl,f1,f2,f3⟩,⟨rfl,e1,e2,e3⟩,-⟩:=w1
 exact lawLogin_any ⟨x0,y0,capx0,capy0⟩ ⟨ip0,b0,gt0,gm0,wm0,rs0,ps0,ros0⟩ ⟨ua1,sa1,fa1,ra1,uc1,sc1,fc1,rc1⟩ ⟨us1,ss1,fs1,es1,nx1⟩ a2 a3 a4 a5 a6 w (hash_of_laid hL) ⟨h3,h6⟩ ⟨hg,hw,Nat.le_trans h1 h2,Nat.le_trans h4 h5⟩ ⟨u3,s3,f3,e3⟩ ⟨Nat.le_trans u1 u2,Nat.le_trans s1 s2,Nat.le_trans f1 f2,Nat.le_trans e1 e2⟩
set_option maxRecDepth 100000 in
theorem door_met (os:Os) (args:Array Value):laidMetH Tryz.prog Rows.fnExactLoginRow.laid ((World.doorLaid Tryz.prog 19 os).forCall (fun _ _=>0) ⟨#[],args,[]⟩).memory :=
 laidMetH_of_parts3 (fuel:=8) (laidMet_of_run' 8 (by kernel_rfl) (by kernel_rfl)) (by kernel_rfl) (by kernel_rfl)
set_option maxRecDepth 100000 in
theorem lifted (os:Os) (started:os.Started) (H:Type) (enc:TypeId × Value→H) :
  ReturnsInHanded {} Tryz.checked os 3 .any (fun w args=>(Rows.fnExactLoginSpec.pre enc Tryz.prog Tryz.f3 [] false w args∧laidMetH Tryz.prog Rows.fnExactLoginRow.laid w)∧sizedMet enc Tryz.prog Tryz.f3 (OpenSpec.ofChange Rows.fnExactLoginSpec) false w args)
   (Rows.fnExactLoginSpec.post enc Tryz.prog Tryz.f3 false true false false):=by
 refine returnsInHanded_of_change_and (C:=Tryz.checked) (X:=fun w _=>laidMetH Tryz.prog Rows.fnExactLoginRow.laid w) (fun _ _ _ hh h=>h.of_heap hh) own started (by kernel_rfl) Tryz.func3
  (ChangeSpec.witness_shaped (enc:=enc) (C:=Tryz.checked) (os:=os) (X:=fun w _=>laidMetH Tryz.prog Rows.fnExactLoginRow.laid w) false (World.doorLaid Tryz.prog 19 os) #[.agg #[.int .i64 0,.int .i64 0,.int .i64 0,.string ⟨#[]⟩,.string ⟨#[]⟩,.int .i64 0,.slice none 0 0,.slice none 0 0],.agg #[.slice none 0 0,.slice none 0 0,.slice none 0 0,.slice none 0 0,.int .i64 0],.string ⟨#[]⟩,.string ⟨#[]⟩,.string ⟨#[]⟩,.int .i64 0,.int .i64 0] 8 rfl (World.shaped_of_RefB (by kernel_rfl) (by kernel_rfl)) (by kernel_rfl) (by kernel_rfl) (by kernel_rfl) (door_met os _)) ?_
 intro W base args ds gs before hval0 hW _ _ hL _
 have hval:∀ (j:Nat) t v,Tryz.f3.params[j]?=some t→args[j]?=some v→Value.okWide Tryz.prog W .any base t v:=hval0
 have hW':=hW
 obtain ⟨p,q,hA0,hV,rfl,hfz,hnd⟩:=hW
 have hA:DataW.TrodAll enc Tryz.prog W 0 (fun _=>true) true Tryz.f3.params.toList args.toList ds p:=hA0
 rw [Tryz.params3] at hA hval
 obtain ⟨v0,vs0,d0,ds0,p0,q0,hargs,rfl,rfl,h0,r0⟩:=trodAll_cons hA
 obtain ⟨v1,vs1,d1,ds1,p1,q1,rfl,rfl,rfl,h1,r1⟩:=trodAll_cons r0
 obtain ⟨v2,vs2,d2,ds2,p2,q2,rfl,rfl,rfl,h2,r2⟩:=trodAll_cons r1
 obtain ⟨v3,vs3,d3,ds3,p3,q3,rfl,rfl,rfl,h3,r3⟩:=trodAll_cons r2
 obtain ⟨v4,vs4,d4,ds4,p4,q4,rfl,rfl,rfl,h4,r4⟩:=trodAll_cons r3
 obtain ⟨v5,vs5,d5,ds5,p5,q5,rfl,rfl,rfl,h5,r5⟩:=trodAll_cons r4
 obtain ⟨v6,vs6,d6,ds6,p6,q6,rfl,rfl,rfl,h6,r6⟩:=trodAll_cons r5
 obtain ⟨rfl,rfl,rfl⟩:=trodAll_nil r6
 obtain rfl:args=#[v0,v1,v2,v3,v4,v5,v6]:=by cases args;simp_all
 obtain ⟨_,_,_,_,dv0,_,_,_,_,_,dv1,_,rfl,_,_,_,_,_,_,_,_,_⟩:=trodVars_two hV
 obtain ⟨cs0,rfl,hsz0⟩:=okWide_struct Tryz.underlying27 (hval 0 27 v0 rfl rfl)
 have k0:=h0
 have lt0:∀ x ∈ p0,x.block<W.heap.size:=by obtain ⟨m,hm⟩:=k0;exact DataW.trod_lt m _ _ _ hm
 obtain ⟨fuel0,hf0⟩:=h0
 obtain ⟨ip0,b0,gt0,gm0,wm0,rs0,x0,y0,lenx0,capx0,leny0,capy0,ps0,ros0,q0,w0⟩:=open_config hf0
 obtain rfl:cs0=#[.int .i64 ip0,.int .i64 b0,.int .i64 gt0,.string gm0,.string wm0,.int .i64 rs0,.slice x0 lenx0 capx0,.slice y0 leny0 capy0]:=by
  obtain ⟨l0⟩:=cs0
  simpa [Value.cells,rv] using q0
 obtain ⟨cs1,rfl,hsz1⟩:=okWide_struct Tryz.underlying33 (hval 1 33 v1 rfl rfl)
 have k1:=h1
 have lt1:∀ x ∈ p1,x.block<W.heap.size:=by obtain ⟨m,hm⟩:=k1;exact DataW.trod_lt m _ _ _ hm
 obtain ⟨fuel1,hf1⟩:=h1
 obtain ⟨ua1,sa1,fa1,ra1,ul1,uc1,sl1,sc1,fl1,fc1,rl1,rc1,us1,ss1,fs1,es1,nx1,q1,w1⟩:=open_guests hf1
 obtain rfl:cs1=#[.slice ua1 ul1 uc1,.slice sa1 sl1 sc1,.slice fa1 fl1 fc1,.slice ra1 rl1 rc1,.int .i64 nx1]:=by
  obtain ⟨l1⟩:=cs1
  simpa [Value.cells] using q1
 obtain ⟨a2,rfl⟩:=okWide_string Tryz.underlying9 (hval 2 9 v2 rfl rfl)
 have k2:=h2
 have lt2:∀ x ∈ p2,x.block<W.heap.size:=by obtain ⟨m,hm⟩:=k2;exact DataW.trod_lt m _ _ _ hm
 have w2:a2.size≤maxLen:=by
  obtain ⟨fuel,hf⟩:=h2
  obtain ⟨n,hn,_,hw⟩:=DataW.trod_string Tryz.underlying9 hf
  simp [Value.cells] at hn
  subst hn
  exact hw
 obtain ⟨a3,rfl⟩:=okWide_string Tryz.underlying9 (hval 3 9 v3 rfl rfl)
 have k3:=h3
 have lt3:∀ x ∈ p3,x.block<W.heap.size:=by obtain ⟨m,hm⟩:=k3;exact DataW.trod_lt m _ _ _ hm
 have w3:a3.size≤maxLen:=by
  obtain ⟨fuel,hf⟩:=h3
  obtain ⟨n,hn,_,hw⟩:=DataW.trod_string Tryz.underlying9 hf
  simp [Value.cells] at hn
  subst hn
  exact hw
 obtain ⟨a4,rfl⟩:=okWide_string Tryz.underlying9 (hval 4 9 v4 rfl rfl)
 have k4:=h4
 have lt4:∀ x ∈ p4,x.block<W.heap.size:=by obtain ⟨m,hm⟩:=k4;exact DataW.trod_lt m _ _ _ hm
 have w4:a4.size≤maxLen:=by
  obtain ⟨fuel,hf⟩:=h4
  obtain ⟨n,hn,_,hw⟩:=DataW.trod_string Tryz.underlying9 hf
  simp [Value.cells] at hn
  subst hn
  exact hw
 obtain ⟨a5,rfl⟩:=okWide_int Tryz.underlying3 (hval 5 3 v5 rfl rfl)
 have k5:=h5
 have lt5:∀ x ∈ p5,x.block<W.heap.size:=by obtain ⟨m,hm⟩:=k5;exact DataW.trod_lt m _ _ _ hm
 have w5:(Lit.int .i64 a5).wf=true:=by
  obtain ⟨fuel,hf⟩:=h5
  obtain ⟨n,hn,_,hw⟩:=DataW.trod_int Tryz.underlying3 hf
  simp [Value.cells] at hn
  subst hn
  exact hw
 obtain ⟨a6,rfl⟩:=okWide_int Tryz.underlying3 (hval 6 3 v6 rfl rfl)
 have k6:=h6
 have lt6:∀ x ∈ p6,x.block<W.heap.size:=by obtain ⟨m,hm⟩:=k6;exact DataW.trod_lt m _ _ _ hm
 have w6:(Lit.int .i64 a6).wf=true:=by
  obtain ⟨fuel,hf⟩:=h6
  obtain ⟨n,hn,_,hw⟩:=DataW.trod_int Tryz.underlying3 hf
  simp [Value.cells] at hn
  subst hn
  exact hw
 clear hA0 hval0
 refine (walk ip0 b0 gt0 gm0 wm0 rs0 x0 y0 lenx0 capx0 leny0 capy0 ps0 ros0 ua1 sa1 fa1 ra1 ul1 uc1 sl1 sc1 fl1 fc1 rl1 rc1 us1 ss1 fs1 es1 nx1 a2 a3 a4 a5 a6 W w0 w1 w2 w3 w4 w5 w6 hL).mono fun e W' ⟨he,hg⟩=>?_
 subst he
 exact ⟨_,rfl,_,_,_,[],_,_,hW',trodAll_mk1 (shut_bool Tryz.underlying4 _),(trodAll_cons_mk (Below.trod laidOut (by kernel_rfl) (of_decide_eq_true (by kernel_rfl)) k0 hg lt0) (trodAll_cons_mk (Below.trod laidOut (by kernel_rfl) (of_decide_eq_true (by kernel_rfl)) k1 hg lt1) (trodAll_cons_mk (Below.trod laidOut (by kernel_rfl) (of_decide_eq_true (by kernel_rfl)) k2 hg lt2) (trodAll_cons_mk (Below.trod laidOut (by kernel_rfl) (of_decide_eq_true (by kernel_rfl)) k3 hg lt3) (trodAll_cons_mk (Below.trod laidOut (by kernel_rfl) (of_decide_eq_true (by kernel_rfl)) k4 hg lt4) (trodAll_cons_mk (Below.trod laidOut (by kernel_rfl) (of_decide_eq_true (by kernel_rfl)) k5 hg lt5) (trodAll_cons_mk (Below.trod laidOut (by kernel_rfl) (of_decide_eq_true (by kernel_rfl)) k6 hg lt6) trodAll_mk0))))))),Below.trodVars laidOut hg (by kernel_rfl) hV,hg.frame _,fun h=>by cases h⟩
theorem over:Rows.fnExactLoginRow.holds Tryz.pinned (OpenSpec.ofChange Rows.fnExactLoginSpec) :=
 OpenClaim.holds_of_wide 3 Tryz.f3 rfl rfl rfl rfl rfl rfl rfl ⟨rfl,rfl,rfl,rfl,rfl⟩ rfl rfl rfl rfl rfl (by kernel_rfl) Tryz.func3 (by kernel_rfl)
  (of_decide_eq_true (by kernel_rfl)) (by unfold Func.isWrapper;first | (rw [if_pos (by decide +kernel)];kernel_rfl) | (rw [if_neg (by decide +kernel)];exact ⟨rfl,rfl⟩))
  (fun os started H enc _=>lifted os started H enc)
theorem proved:Rows.FnExactLoginSaid:=over
theorem plain (f : FuncId) (fn : Func) (hf : Tryz.pinned.checked.prog.funcNamed "loop.example/g00356/laws.FnExactLogin" = some f) (hfn : Tryz.pinned.checked.prog.funcs[f]? = some fn) :
  false=Tryz.pinned.checked.prog.looks []∧∀ (j:Nat) t,fn.params[j]?=some t→Tryz.pinned.checked.prog.wantsStandIn t=false:=by
 obtain rfl : f = 3 := Option.some.inj ((show Tryz.prog.funcNamed "loop.example/g00356/laws.FnExactLogin" = some 3 by kernel_rfl).symm.trans hf) |>.symm
 obtain rfl:fn=Tryz.f3:=(Option.some.inj (Tryz.func3.symm.trans hfn)).symm
 refine ⟨by kernel_rfl,fun j t ht=>?_⟩
 rw [Tryz.params3] at ht
 have hm:t ∈ [27,33,9,9,9,3,3]:=by simpa using Array.mem_of_getElem? ht
 have hall:([27,33,9,9,9,3,3].all fun u=>!Tryz.prog.wantsStandIn u)=true:=by kernel_rfl
 exact (show Tryz.prog.wantsStandIn t=false by simpa using List.all_eq_true.1 hall t hm)
theorem card:Rows.FnExactLoginCardSaid :=
 Claim7.holds_tied_plain_at .later [] _ _ _ _ proved (fun _ h=>by cases h) (by kernel_rfl) (fun _ h=>by cases h) fnExactLogin_row_tie rfl ⟨rfl,rfl⟩ (by kernel_rfl) rfl plain (by kernel_rfl)
end Go.Proofs.YtojcakkkakmniaaGreatDoor.fnExactLogin
namespace Go.Proofs.YtojcakkkakmniaaGreatDoor
theorem fnExactLogin_holds:Rows.FnExactLoginCardSaid:=fnExactLogin.card
#print axioms fnExactLogin_holds
end Go.Proofs.YtojcakkkakmniaaGreatDoor
