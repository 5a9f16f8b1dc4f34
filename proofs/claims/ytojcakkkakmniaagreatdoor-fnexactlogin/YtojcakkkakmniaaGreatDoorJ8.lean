/- endSessions of the program. -/
import Derived.Test.YtojcakkkakmniaaGreatDoorJ6
import Derived.Test.YtojcakkkakmniaaGreatDoorJ7
namespace Go.Proofs.YtojcakkkakmniaaGreatDoor
open Go.RowKit Go.PlainAid Go.Proofs.YtojcakkkakmniaaGreatDoor.Bt Go.Sort
set_option linter.unusedVariables false
set_option maxRecDepth 20000
theorem ap_of {α β:Type} {c:α→List Value} {c':β→List Value} {K K':Nat} {e e':TypeId} {w:World} {B B':Nat} {v u:Value} {xs:List α} {ys:List β} (o:OwnS c K e w B v xs) (o':OwnS c' K' e' w B' u ys) (hne:e ≠ e'):Ap v u:=by
 intro k hk hk'
 rcases o.2 with ⟨h1,_⟩ | ⟨g,cap,cur,h1,_,hg1,_⟩
 ·rw [h1] at hk;cases hk
 rcases o'.2 with ⟨h2,_⟩ | ⟨g',cap',cur',h2,_,hg2,_⟩
 ·rw [h2] at hk';cases hk'
 rw [h1] at hk
 rw [h2] at hk'
 have e1:g=k:=by simpa [Value.ownBlock] using hk
 have e2:g'=k:=by simpa [Value.ownBlock] using hk'
 subst e1;subst e2
 rw [hg1] at hg2
 cases hg2
 exact hne rfl
def iG (n:Int):List Value:=[.int .i64 n]
def esS (cs:SessV→Int) (ss:List SessV) (k:Nat):List SessV:=(ss.take k).filter (fun s=>cs s == 0)
def esI (cs:SessV→Int) (ss:List SessV) (k:Nat):List Int:=((ss.take k).filter (fun s=>!(cs s == 0))).map (·.id)
def esF (cs:SessV→Int) (now:Int) (acc:List RecV) (s:SessV):List RecV:=if cs s == 0 then acc else if acc.length<60 then acc ++ [⟨s.id,now,cs s,s.ud,true⟩] else acc
def esR (cs:SessV→Int) (now:Int) (rs:List RecV) (ss:List SessV) (k:Nat):List RecV:=(ss.take k).foldl (esF cs now) rs
theorem own4_of {w:World} {B B':Nat} {vu vs vf vr:Value} {us:List UserV} {ss:List SessV} {fs:List FailV} {rs:List RecV} (u:OwnS uvG 6 84 w B vu us) (s:OwnS svG 10 80 w B vs ss) (f:OwnS fvG 3 115 w B vf fs) (r:OwnS evG 5 86 w B vr rs) (hb:B'≤B):Own4 w B' vu vs vf vr us ss fs rs :=
 ⟨u.lower hb,s.lower hb,f.lower hb,r.lower hb,ap_of u s (by decide),ap_of u f (by decide),ap_of u r (by decide),ap_of s f (by decide),ap_of s r (by decide),ap_of f r (by decide)⟩
structure ES (w:World) (q8:Nat) (ua sa fa ra:Option Addr) (ul uc sl sc fl fc rl rc:Nat) (us:List UserV) (ss:List SessV) (fs:List FailV) (rs:List RecV) (nx:Int) (now:Int) (cs:SessV→Int) (vu vf:Value) (k:Nat) (sx:Option Addr) (sy:Nat) (rx:Option Addr) (ry:Nat) (ix:Option Addr) (iy:Nat) (wr:World):Prop where
 g:Bo wr w.heap.size 41 [.slice ua ul uc,.slice sa sl sc,.slice fa fl fc,.slice ra rl rc,.int .i64 nx]
 r:Bo wr (w.heap.size+1) 41 [.slice none 0 0,.slice none 0 0,.slice none 0 0,.slice none 0 0,.int .i64 0]
 n:Bo wr q8 41 [vu,.slice sx (esS cs ss k).length sy,vf,.slice rx (esR cs now rs ss k).length ry,.int .i64 nx]
 u:OwnS uvG 6 84 wr (w.heap.size+2) vu us
 s:OwnS svG 10 80 wr (w.heap.size+2) (.slice sx (esS cs ss k).length sy) (esS cs ss k)
 f:OwnS fvG 3 115 wr (w.heap.size+2) vf fs
 rr:OwnS evG 5 86 wr (w.heap.size+2) (.slice rx (esR cs now rs ss k).length ry) (esR cs now rs ss k)
 i:OwnS iG 1 3 wr (w.heap.size+2) (.slice ix (esI cs ss k).length iy) (esI cs ss k)
 b:Below w.heap.size w wr
theorem ES.below {w:World} {q8:Nat} {ua sa fa ra:Option Addr} {ul uc sl sc fl fc rl rc:Nat} {us:List UserV} {ss:List SessV} {fs:List FailV} {rs:List RecV} {nx:Int} {now:Int} {cs:SessV→Int} {vu vf:Value} {k:Nat} {sx:Option Addr} {sy:Nat} {rx:Option Addr} {ry:Nat} {ix:Option Addr} {iy:Nat} {wr wy:World} (h:ES w q8 ua sa fa ra ul uc sl sc fl fc rl rc us ss fs rs nx now cs vu vf k sx sy rx ry ix iy wr) (hb:Below wr.heap.size wr wy):ES w q8 ua sa fa ra ul uc sl sc fl fc rl rc us ss fs rs nx now cs vu vf k sx sy rx ry ix iy wy :=
 ⟨h.g.below hb,h.r.below hb,h.n.below hb,h.u.now hb,h.s.now hb,h.f.now hb,h.rr.now hb,h.i.now hb,h.b.trans (hb.mono h.b.size)⟩
end Go.Proofs.YtojcakkkakmniaaGreatDoor
