/- The model's l04Hash and Hash. The contracts of impl.Check16, spec.l01Sum16 and spec.Check16: each answers the folded sum of the bytes, 0 above 65536 of them, and turns nothing. The walk of laws.FnExactCheck16: it answers true at every row of bytes, and turns nothing that was there. The walk of laws.FnExactHash: it answers true at every row of bytes where the two tables lie in their variables, and turns nothing that was there. PassHash, the program's and the model's; the walk of its law. Login, as pure words. Nothing of the program is used. slices.Insert of one fail into a row of one's own. Elements of a row of one's own, stored into by an operation: one cell, or the whole element. Nothing of the program is used. Fails of the program: where one stands, who must wait. The program's rolePlace, userOK, usersOK. A map of one's own, emptied. Nothing of the program is imported. -/
import Derived.Test.YtojcakkkakmniaaGreatDoorJ17
import Derived.Deep.AppendLies
import Derived.Test.YtojcakkkakmniaaGreatDoorJ16
import Derived.Lib.Bytealg
import Derived.Laws.CopyRow
import Derived.Lib.Overlaps
import Derived.Lib.AppendZerosOnto
import Derived.Test.YtojcakkkakmniaaGreatDoorShelf
import Derived.Deep.LoopGhost
import Derived.Shelf.SlicesQ.IndexFunc
namespace Go.Proofs.YtojcakkkakmniaaGreatDoor
open Go.RowKit Go.PlainAid
set_option linter.unusedVariables false
set_option maxRecDepth 20000
theorem kk_list:words KK 64=[.int .u32 1116352408,.int .u32 1899447441,.int .u32 3049323471,.int .u32 3921009573,.int .u32 961987163,.int .u32 1508970993,.int .u32 2453635748,.int .u32 2870763221,.int .u32 3624381080,.int .u32 310598401,.int .u32 607225278,.int .u32 1426881987,.int .u32 1925078388,.int .u32 2162078206,.int .u32 2614888103,.int .u32 3248222580,.int .u32 3835390401,.int .u32 4022224774,.int .u32 264347078,.int .u32 604807628,.int .u32 770255983,.int .u32 1249150122,.int .u32 1555081692,.int .u32 1996064986,.int .u32 2554220882,.int .u32 2821834349,.int .u32 2952996808,.int .u32 3210313671,.int .u32 3336571891,.int .u32 3584528711,.int .u32 113926993,.int .u32 338241895,.int .u32 666307205,.int .u32 773529912,.int .u32 1294757372,.int .u32 1396182291,.int .u32 1695183700,.int .u32 1986661051,.int .u32 2177026350,.int .u32 2456956037,.int .u32 2730485921,.int .u32 2820302411,.int .u32 3259730800,.int .u32 3345764771,.int .u32 3516065817,.int .u32 3600352804,.int .u32 4094571909,.int .u32 275423344,.int .u32 430227734,.int .u32 506948616,.int .u32 659060556,.int .u32 883997877,.int .u32 958139571,.int .u32 1322822218,.int .u32 1537002063,.int .u32 1747873779,.int .u32 1955562222,.int .u32 2024104815,.int .u32 2227730452,.int .u32 2361852424,.int .u32 2428436474,.int .u32 2756734187,.int .u32 3204031479,.int .u32 3329325298]:=by kernel_rfl
theorem l04Consts_any (w:World):Calls Tryz.prog 132 #[] w fun e w'=>e=.returned (.slice (some ⟨w.heap.size,0,none⟩) 64 64)∧Below w.heap.size w w'∧w.heap.size<w'.heap.size∧∀ i,i<64→w'.cell? ⟨w.heap.size,i,none⟩=some (.int .u32 (KK i)):=by
 go_enter Tryz.func132,Tryz.ntmps132
 go_wp2
 go_ret
 refine ⟨rfl,(Below.refl _ _).alloc (Nat.le_refl _) _,by simp,fun i hi=>?_⟩
 rw [World.cell?_alloc_new]
 have:=words_at KK 64 i hi
 rw [kk_list] at this
 simpa using this
theorem rowS_of {w:World} {B:Nat} {v:Value} {L:List Int} (O:OwnL 5 w B v L) (hL:∀ x ∈ L,0≤x∧x≤255) (h0:0<L.length):∃ g cp,v=.slice (some ⟨g,0,none⟩) L.length cp∧Bytes w (some ⟨g,0,none⟩) L.length (fun j=>L.getD j 0)∧g<w.heap.size∧L.length≤cp∧cp≤9223372036854775807:=by
 obtain ⟨g,cp,hv,h1,h2,h3,h4,h5,h6⟩:=Laid.writ (w':=w) O hL h0
 refine ⟨g,cp,hv,⟨fun k=>getD_bd hL k,fun _=>⟨g,0,rfl,fun i hi=>by rw [Nat.zero_add];exact h6 i hi⟩⟩,h4,h1,by unfold maxLen at h2;omega⟩
def lenS:Value→Nat
 | .slice _ n _=>n
 | _=>0
structure HLd (w wr:World) (ga gk len:Nat) (F cur:Nat→Int):Prop where
 bel:Below w.heap.size w wr
 h:∀ i,i<8→wr.cell? ⟨w.heap.size,i,none⟩=some (.int .u32 (cur i))∧wr.frozen? ⟨w.heap.size,i,none⟩=false
 row:Bytes wr (some ⟨ga,0,none⟩) len F
 kk:∀ i,i<64→wr.cell? ⟨gk,i,none⟩=some (.int .u32 (KK i))
 na:ga ≠ w.heap.size
 nk:gk ≠ w.heap.size
theorem HLd.next {w wr w':World} {ga gk len:Nat} {F cur nx:Nat→Int} (h:HLd w wr ga gk len F cur) (g:wr.grownBy w' (some w.heap.size)) (hn:∀ i,i<8→w'.cell? ⟨w.heap.size,i,none⟩=some (.int .u32 (nx i))∧w'.frozen? ⟨w.heap.size,i,none⟩=false):HLd w w' ga gk len F nx:=by
 refine ⟨h.bel.grown g h.bel.size (fun k hk=>by cases hk;exact Nat.le_refl _),hn,⟨h.row.1,fun h0=>?_⟩,fun i hi=>g.cell (h.kk i hi) (fun e=>h.nk (by injection e)),h.na,h.nk⟩
 obtain ⟨b,off,e,hc⟩:=h.row.2 h0
 cases e
 exact ⟨ga,0,rfl,fun i hi=>g.cell (hc i hi) (fun e=>h.na (by injection e))⟩
theorem slice_lh (g len cap k:Nat) (h:64 * k+64≤len) (hc:len≤cap) (w:World):(Instr.slice 163 (.slice (some ⟨g,0,none⟩) len cap) (some (.int .i64 (64 * (k:Int)))) (some (.int .i64 (64 * (k:Int)+64))) none).run Tryz.prog w=.ok (.slice (some ⟨g,64 * k,none⟩) 64 (cap - 64 * k)) w:=by
 have tn:(64 * (k:Int)).toNat=64 * k:=by omega
 have tm:(64 * (k:Int)+64).toNat=64 * k+64:=by omega
 obtain ⟨i0,hi,hz0,hz1,hz2⟩:=info_parts Tryz.infoB
 have ht:Tryz.prog.underlying 163=some (.slice (Tryz.prog.elem 163)):=by kernel_rfl
 have he:Tryz.prog.elem 163=5:=by kernel_rfl
 have hcap:¬ cap=64 * k:=by omega
 rw [run_slice_lh w 163 _ len cap ht .i64 .i64 _ _ (by omega) (by omega) (by omega)]
 simp [sliced,sizeOf,typeInfo,he,hi,hz1,tn,tm,hcap]
 rw [Addr.add_mid,Nat.zero_add]
set_option maxHeartbeats 2000000 in
theorem l04Hash_any (a:Option Addr) (n cap:Nat) (f:Nat→Int) (w:World) (h:Bytes w a n f) (hz:n≤65536) (hn:a=none→n=0∧cap=0) (hp:∀ b off,0<n→a=some ⟨b,off,none⟩→b<w.heap.size) :
  Calls Tryz.prog 103 #[.slice a n cap] w fun e w'=>e=.returned (.string (hashF f n))∧Below w.heap.size w w':=by
 have H:Hid (Bytes w a n f):=h
 have HN:Hid (a=none→n=0∧cap=0):=hn
 have HP:Hid (∀ b off,0<n→a=some ⟨b,off,none⟩→b<w.heap.size):=hp
 clear h hn hp
 obtain ⟨W1,hW1⟩:∃ W1,W1=w.alloc (.cells #[.int .u32 1779033703,.int .u32 3144134277,.int .u32 1013904242,.int .u32 2773480762,.int .u32 1359893119,.int .u32 2600822924,.int .u32 528734635,.int .u32 1541459225] 184):=⟨_,rfl⟩
 have Z1:W1.heap.size=w.heap.size+1:=by rw [hW1];simp
 have B1:Hid (Below w.heap.size w W1):=by rw [hW1];exact (Below.refl _ _).alloc (Nat.le_refl _) _
 have HC:Hid (∀ i,i<8→W1.cell? ⟨w.heap.size,i,none⟩=some (.int .u32 (HB i))∧W1.frozen? ⟨w.heap.size,i,none⟩=false):=fun i hi=>by
  rw [hW1]
  refine ⟨?_,by simp⟩
  rw [World.cell?_alloc_new]
  have:=words_at HB 8 i hi
  rw [show words HB 8=[.int .u32 1779033703,.int .u32 3144134277,.int .u32 1013904242,.int .u32 2773480762,.int .u32 1359893119,.int .u32 2600822924,.int .u32 528734635,.int .u32 1541459225] by kernel_rfl] at this
  simpa using this
 have HBy:Hid (∀ o,Bytes (W1.alloc o) a n f):=fun o=>H.out.below (B1.out.alloc (by omega) o) HP.out
 have HO:Hid (OwnL 5 (W1.alloc (.cells #[] 5)) (w.heap.size+1) (.slice (some ⟨w.heap.size+1,0,none⟩) 0 0) []):=by
  have:=World.ownsRow_made (base:=w.heap.size+1) (e:=5) (size:=1) W1 #[] 0 (by omega) (Nat.zero_le _) rfl
  rw [Z1] at this
  exact this
 have HB2:Hid (Below w.heap.size w (W1.alloc (.cells #[] 5))):=B1.out.alloc (by omega) _
 have HB3:Hid (Below (w.heap.size+1) W1 (W1.alloc (.cells #[] 5))):=(Below.refl _ _).alloc (by omega) _
 go_enter Tryz.func103,Tryz.ntmps103
 rw [hW1] at HBy HO
 go_wp2_with (at_builtin;refine wpl_byt _ rfl _ _ rfl (w.heap.size+1) _ [] rfl HO.out a n cap f rfl (HBy.out _) HN.out (by simp;omega) (by simp) ?_)
 rw [← hW1]
 intro v1 w1 Y1
 have Y1':Hid (OwnL 5 w1 (w.heap.size+1) v1 ((List.range n).map f)):=Y1.out.own
 have F1:Hid (Below (w.heap.size+1) W1 w1):=HB3.out.trans Y1.out.below
 have z1:w.heap.size+1≤w1.heap.size:=by have:=F1.out.size;omega
 clear Y1 HBy HO HB2 HB3 HN HP hW1
 go_wp2_with (at_builtin;refine wpl_app _ rfl _ _ rfl (w.heap.size+1) _ _ rfl (World.ownsRow.alloc Y1'.out _) ⟨w1.heap.size,0,none⟩ 1 1 [128] rfl rfl (news_row (Boxed.new w1 [.int .u8 128] _)) (by simp;omega) (by simp;omega) ?_)
 intro v2 w2 Y2
 have Y2':Hid (OwnL 5 w2 (w.heap.size+1) v2 ((List.range n).map f ++ [128])):=Y2.out.own
 have F2:Hid (Below (w.heap.size+1) W1 w2):=(F1.out.alloc z1 _).trans Y2.out.below
 clear Y2 Y1' F1 z1
 obtain ⟨L0,hL0⟩:∃ L,L=(List.range n).map f ++ [128]:=⟨_,rfl⟩
 have sL0:L0.length=n+1:=by rw [hL0];simp
 have bL0:Hid (L0=(List.range n).map f ++ [128]):=hL0
 rw [← hL0] at Y2'
 clear hL0
 go_wp2
 go_loopw [4] (fun v wr=>∃ k:Nat,k≤padN (n+1)∧Hid (OwnL 5 wr (w.heap.size+1) v (L0 ++ List.replicate k 0))∧Hid (Below (w.heap.size+1) W1 wr)) (fun v _=>padN (n+1)+n+1 - (lenS v))
 case atStart=>exact ⟨0,Nat.zero_le _,by simpa using Y2',F2⟩
 case round =>
  clear Y2' F2
  obtain ⟨k,hk,Y,B⟩:=hrel
  have pl:=padN_lt (n+1)
  have sL:(L0 ++ List.replicate k (0:Int)).length=n+1+k:=by simp [sL0]
  obtain ⟨g,cp,cur,hv,hg,-,-⟩:=OwnL.form Y.out (by omega)
  rw [sL] at hv
  subst hv
  have zz:w.heap.size+1≤wr.heap.size:=by have:=B.out.size;omega
  by_cases hlt:k<padN (n+1)
  ·have e1:((((n+1+k:Nat):Int) % 64) != 56)=true:=by have:=padN_min (n+1) k hlt;simp;omega
   have e2:Int.tmod ((n+1+k:Nat):Int) 64=((n+1+k:Nat):Int) % 64:=Int.tmod_eq_emod_of_nonneg (by omega)
   obtain ⟨len,hlen⟩:∃ l,l=n+1+k:=⟨_,rfl⟩
   rw [← hlen] at e1 e2 Y
   rw [← hlen]
   have HLen:Hid (len=n+1+k):=hlen
   clear hlen
   go_wp2_with (at_builtin;refine wpl_app _ rfl _ _ rfl (w.heap.size+1) _ _ rfl (World.ownsRow.alloc Y.out _) ⟨wr.heap.size,0,none⟩ 1 1 [0] rfl rfl (news_row (Boxed.new wr [.int .u8 0] _)) (by simp;omega) (by simp;omega) ?_)
   intro v3 w3 Y3
   have Y3':Hid (OwnL 5 w3 (w.heap.size+1) v3 (L0 ++ List.replicate (k+1) 0)):=by
    show OwnL _ _ _ _ _
    rw [List.replicate_succ']
    have:=Y3.out.own
    simpa only [List.append_assoc] using this
   have B3:Hid (Below (w.heap.size+1) W1 w3):=(B.out.alloc zz _).trans Y3.out.below
   have sL3:(L0 ++ List.replicate (k+1) (0:Int)).length=n+1+(k+1):=by simp [sL0]
   obtain ⟨g3,cp3,cur3,hv3,-,-,-⟩:=OwnL.form Y3'.out (by omega)
   rw [sL3] at hv3
   have HV3:Hid (lenS v3=n+1+(k+1)):=by rw [hv3];rfl
   clear Y3 Y B hv3
   go_wp2
   go_roundw
   case rel=>exact ⟨k+1,by omega,Y3',B3⟩
   case measure =>
    rw [HV3.out]
    show _<padN (n+1)+n+1 - len
    have:=HLen.out
    omega
  ·have ek:k=padN (n+1):=by omega
   subst ek
   have e1:((((n+1+padN (n+1):Nat):Int) % 64) != 56)=false:=by have:=padN_is (n+1);simp;omega
   have e2:Int.tmod ((n+1+padN (n+1):Nat):Int) 64=((n+1+padN (n+1):Nat):Int) % 64:=Int.tmod_eq_emod_of_nonneg (by omega)
   obtain ⟨len,hlen⟩:∃ l,l=n+1+padN (n+1):=⟨_,rfl⟩
   rw [← hlen] at e1 e2 Y
   rw [← hlen]
   clear hlt hk
   obtain ⟨L1,hL1⟩:∃ L,L=L0 ++ List.replicate (padN (n+1)) (0:Int):=⟨_,rfl⟩
   have HL1:Hid (L1=L0 ++ List.replicate (padN (n+1)) (0:Int)):=hL1
   have sL1:L1.length≤65601:=by rw [hL1,sL];omega
   rw [← hL1] at Y
   clear hL1 sL hlen
   go_wp2
   go_loopw [4,5] (fun v i wr=>∃ m:Nat,m≤8∧i=.int .i64 (7 - (m:Int))∧Hid (OwnL 5 wr (w.heap.size+1) v (L1 ++ (List.range m).map (nb (8 * (n:Int)) 8)))∧Hid (Below (w.heap.size+1) W1 wr)) (fun _ i _=>(intOf i+1).toNat)
   case atStart=>exact ⟨0,Nat.zero_le _,rfl,by simpa using Y,B⟩
   case round =>
    clear Y B zz
    obtain ⟨m,hm,rfl,Y,B⟩:=hrel
    have zz:w.heap.size+1≤wr.heap.size:=by have:=B.out.size;omega
    by_cases hlt:m<8
    ·obtain ⟨j,hj,hj7⟩:∃ j:Nat,m=7 - j∧j≤7:=⟨7 - m,by omega,by omega⟩
     have ej:(7 - (m:Int))=(j:Int):=by omega
     have HT:Hid (m+1≤8∧((7 - ((m+1:Nat):Int))=(j:Int) - 1)):=⟨by omega,by omega⟩
     have ev:IntKind.u8.wrap (8 * (n:Int) / 2 ^ (8 * j))=nb (8 * (n:Int)) 8 m:=by
      rw [IntKind.wrap_u8]
      unfold nb
      rw [show 8 - 1 - m=j by omega]
     obtain ⟨x,hx⟩:∃ x,x=nb (8 * (n:Int)) 8 m:=⟨_,rfl⟩
     have HX:Hid (x=nb (8 * (n:Int)) 8 m):=hx
     rw [← hx] at ev
     rw [ej]
     have sl:Hid ((L1 ++ (List.range m).map (nb (8 * (n:Int)) 8)).length≤65700):=by show _≤_;simp;omega
     clear hj ej hx
     have f1:IntKind.i64.wrap (8 * (n:Int))=8 * (n:Int):=by rw [IntKind.wrap_i64];omega
     have f2:IntKind.i64.wrap (8 * (j:Int))=8 * (j:Int):=by rw [IntKind.wrap_i64];omega
     have f3:IntKind.u64.wrap (8 * (j:Int))=8 * (j:Int):=by rw [IntKind.wrap_u64];omega
     have f4:(8 * (j:Int)).toNat=8 * j:=by omega
     have f5:min (8 * j) 64=8 * j:=by omega
     have f6:(0:Int)≤8 * (j:Int):=by omega
     have f7:8 * (j:Int)≤64:=by omega
     go_wp2_with (at_builtin;refine wpl_app _ rfl _ _ rfl (w.heap.size+1) _ _ rfl (World.ownsRow.alloc Y.out _) ⟨wr.heap.size,0,none⟩ 1 1 [x] rfl rfl (news_row (Boxed.new wr [.int .u8 x] _)) (by have:=sl.out;omega) (by simp;omega) ?_)
     intro v3 w3 Y3
     have Y3':Hid (OwnL 5 w3 (w.heap.size+1) v3 (L1 ++ (List.range (m+1)).map (nb (8 * (n:Int)) 8))):=by
      show OwnL _ _ _ _ _
      rw [List.range_succ,List.map_append]
      have:=Y3.out.own
      rw [HX.out] at this
      simpa only [List.append_assoc,List.map_cons,List.map_nil] using this
     have B3:Hid (Below (w.heap.size+1) W1 w3):=(B.out.alloc zz _).trans Y3.out.below
     clear Y3 Y B
     go_wp2
     go_roundw
     case rel=>exact ⟨m+1,HT.out.1,by rw [HT.out.2],Y3',B3⟩
     case measure=>(simp [intOf];try omega)
    ·have em:m=8:=by omega
     have YA:Hid (OwnL 5 wr (w.heap.size+1) u4 (allL f n)):=by
      have e:=Y.out
      rw [em,HL1.out,bL0.out] at e
      have e8:=nbl8 n hz
      unfold nbl at e8
      rw [e8] at e
      show OwnL _ _ _ _ _
      unfold allL tailL nbl
      simpa only [List.append_assoc] using e
     have e7:(7 - (m:Int))=-1:=by omega
     rw [e7]
     obtain ⟨ga,ca,hva,hra⟩:=rowS_of YA.out (allL_bd f n H.out.1) (by rw [allL_len];omega)
     have hga:w.heap.size+1≤ga:=by
      obtain ⟨g',c',cu',hv',hb',-⟩:=OwnL.form YA.out (by rw [allL_len];omega)
      rw [hva] at hv'
      cases hv'
      exact hb'
     obtain ⟨nn,hnn⟩:∃ q,q=n / 64+lastN n:=⟨_,rfl⟩
     have hln:(allL f n).length=64 * nn:=by rw [hnn];exact allL_blocks f n
     rw [hln] at hva hra
     have hnb:nn≤1100:=by have:=lastN_le n;omega
     have HNN:Hid (nn=n / 64+lastN n):=hnn
     have R:Hid (Bytes wr (some ⟨ga,0,none⟩) (64 * nn) (allF f n)):=hra.1
     have ca1:=hra.2.2.1
     have ca2:=hra.2.2.2
     have lga:ga<wr.heap.size:=hra.2.1
     subst hva
     clear YA Y hln hnn hra em e7 hlt hm
     go_wp2_with fail
     refine (l04Consts_any wr).mono ?_
     rintro e w4 ⟨rfl,b4,z4,k4⟩
     have X0:Hid (HLd w w4 ga wr.heap.size (64 * nn) (allF f n) (stB (allF f n) HB 0)):=by
      refine ⟨B1.out.trans ((B.out.mono (by omega)).trans (b4.mono (by omega))),fun i hi=>?_,R.out.below b4 (fun b' o' _ h2=>by cases h2;exact lga),k4,by omega,by omega⟩
      have b5:Below (w.heap.size+1) W1 w4:=B.out.trans (b4.mono zz)
      rw [b5.cell (p:=⟨w.heap.size,i,none⟩) (by show w.heap.size<_;omega),b5.frozen (p:=⟨w.heap.size,i,none⟩) (by show w.heap.size<_;omega)]
      exact HC.out i hi
     clear B1 HC B R b4 k4 z4
     obtain ⟨gk,hgk⟩:∃ g,g=wr.heap.size:=⟨_,rfl⟩
     rw [← hgk] at X0
     rw [← hgk]
     clear hgk lga zz
     obtain ⟨len,hlen⟩:∃ l,l=64 * nn:=⟨_,rfl⟩
     rw [← hlen]
     have HLen:Hid (len=64 * nn):=hlen
     clear hlen
     go_wp2
     go_loopw [7] (fun i wr=>∃ k:Nat,k≤nn∧i=.int .i64 (64 * (k:Int))∧Hid (HLd w wr ga gk (64 * nn) (allF f n) (stB (allF f n) HB k))) (fun i _=>len - (intOf i).toNat)
     case atStart=>exact ⟨0,Nat.zero_le _,rfl,X0⟩
     case round =>
      clear X0
      obtain ⟨k,hk,rfl,X⟩:=hrel
      by_cases hlt:k<nn
      ·have l1:(64 * (k:Int))<(len:Int):=by have:=HLen.out;omega
       have hsl:=slice_lh ga len ca k (by have:=HLen.out;omega) (by have:=HLen.out;omega)
       have wx1:IntKind.i64.wrap (64 * (k:Int)+64)=64 * (k:Int)+64:=by rw [IntKind.wrap_i64];omega
       have HK:Hid (Calls Tryz.prog 133 #[.slice (some ⟨w.heap.size,0,none⟩) 8 8,.slice (some ⟨ga,64 * k,none⟩) 64 (ca - 64 * k),.slice (some ⟨gk,0,none⟩) 64 64] wr fun e w'=>e=.returned (.tuple #[])∧Hid (HLd w w' ga gk (64 * nn) (allF f n) (stB (allF f n) HB (k+1)))):=by
        have hby:=X.out.row.part (64 * k) 64 (by omega) (some ⟨ga,64 * k,none⟩) (fun _=>by rw [Nat.zero_add])
        exact (l04Block_any w.heap.size ga (64 * k) (ca - 64 * k) gk (stB (allF f n) HB k) (fun j=>allF f n (64 * k+j)) wr X.out.h hby (by omega) X.out.kk X.out.na X.out.nk).mono fun e w' ⟨h1,h2,h3⟩=>⟨h1,X.out.next h2 h3⟩
       clear X
       go_wp2_with (go_at_call 133;(with_reducible refine HK.out.mono ?_);rintro e w5 ⟨rfl,X5⟩)
       go_roundw
       case rel=>exact ⟨k+1,by omega,by go_num,X5⟩
       case measure=>(simp [intOf];try omega)
      ·have ek:k=nn:=by omega
       have l2:¬ (64 * (k:Int))<(len:Int):=by have:=HLen.out;omega
       have XN:Hid (HLd w wr ga gk (64 * nn) (allF f n) (hst f n)):=by
        have e:=X.out
        rw [ek] at e
        unfold hst
        rw [← HNN.out]
        exact e
       obtain ⟨t,ht⟩:∃ t,t=hst f n:=⟨_,rfl⟩
       have HTt:Hid (t=hst f n):=ht
       rw [← ht] at XN
       have Tb:Hid (∀ i,0≤t i∧t i≤4294967295):=by rw [ht];exact hst_bd f n
       have C0:Hid (∀ i,i<8→wr.cell? ⟨w.heap.size,i,none⟩=some (.int .u32 (t i))):=fun i hi=>(XN.out.h i hi).1
       have B0:Hid (Below w.heap.size w wr):=XN.out.bel
       have lw:w.heap.size<wr.heap.size:=World.block_lt_of_cell? wr _ (C0.out 0 (by omega))
       clear X XN ht ek hlt hk
       obtain ⟨wb,hwb⟩:∃ x,x=wr:=⟨_,rfl⟩
       rw [← hwb] at C0 B0 lw
       rw [← hwb]
       clear hwb
       obtain ⟨i0,hi,hz0,hz1,hz2⟩:=info_parts Tryz.infoB
       have O0:Hid (OwnL 5 (wb.alloc (.cells #[] 5)) wb.heap.size (.slice (some ⟨wb.heap.size,0,none⟩) 0 0) (txt t 0)):=World.ownsRow_made wb #[] 0 (Nat.le_refl _) (Nat.zero_le _) rfl
       have D0:Hid (Below wb.heap.size wb (wb.alloc (.cells #[] 5))):=(Below.refl _ _).alloc (Nat.le_refl _) _
       go_wp2
       go_loopw [8,9] (fun v i wq=>∃ k:Nat,k≤8∧i=.int .i64 k∧Hid (OwnL 5 wq wb.heap.size v (txt t k))∧Hid (Below wb.heap.size wb wq)) (fun _ i _=>8 - (intOf i).toNat)
       case atStart=>exact ⟨0,Nat.zero_le _,rfl,O0,D0⟩
       case round =>
        clear O0 D0
        obtain ⟨k,hk,rfl,Y,D⟩:=hrel
        have zz:=D.out.size
        by_cases hlt:k<8
        ·have cx:wr.cell? ⟨w.heap.size,k,none⟩=some (.int .u32 (t k)):=by rw [D.out.cell (p:=⟨w.heap.size,k,none⟩) lw];exact C0.out k hlt
         have tb:=Tb.out k
         obtain ⟨x,hx⟩:∃ x,x=t k:=⟨_,rfl⟩
         have HX:Hid (txt t (k+1)=txt t k ++ [nb x 4 0,nb x 4 1,nb x 4 2,nb x 4 3]):=by show _=_;rw [hx];rfl
         rw [← hx] at cx tb
         have HL:Hid ((txt t k).length=4 * k):=txt_len t k
         clear hx
         have y0:IntKind.u8.wrap (x / 16777216)=nb x 4 0:=by rw [IntKind.wrap_u8];rfl
         have y1:IntKind.u8.wrap (x / 65536)=nb x 4 1:=by rw [IntKind.wrap_u8];rfl
         have y2:IntKind.u8.wrap (x / 256)=nb x 4 2:=by rw [IntKind.wrap_u8];rfl
         have y3:IntKind.u8.wrap x=nb x 4 3:=by rw [IntKind.wrap_u8];unfold nb;simp
         obtain ⟨n0,hn0⟩:∃ z,z=nb x 4 0:=⟨_,rfl⟩
         obtain ⟨n1,hn1⟩:∃ z,z=nb x 4 1:=⟨_,rfl⟩
         obtain ⟨n2,hn2⟩:∃ z,z=nb x 4 2:=⟨_,rfl⟩
         obtain ⟨n3,hn3⟩:∃ z,z=nb x 4 3:=⟨_,rfl⟩
         rw [← hn0] at y0
         rw [← hn1] at y1
         rw [← hn2] at y2
         rw [← hn3] at y3
         rw [← hn0,← hn1,← hn2,← hn3] at HX
         clear hn0 hn1 hn2 hn3
         have k0:(0:Int)≤(k:Int):=by omega
         have k1:(k:Int)<8:=by omega
         have lr:w.heap.size<wr.heap.size:=by omega
         have M:Hid (∀ o,(wr.alloc o).drew.cell? ⟨w.heap.size,k,none⟩=some (.int .u32 x)):=fun o=>(World.cell?_alloc_lt _ _ _ (by exact lr)).trans cx
         go_wp2
         go_region_held3 (fun w'=>w'.cell? ⟨w.heap.size,k,none⟩=some (.int .u32 x)) (first | exact cx | exact M.out _ | exact cx2) ((refine step_append_lies _ (by rfl) _ _ _ (by rfl) wb.heap.size 5 i0 _ 1 1 Tryz.underlying163 hi hz0 hz1 hz2 rfl (by omega) u8 (txt t k).length ((txt t k).map (.int .u8)) (by rfl) ((World.ownsRow.alloc Y.out _).drew) ⟨wr.heap.size,0,none⟩ 4 4 [.int .u8 n0,.int .u8 n1,.int .u8 n2,.int .u8 n3] (by rfl) (by rfl) (World.news_of_block (cs:=#[.int .u8 n0,.int .u8 n1,.int .u8 n2,.int .u8 n3]) (t:=5) (fr:=(0,0)) (heap_alloc_new wr _)) (by simp [Value.oneCell']) (by omega) (by rw [HL.out];unfold maxLen;omega) (by rw [HL.out];omega) (by simp;omega) (wr.heap.size+1) (by simp) ?_;intro g1 cap1 w2 hown1 hgrow hat hltt;have D2:Hid (Below wb.heap.size wb w2):=((D.out.alloc zz _).drew).grown hgrow (by simp;omega) (fun q hq=>(World.ownsRow.lt Y.out q hq).1);have cx2:w2.cell? ⟨w.heap.size,k,none⟩=some (.int .u32 x):=by rw [D2.out.cell (p:=⟨w.heap.size,k,none⟩) lw,← D.out.cell (p:=⟨w.heap.size,k,none⟩) lw];exact cx))
         all_goals
          have HO:Hid (OwnL 5 w2 wb.heap.size (.slice (some ⟨g1,0,none⟩) ((txt t k).length+4) cap1) (txt t (k+1))):=by
           show OwnL _ _ _ _ _
           rw [HX.out]
           unfold OwnL
           simpa using hown1
          clear hown1 hgrow hat hltt M cx cx2 Y D
          go_wp2
          go_roundw
          case rel=>exact ⟨k+1,by omega,by go_num,HO,D2⟩
          case measure=>(simp [intOf];try omega)
        ·have ek:k=8:=by omega
         subst ek
         obtain ⟨a,cap,hv,hby,-⟩:=OwnL.slice Y.out (txt_bd t 8)
         have hc:=conv_own (P:=Tryz.prog) wr 163 9 5 Tryz.underlying163 Tryz.underlying5 Tryz.underlying9 a cap _ hby
         subst hv
         clear hby
         go_wp2
         go_ret
         exact ⟨by unfold hashF;rw [← HTt.out];rfl,B0.out.trans (D.out.mono (by omega))⟩
open Go.RowKit Go.PlainAid Go.Proofs.YtojcakkkakmniaaGreatDoor.Pl
def hashS (s:ByteArray):ByteArray:=hashF (bt s) s.size
theorem hashS_size (s:ByteArray):(hashS s).size=32:=hashF_size _ _
def passS (salt word:ByteArray):Nat→ByteArray
 | 0=>hashS (salt ++ ⟨#[0]⟩ ++ word)
 | k+1=>hashS (salt ++ passS salt word k)
theorem passS_size (salt word:ByteArray):∀ k,(passS salt word k).size=32
 | 0=>hashS_size _
 | k+1=>hashS_size _
theorem conv_b (w:World) (s:ByteArray) (hs:s.size≤1000000):∃ cap w',(convert 9 163 (.string s)).run Tryz.prog w=.ok (.slice (some ⟨w.heap.size,0,none⟩) s.size cap) w'∧Below w.heap.size w w'∧w'.heap.size=w.heap.size+1∧Bytes w' (some ⟨w.heap.size,0,none⟩) s.size (bt s)∧s.size≤cap∧cap≤9223372036854775807:=by
 have r:=Go.Lib.run_convert_string_bytes (P:=Tryz.prog) w 9 163 5 s Tryz.underlying9 Tryz.underlying163 Tryz.underlying5
 obtain ⟨cap,w',h1,h2,h3,-,h5⟩:=conv_bytes (P:=Tryz.prog) w 9 163 5 s Tryz.underlying9 Tryz.underlying163 Tryz.underlying5
 have e:=h1.symm.trans r
 injection e with e1 e2
 injection e1 with _ _ e3
 have g1:=grownCap_ge w s.size 0 5
 have g2:=grownCap_le_maxLen w s.size 0 5 (by unfold maxLen;omega)
 unfold maxLen at g2
 exact ⟨cap,w',h1,h2,h3,⟨fun k=>⟨bt_nonneg s k,bt_le s k⟩,fun _=>⟨w.heap.size,0,rfl,fun i hi=>by rw [Nat.zero_add];exact h5 i hi⟩⟩,by omega,by omega⟩
set_option maxHeartbeats 1000000 in
theorem l04Pass_any (salt word:ByteArray) (n:Nat) (w:World) (hs:salt.size≤40) (hw:word.size≤40) (hn:n≤20) :
  Calls Tryz.prog 67 #[.string salt,.string word,.int .i64 n] w fun e w'=>e=.returned (.string (passS salt word n))∧Below w.heap.size w w':=by
 have HC:Hid (∀ (s:ByteArray) (cap b:Nat) (wx:World),s.size≤200→Bytes wx (some ⟨b,0,none⟩) s.size (bt s)→b<wx.heap.size→s.size≤cap→cap≤9223372036854775807→Below w.heap.size w wx→Calls Tryz.prog 103 #[.slice (some ⟨b,0,none⟩) s.size cap] wx fun e w'=>e=.returned (.string (hashS s))∧Below wx.heap.size wx w'):=fun s cap b wx h1 h2 h3 h4 h5 h6=>l04Hash_any (some ⟨b,0,none⟩) s.size cap (bt s) wx h2 (by omega) (fun h=>by cases h) (fun b' o' _ hy=>by cases hy;exact h3)
 obtain ⟨U,hU⟩:∃ U,U=salt ++ ⟨#[0]⟩ ++ word:=⟨_,rfl⟩
 have su:U.size≤81:=by rw [hU,ByteArray.size_append,ByteArray.size_append];show salt.size+1+word.size≤81;omega
 obtain ⟨cap0,w0,hc0,b0,z0,y0,p0,q0⟩:=conv_b w U (by omega)
 have B0:Hid (Below w.heap.size w w0):=b0
 have Y0:Hid (Bytes w0 (some ⟨w.heap.size,0,none⟩) U.size (bt U)):=y0
 have HU:Hid (hashS U=passS salt word 0):=by show _=_;rw [hU];rfl
 clear b0 y0
 have lz:w.heap.size<w0.heap.size:=by omega
 have HX:Hid (Calls Tryz.prog 103 #[.slice (some ⟨w.heap.size,0,none⟩) U.size cap0] w0 fun e w'=>e=.returned (.string (passS salt word 0))∧Below w0.heap.size w0 w'):=by rw [← HU.out];exact HC.out U cap0 w.heap.size w0 (by omega) Y0.out lz p0 q0 B0.out
 obtain ⟨m0,hm0⟩:∃ m,m=U.size:=⟨_,rfl⟩
 rw [← hm0] at hc0 HX
 rw [hU] at hc0
 clear hm0 p0
 clear hU Y0
 go_enter Tryz.func67,Tryz.ntmps67
 go_wp2_with (go_at_call 103;(refine HX.out.mono ?_);rintro e w1 ⟨rfl,b1⟩;have B1:Hid (Below w.heap.size w w1):=B0.out.trans (b1.mono B0.out.size);clear b1 B0 HX hc0)
 obtain ⟨S1,hS1⟩:∃ S,S=salt ++ ⟨#[0]⟩:=⟨_,rfl⟩
 rw [← hS1]
 obtain ⟨S2,hS2⟩:∃ S,S=S1 ++ word:=⟨_,rfl⟩
 rw [← hS2]
 clear hS1 hS2
 go_loopw [7,8] (fun h i wr=>∃ k:Nat,k≤n∧i=.int .i64 k∧h=.string (passS salt word k)∧Hid (Below w.heap.size w wr)) (fun _ i _=>n - (intOf i).toNat)
 case atStart=>exact ⟨0,Nat.zero_le _,rfl,rfl,B1⟩
 case round =>
  clear B1
  obtain ⟨k,hk,rfl,rfl,B⟩:=hrel
  by_cases hlt:k<n
  ·obtain ⟨P,hP⟩:∃ P,P=passS salt word k:=⟨_,rfl⟩
   have sp:P.size≤32:=by rw [hP];exact Nat.le_of_eq (passS_size _ _ _)
   have HQ:Hid (hashS (salt ++ P)=passS salt word (k+1)):=by show _=_;rw [hP];rfl
   rw [← hP]
   obtain ⟨U,hU⟩:∃ U,U=salt ++ P:=⟨_,rfl⟩
   have su:U.size≤81:=by rw [hU,ByteArray.size_append];omega
   obtain ⟨cap2,w2,hc2,b2,z2,y2,p2,q2⟩:=conv_b wr U (by omega)
   have B2:Hid (Below w.heap.size w w2):=B.out.trans (b2.mono B.out.size)
   have HX:Hid (Calls Tryz.prog 103 #[.slice (some ⟨wr.heap.size,0,none⟩) U.size cap2] w2 fun e w'=>e=.returned (.string (passS salt word (k+1)))∧Below w2.heap.size w2 w'):=by rw [← HQ.out,← hU];exact HC.out U cap2 wr.heap.size w2 (by omega) y2 (by omega) p2 q2 B2.out
   obtain ⟨m2,hm2⟩:∃ m,m=U.size:=⟨_,rfl⟩
   rw [← hm2] at hc2 HX
   rw [hU] at hc2
   clear hm2 p2
   clear hU b2 y2 B su hP HQ
   go_wp2_with (go_at_call 103;(refine HX.out.mono ?_);rintro e w3 ⟨rfl,b3⟩;have B3:Hid (Below w.heap.size w w3):=B2.out.trans (b3.mono B2.out.size);clear b3 B2 HX hc2)
   go_roundw
   case rel=>exact ⟨k+1,by omega,by go_num,rfl,B3⟩
   case measure=>(simp [intOf];try omega)
  ·have ek:k=n:=by omega
   subst ek
   go_wp2
   go_ret
   exact ⟨rfl,B.out⟩
set_option maxHeartbeats 1000000 in
theorem passHash_yes (salt word:ByteArray) (n:Nat) (w:World) (hK:KTab w) (hH:HTab w) (hs:salt.size≤40) (hw:word.size≤40) (hn:n≤20) :
  Calls Tryz.prog 86 #[.string salt,.string word,.int .i64 n] w fun e w'=>e=.returned (.tuple #[.string (passS salt word n),.int .i64 0])∧Below w.heap.size w w':=by
 have HT:Hid (KTab w∧HTab w):=⟨hK,hH⟩
 clear hK hH
 have HC:Hid (∀ (s:ByteArray) (cap b:Nat) (wx:World),s.size≤200→Bytes wx (some ⟨b,0,none⟩) s.size (bt s)→b<wx.heap.size→s.size≤cap→cap≤9223372036854775807→Below w.heap.size w wx→Calls Tryz.prog 120 #[.slice (some ⟨b,0,none⟩) s.size cap] wx fun e w'=>e=.returned (.string (hashS s))∧Below wx.heap.size wx w'):=fun s cap b wx h1 h2 h3 h4 h5 h6=>hash_some b 0 s.size cap (bt s) wx (HT.out.1.below h6) (HT.out.2.below h6) h2 h3 (by omega) h4 h5
 obtain ⟨U,hU⟩:∃ U,U=salt ++ ⟨#[0]⟩ ++ word:=⟨_,rfl⟩
 have su:U.size≤81:=by rw [hU,ByteArray.size_append,ByteArray.size_append];show salt.size+1+word.size≤81;omega
 obtain ⟨cap0,w0,hc0,b0,z0,y0,p0,q0⟩:=conv_b w U (by omega)
 have B0:Hid (Below w.heap.size w w0):=b0
 have Y0:Hid (Bytes w0 (some ⟨w.heap.size,0,none⟩) U.size (bt U)):=y0
 have HU:Hid (hashS U=passS salt word 0):=by show _=_;rw [hU];rfl
 clear b0 y0
 have lz:w.heap.size<w0.heap.size:=by omega
 have HX:Hid (Calls Tryz.prog 120 #[.slice (some ⟨w.heap.size,0,none⟩) U.size cap0] w0 fun e w'=>e=.returned (.string (passS salt word 0))∧Below w0.heap.size w0 w'):=by rw [← HU.out];exact HC.out U cap0 w.heap.size w0 (by omega) Y0.out lz p0 q0 B0.out
 obtain ⟨m0,hm0⟩:∃ m,m=U.size:=⟨_,rfl⟩
 rw [← hm0] at hc0 HX
 rw [hU] at hc0
 clear hm0 p0
 clear hU Y0
 go_enter Tryz.func86,Tryz.ntmps86
 go_wp2_with (go_at_call 120;(refine HX.out.mono ?_);rintro e w1 ⟨rfl,b1⟩;have B1:Hid (Below w.heap.size w w1):=B0.out.trans (b1.mono B0.out.size);clear b1 B0 HX hc0)
 obtain ⟨S1,hS1⟩:∃ S,S=salt ++ ⟨#[0]⟩:=⟨_,rfl⟩
 rw [← hS1]
 obtain ⟨S2,hS2⟩:∃ S,S=S1 ++ word:=⟨_,rfl⟩
 rw [← hS2]
 clear hS1 hS2
 go_loopw [8,40] (fun h i wr=>∃ k:Nat,k≤n∧i=.int .i64 k∧h=.string (passS salt word k)∧Hid (Below w.heap.size w wr)) (fun _ i _=>n - (intOf i).toNat)
 case atStart=>exact ⟨0,Nat.zero_le _,rfl,rfl,B1⟩
 case round =>
  clear B1
  obtain ⟨k,hk,rfl,rfl,B⟩:=hrel
  by_cases hlt:k<n
  ·obtain ⟨P,hP⟩:∃ P,P=passS salt word k:=⟨_,rfl⟩
   have sp:P.size≤32:=by rw [hP];exact Nat.le_of_eq (passS_size _ _ _)
   have HQ:Hid (hashS (salt ++ P)=passS salt word (k+1)):=by show _=_;rw [hP];rfl
   rw [← hP]
   obtain ⟨U,hU⟩:∃ U,U=salt ++ P:=⟨_,rfl⟩
   have su:U.size≤81:=by rw [hU,ByteArray.size_append];omega
   obtain ⟨cap2,w2,hc2,b2,z2,y2,p2,q2⟩:=conv_b wr U (by omega)
   have B2:Hid (Below w.heap.size w w2):=B.out.trans (b2.mono B.out.size)
   have HX:Hid (Calls Tryz.prog 120 #[.slice (some ⟨wr.heap.size,0,none⟩) U.size cap2] w2 fun e w'=>e=.returned (.string (passS salt word (k+1)))∧Below w2.heap.size w2 w'):=by rw [← HQ.out,← hU];exact HC.out U cap2 wr.heap.size w2 (by omega) y2 (by omega) p2 q2 B2.out
   obtain ⟨m2,hm2⟩:∃ m,m=U.size:=⟨_,rfl⟩
   rw [← hm2] at hc2 HX
   rw [hU] at hc2
   clear hm2 p2
   clear hU b2 y2 B su hP HQ
   go_wp2_with (go_at_call 120;(refine HX.out.mono ?_);rintro e w3 ⟨rfl,b3⟩;have B3:Hid (Below w.heap.size w w3):=B2.out.trans (b3.mono B2.out.size);clear b3 B2 HX hc2)
   go_roundw
   case rel=>exact ⟨k+1,by omega,by go_num,rfl,B3⟩
   case measure=>(simp [intOf];try omega)
  ·have ek:k=n:=by omega
   subst ek
   go_wp2
   go_ret2
   exact ⟨rfl,B.out⟩
open Go.RowKit Go.PlainAid Go.Proofs.YtojcakkkakmniaaGreatDoor.Bt Go.Sort
/- The order of bytes. -/
theorem bl_cons (a b:UInt8) (x y:List UInt8):Op.bytesLess (a :: x) (b :: y)=(decide (a.toNat<b.toNat) || (decide (a.toNat=b.toNat) && Op.bytesLess x y)):=by
 have h1:decide (a<b)=decide (a.toNat<b.toNat):=by simp only [UInt8.lt_iff_toNat_lt]
 have h2:(a == b)=decide (a.toNat=b.toNat):=by
  by_cases h:a=b
  ·subst h
   simp
  ·have h':¬ a.toNat=b.toNat:=fun e=>h (UInt8.toNat_inj.1 e)
   simp [h,h']
 rw [Op.bytesLess,h1,h2]
theorem bl_trans:∀ x y z:List UInt8,Op.bytesLess x y=true→Op.bytesLess y z=true→Op.bytesLess x z=true
 | _,[],_,h,_=>by simp [Op.bytesLess] at h
 | _,_ :: _,[],_,h=>by simp [Op.bytesLess] at h
 | [],_ :: _,_ :: _,_,_=>rfl
 | a :: x,b :: y,c :: z,h,h'=>by
  rw [bl_cons] at h h' ⊢
  simp only [Bool.or_eq_true,Bool.and_eq_true,decide_eq_true_eq] at h h' ⊢
  rcases h with h | ⟨h1,h2⟩ <;> rcases h' with h' | ⟨h3,h4⟩
  ·exact .inl (by omega)
  ·exact .inl (by omega)
  ·exact .inl (by omega)
  ·exact .inr ⟨by omega,bl_trans x y z h2 h4⟩
theorem bl_irrefl:∀ x:List UInt8,Op.bytesLess x x=false
 | []=>rfl
 | a :: x=>by
  rw [bl_cons,bl_irrefl x]
  simp
theorem cby_lt:∀ a b:List UInt8,decide (Lib.compareBytes a b<0)=Op.bytesLess a b
 | [],[]=>by simp [Lib.compareBytes,Op.bytesLess]
 | [],_ :: _=>by simp [Lib.compareBytes,Op.bytesLess]
 | _ :: _,[]=>by simp [Lib.compareBytes,Op.bytesLess]
 | a :: x,b :: y=>by
  have e9:Lib.compareBytes (a :: x) (b :: y)=if a<b then -1 else if b<a then 1 else Lib.compareBytes x y:=rfl
  rw [bl_cons,← cby_lt x y,e9]
  simp only [UInt8.lt_iff_toNat_lt]
  by_cases h1:a.toNat<b.toNat
  ·simp [h1]
  ·by_cases h2:b.toNat<a.toNat
   ·have h3:¬ a.toNat=b.toNat:=by omega
    simp [h1,h2,h3]
   ·have h3:a.toNat=b.toNat:=by omega
    simp [h3]
theorem cby_eq:∀ a b:List UInt8,decide (Lib.compareBytes a b=0)=(a == b)
 | [],[]=>by simp [Lib.compareBytes]
 | [],_ :: _=>by simp [Lib.compareBytes]
 | _ :: _,[]=>by simp [Lib.compareBytes]
 | a :: x,b :: y=>by
  have e9:Lib.compareBytes (a :: x) (b :: y)=if a<b then -1 else if b<a then 1 else Lib.compareBytes x y:=rfl
  rw [e9]
  simp only [UInt8.lt_iff_toNat_lt]
  by_cases h1:a.toNat<b.toNat
  ·have h3:¬ a=b:=fun e=>by subst e;omega
   simp [h1,h3]
  ·by_cases h2:b.toNat<a.toNat
   ·have h3:¬ a=b:=fun e=>by subst e;omega
    simp [h1,h2,h3]
   ·have h3:a=b:=UInt8.toNat_inj.1 (by omega)
    subst h3
    have:=cby_eq x y
    by_cases h4:x=y <;> simp [h4] at this ⊢ <;> exact this
theorem ltS_trans {a b c:ByteArray} (h:ltS a b=true) (h':ltS b c=true):ltS a c=true:=bl_trans _ _ _ h h'
theorem ltS_ne {a b:ByteArray} (h:ltS a b=true):(a.toList == b.toList)=false:=by
 cases hq:(a.toList == b.toList) with
 | false=>rfl
 | true =>
  have e:a.toList=b.toList:=by simpa using hq
  unfold ltS at h
  rw [e,bl_irrefl] at h
  exact absurd h (by simp)
theorem ba_ext {a b:ByteArray} (h:(a.toList == b.toList)=true):a=b:=by
 have e:a.toList=b.toList:=by simpa using h
 rw [ByteArray.toList_eq,ByteArray.toList_eq] at e
 obtain ⟨⟨x⟩⟩:=a
 obtain ⟨⟨y⟩⟩:=b
 simp at e
 rw [e]
/- Fails. -/
def fkN (mc:ByteArray) (fs:List FailV):Nat:=fs.findIdx (fun x=>!ltS x.mc mc)
def eqM (mc:ByteArray) (x:FailV):Bool:=x.mc.toList == mc.toList
def atF (mc:ByteArray) (fs:List FailV) (p:FailV→Bool):Bool:=match fs[fkN mc fs]? with | some x=>eqM mc x && p x | none=>false
def bumpF (now:Int) (x:FailV):FailV:=if x.ct+1=3 then ⟨x.mc,0,now+10⟩ else ⟨x.mc,x.ct+1,x.un⟩
def insX (mc:ByteArray) (fs:List FailV):List FailV:=fs.take (fkN mc fs) ++ ⟨mc,1,0⟩ :: fs.drop (fkN mc fs)
def failI (mc:ByteArray) (fs:List FailV):List FailV:=if fs.length=20 then fs else insX mc fs
def failX (mc:ByteArray) (now:Int) (fs:List FailV):List FailV:=match fs[fkN mc fs]? with
 | some x=>if eqM mc x=true then fs.set (fkN mc fs) (bumpF now x) else failI mc fs
 | none=>failI mc fs
section
variable {mc:ByteArray} {fs:List FailV} {k:Nat} {x:FailV} {now:Int}
theorem fk_le:fkN mc fs≤fs.length:=List.findIdx_le_length
theorem fk_of (hk:k≤fs.length) (h1:∀ t x,t<k→fs[t]?=some x→ltS x.mc mc=true) (h2:∀ x,fs[k]?=some x→ltS x.mc mc=false):fkN mc fs=k:=by
 unfold fkN
 by_cases hlt:k<fs.length
 ·rw [List.findIdx_eq hlt]
  refine ⟨by rw [h2 _ (List.getElem?_eq_getElem hlt)];rfl,fun j hj=>?_⟩
  rw [h1 j _ hj (List.getElem?_eq_getElem (by omega))]
  rfl
 ·obtain rfl:k=fs.length:=by omega
  rw [List.findIdx_eq_length]
  intro y hy
  obtain ⟨i,hi⟩:=List.getElem?_of_mem hy
  rw [h1 i y (List.getElem?_eq_some_iff.1 hi).1 hi]
  rfl
theorem atF_at {p:FailV→Bool} (hx:fs[fkN mc fs]?=some x):atF mc fs p=(eqM mc x && p x):=by unfold atF;rw [hx]
theorem atF_no {p:FailV→Bool} (hx:fs[fkN mc fs]?=none):atF mc fs p=false:=by unfold atF;rw [hx]
theorem failX_at (hx:fs[fkN mc fs]?=some x) (h:eqM mc x=true):failX mc now fs=fs.set (fkN mc fs) (bumpF now x):=by unfold failX;rw [hx];dsimp only;rw [if_pos h]
theorem failX_ne (hx:fs[fkN mc fs]?=some x) (h:eqM mc x=false):failX mc now fs=failI mc fs:=by unfold failX;rw [hx];dsimp only;rw [h];rfl
theorem failX_no (hx:fs[fkN mc fs]?=none):failX mc now fs=failI mc fs:=by unfold failX;rw [hx]
theorem failX_else (h:atF mc fs (fun _=>true)=false):failX mc now fs=failI mc fs:=by
 cases hx:fs[fkN mc fs]? with
 | none=>exact failX_no hx
 | some x =>
  rw [atF_at hx,Bool.and_true] at h
  exact failX_ne hx h
theorem ins_len:(insX mc fs).length=fs.length+1:=by
 unfold insX
 rw [List.length_append,List.length_cons,List.length_take,List.length_drop]
 have:=@fk_le mc fs
 omega
theorem failX_len:(failX mc now fs).length≤max fs.length 20 ∨ (failX mc now fs).length=fs.length+1:=by
 cases h:atF mc fs (fun _=>true) with
 | false =>
  rw [failX_else h]
  unfold failI
  split
  ·left;omega
  ·right;exact ins_len
 | true =>
  cases hx:fs[fkN mc fs]? with
  | none=>rw [atF_no hx] at h;cases h
  | some x =>
   rw [atF_at hx,Bool.and_true] at h
   rw [failX_at hx h,List.length_set]
   left;omega
theorem ris_mono (h:risB faB ltF fs=true):∀ (d i:Nat) (x y:FailV),fs[i]?=some y→fs[i+d+1]?=some x→ltS y.mc x.mc=true
 | 0,i,x,y,hy,hx=>(risB_iff.1 h).2 i x y hx hy
 | d+1,i,x,y,hy,hx=>by
  have hl:=(List.getElem?_eq_some_iff.1 hx).1
  obtain ⟨z,hz⟩:∃ z,fs[i+d+1]?=some z:=⟨_,List.getElem?_eq_getElem (by omega)⟩
  exact ltS_trans (ris_mono h d i z y hy hz) ((risB_iff.1 h).2 (i+d+1) x z hx hz)
theorem ris_down (h:risB faB ltF fs=true) {i j:Nat} {x y:FailV} (hij:i≤j) (hy:fs[i]?=some y) (hx:fs[j]?=some x) (hl:ltS x.mc mc=true):ltS y.mc mc=true:=by
 by_cases he:i=j
 ·subst he
  rw [hy] at hx
  cases hx
  exact hl
 ·obtain ⟨d,rfl⟩:∃ d,j=i+d+1:=⟨j - i - 1,by omega⟩
  exact ltS_trans (ris_mono h d i x y hy hx) hl
theorem failX_ok (h:∀ z,z ∈ fs→FaRok z) (hb:∀ z,z ∈ fs→0≤z.ct∧z.ct≤2) (hm:mc.size≤maxLen) (hn:0≤now∧now≤100000):∀ z,z ∈ failX mc now fs→FaRok z:=by
 have hi:∀ z,z ∈ failI mc fs→FaRok z:=by
  unfold failI
  split
  ·exact h
  ·intro z hz
   unfold insX at hz
   rcases List.mem_append.1 hz with hz | hz
   ·exact h z (List.mem_of_mem_take hz)
   ·rcases List.mem_cons.1 hz with rfl | hz
    ·exact ⟨hm,by show (Lit.int .i64 1).wf=true;decide,by show (Lit.int .i64 0).wf=true;decide⟩
    ·exact h z (List.mem_of_mem_drop hz)
 cases hq:atF mc fs (fun _=>true) with
 | false=>rw [failX_else hq];exact hi
 | true =>
  cases hx:fs[fkN mc fs]? with
  | none=>rw [atF_no hx] at hq;cases hq
  | some x =>
   rw [atF_at hx,Bool.and_true] at hq
   rw [failX_at hx hq]
   intro z hz
   rcases List.mem_or_eq_of_mem_set hz with hz | rfl
   ·exact h z hz
   ·have hx2:=List.mem_of_getElem? hx
    have ho:=h x hx2
    have hc:=hb x hx2
    unfold bumpF
    split
    ·exact ⟨ho.1,by show (Lit.int .i64 0).wf=true;decide,int_wf9 (n:=now+10) (by omega) (Int.le_trans (show now+10≤100010 by omega) (by decide))⟩
    ·exact ⟨ho.1,int_wf9 (n:=x.ct+1) (by omega) (Int.le_trans (show x.ct+1≤3 by omega) (by decide)),ho.2.2⟩
end
/- Who has the word. -/
def pwB (u:UserV) (wd:ByteArray):Bool:=u.ha.toList == (passS u.sa wd 3).toList
def clB (m:Nat) (mc:ByteArray) (ip:Int) (s:SessV):Bool:=(s.us == (m:Int)) || ((s.mc.toList == mc.toList) || (s.ip == ip))
def lgF (h:HuV) (u:UserV) (m:Nat) (mc:ByteArray) (ip:Int):Int :=
 if u.lg=0 ∨ u.bl=0 then 15 else if h.ss.any (clB m mc ip)=true then 9 else if h.ss.length=3 ∨ 60<h.es.length+h.ss.length+2 ∨ h.nx=10000 then 7 else 0
def lgS (h:HuV) (r:RoleV) (u:UserV) (m:Nat) (mc:ByteArray) (ip now:Int):SessV:=⟨h.nx,(m:Int),mc,ip,now,now,0,min r.q u.bl,now+r.m,r.i⟩
def lgG (h:HuV) (r:RoleV) (u:UserV) (m:Nat) (mc:ByteArray) (ip now:Int):HuV :=
 { us:=h.us.set m { u with lg:=u.lg - 1 },ss:=h.ss ++ [lgS h r u m mc ip now],fs:=h.fs,es:=h.es ++ [⟨h.nx,now,0,0,false⟩],nx:=h.nx+1 }
structure LgR where
 g:HuV
 id:Int
 k:Int
def lgN (h:HuV) (mc:ByteArray) (now:Int):LgR:=⟨{ h with fs:=failX mc now h.fs },0,13⟩
def lgY (c:CfV) (h:HuV) (u:UserV) (m:Nat) (mc:ByteArray) (ip now:Int):LgR :=
 if lgF h u m mc ip=0 then (match c.ros[(roI c.ros u.ro).toNat]? with | some r=>⟨lgG h r u m mc ip now,h.nx,0⟩ | none=>⟨h,0,0⟩) else ⟨h,0,lgF h u m mc ip⟩
def lgU (c:CfV) (h:HuV) (u:UserV) (wd:ByteArray) (m:Nat) (mc:ByteArray) (ip now:Int):LgR:=if pwB u wd=true then lgY c h u m mc ip now else lgN h mc now
def lgO (c:CfV) (h:HuV) (nm wd mc:ByteArray) (ip now:Int):LgR :=
 if atF mc h.fs (fun x=>decide (now<x.un))=true then ⟨h,0,14⟩
 else match h.us[(ixI (nmP nm) h.us).toNat]? with
  | some u=>if ixI (nmP nm) h.us<0 then lgN h mc now else lgU c h u wd (ixI (nmP nm) h.us).toNat mc ip now
  | none=>lgN h mc now
noncomputable def lgQ (c:CfV) (wd mc:ByteArray) (ip:Int):Bool:=dec (mc.size=6) && (nhB c.ip c.b ip && dec (wd.size≤40))
noncomputable def lgT (c:CfV) (h:HuV) (nm wd mc:ByteArray) (ip now:Int):LgR :=
 if 65536<nm.size ∨ 65536<wd.size ∨ 65536<mc.size then ⟨zeroHu,0,2⟩
 else if ¬ fauC (okG c h) now=0 then ⟨zeroHu,0,fauC (okG c h) now⟩
 else if lgQ c wd mc ip=true then lgO c h nm wd mc ip now else ⟨zeroHu,0,4⟩
/- What right guests say. -/
theorem okG_fs {c:CfV} {h:HuV} (hk:okG c h=true):risB faB ltF h.fs=true∧h.fs.length≤20∧∀ z,z ∈ h.fs→0≤z.ct∧z.ct≤2:=by
 unfold okG gokB at hk
 simp only [Bool.and_eq_true] at hk
 have h1:=hk.2.2.2.2.1
 refine ⟨h1.2,of_decide_eq_true h1.1,fun z hz=>?_⟩
 obtain ⟨i,hi⟩:=List.getElem?_of_mem hz
 have h2:=(risB_iff.1 h1.2).1 i z hi
 unfold faB at h2
 simp only [Bool.and_eq_true] at h2
 exact of_decide_eq_true h2.2.1
theorem okG_us {c:CfV} {h:HuV} {m:Nat} {u:UserV} (hk:okG c h=true) (hu:h.us[m]?=some u):u.sa.size≤40∧u.ha.size=32∧roH c.ros u.ro=true∧(0≤u.bl∧u.bl≤1000000)∧(0≤u.lg∧u.lg≤1000):=by
 unfold okG gokB at hk
 simp only [Bool.and_eq_true] at hk
 have h2:=hk.2.2.1
 unfold usB at h2
 simp only [Bool.and_eq_true] at h2
 have h3:=(risB_iff.1 h2.2).1 _ _ hu
 unfold uB at h3
 simp only [Bool.and_eq_true] at h3
 exact ⟨of_decide_eq_true h3.2.1,of_decide_eq_true h3.2.2.1,h3.2.2.2.1,of_decide_eq_true h3.2.2.2.2.1,of_decide_eq_true h3.2.2.2.2.2⟩
theorem okG_nm {c:CfV} {h:HuV} (hk:okG c h=true):∀ (d i:Nat) (x y:UserV),h.us[i]?=some y→h.us[i+d+1]?=some x→ltS y.nm x.nm=true:=by
 unfold okG gokB at hk
 simp only [Bool.and_eq_true] at hk
 have h2:=hk.2.2.1
 unfold usB at h2
 simp only [Bool.and_eq_true] at h2
 have h3:=(risB_iff.1 h2.2).2
 intro d
 induction d with
 | zero=>exact fun i x y hy hx=>h3 i x y hx hy
 | succ d ih =>
  intro i x y hy hx
  have hl:=(List.getElem?_eq_some_iff.1 hx).1
  obtain ⟨z,hz⟩:∃ z,h.us[i+d+1]?=some z:=⟨_,List.getElem?_eq_getElem (by omega)⟩
  exact ltS_trans (ih i z y hy hz) (h3 (i+d+1) x z hx hz)
theorem okG_one9 {c:CfV} {h:HuV} {q:ByteArray} {k:Nat} {x:UserV} (hk:okG c h=true) (hx:h.us[k]?=some x) (hq:nmP q x=true):(h.us.take k).find? (nmP q)=none:=by
 rw [List.find?_eq_none]
 intro y hy hq2
 obtain ⟨i,hi⟩:=List.getElem?_of_mem hy
 have hil:=(List.getElem?_eq_some_iff.1 hi).1
 rw [List.length_take] at hil
 rw [List.getElem?_take,if_pos (by omega)] at hi
 obtain ⟨d,rfl⟩:∃ d,k=i+d+1:=⟨k - i - 1,by omega⟩
 have h1:=ltS_ne (okG_nm hk d i x y hi hx)
 unfold nmP at hq hq2
 have e1:x.nm.toList=q.toList:=by simpa using hq
 have e2:y.nm.toList=q.toList:=by simpa using hq2
 rw [e1,e2] at h1
 simp at h1
theorem okG_ro {c:CfV} {h:HuV} {s:ByteArray} (hk:okG c h=true) (hr:roH c.ros s=true):∃ (j:Nat) (r:RoleV),roI c.ros s=(j:Int)∧c.ros[j]?=some r∧(1≤r.q∧r.q≤1000000)∧(1≤r.m∧r.m≤1000)∧(1≤r.i∧r.i≤1000):=by
 unfold roH at hr
 rw [Option.isSome_iff_exists] at hr
 obtain ⟨r0,hr0⟩:=hr
 have hlt:c.ros.findIdx (rfP s)<c.ros.length:=List.findIdx_lt_length_of_exists ⟨r0,List.mem_of_find?_eq_some hr0,List.find?_some hr0⟩
 refine ⟨c.ros.findIdx (rfP s),c.ros[c.ros.findIdx (rfP s)],by unfold roI;rw [hr0],List.getElem?_eq_getElem hlt,?_⟩
 unfold okG gokB confB at hk
 simp only [Bool.and_eq_true] at hk
 have h1:=hk.1.2.2.2.2.2.2.2.2.2.2
 unfold rolesB at h1
 rw [List.all_eq_true] at h1
 have h2:=h1 (c.ros.findIdx (rfP s)) (by simpa using hlt)
 unfold okAt at h2
 rw [List.getElem?_eq_getElem hlt] at h2
 simp only [Bool.and_eq_true] at h2
 replace h2:=h2.1
 unfold roB at h2
 simp only [Bool.and_eq_true] at h2
 exact ⟨of_decide_eq_true h2.2.2.2.1,of_decide_eq_true h2.2.2.2.2.1,of_decide_eq_true h2.2.2.2.2.2.1⟩
theorem okG_nx {c:CfV} {h:HuV} (hk:okG c h=true):(1≤h.nx∧h.nx≤10000)∧h.us.length≤6∧nB c.ip c.b=true:=by
 unfold okG gokB confB at hk
 simp only [Bool.and_eq_true] at hk
 have h2:=hk.2.2.1
 unfold usB at h2
 simp only [Bool.and_eq_true] at h2
 exact ⟨of_decide_eq_true hk.2.1,of_decide_eq_true h2.1,hk.1.1⟩
theorem fau_z {z:Bool} {now:Int} (h:fauC z now=0):z=true∧0≤now∧now≤100000:=by
 unfold fauC fau2 at h
 cases z with
 | false=>simp at h
 | true =>
  by_cases hd:0≤now∧now≤100000
  ·exact ⟨rfl,hd⟩
  ·rw [dec_n hd] at h;simp at h
/- The answer is right. -/
theorem lgN_ok {c:CfV} {h:HuV} {mc:ByteArray} {now:Int} (hk:okG c h=true) (o:HuOk h) (hm:mc.size≤maxLen) (hn:0≤now∧now≤100000):HuOk (lgN h mc now).g :=
 ⟨o.us,o.ss,failX_ok o.fs (okG_fs hk).2.2 hm hn,o.es⟩
theorem lgG_ok {c:CfV} {h:HuV} {r:RoleV} {u:UserV} {m:Nat} {mc:ByteArray} {ip now:Int} (hk:okG c h=true) (o:HuOk h) (hu:h.us[m]?=some u) (hl:u.lg ≠ 0) (hr:(1≤r.q∧r.q≤1000000)∧(1≤r.m∧r.m≤1000)∧(1≤r.i∧r.i≤1000)) (hm:mc.size≤maxLen) (hn:0≤now∧now≤100000) (hi:0≤ip∧ip≤4294967295):HuOk (lgG h r u m mc ip now):=by
 have hx:=(okG_nx hk).1
 have hub:=okG_us hk hu
 have hml:=(List.getElem?_eq_some_iff.1 hu).1
 have h6:=(okG_nx hk).2.1
 refine ⟨fun z hz=>?_,fun z hz=>?_,o.fs,fun z hz=>?_⟩
 ·rcases List.mem_or_eq_of_mem_set hz with hz | rfl
  ·exact o.us z hz
  ·have hb:=o.us u (List.mem_of_getElem? hu)
   exact ⟨hb.1,hb.2.1,hb.2.2.1,hb.2.2.2.1,hb.2.2.2.2.1,int_wf9 (n:=u.lg - 1) (by omega) (Int.le_trans (show u.lg - 1≤1000 by omega) (by decide))⟩
 ·rcases List.mem_append.1 hz with hz | hz
  ·exact o.ss z hz
  ·rw [List.mem_singleton] at hz
   subst hz
   have w0:∀ n:Int,0≤n→n≤4294967295→(Lit.int .i64 n).wf=true:=fun n h1 h2=>int_wf9 h1 (Int.le_trans h2 (by decide))
   exact ⟨w0 h.nx (by omega) (by omega),w0 (m:Int) (by omega) (by omega),hm,w0 ip hi.1 hi.2,w0 now (by omega) (by omega),w0 now (by omega) (by omega),w0 0 (by omega) (by omega),w0 (min r.q u.bl) (by omega) (by omega),w0 (now+r.m) (by omega) (by omega),w0 r.i (by omega) (by omega)⟩
 ·rcases List.mem_append.1 hz with hz | hz
  ·exact o.es z hz
  ·rw [List.mem_singleton] at hz
   subst hz
   exact ⟨int_wf9 (n:=h.nx) (by omega) (Int.le_trans (show h.nx≤10000 by omega) (by decide)),int_wf9 (n:=now) (by omega) (Int.le_trans (show now≤100000 by omega) (by decide)),by show (Lit.int .i64 0).wf=true;decide,by show (Lit.int .i64 0).wf=true;decide⟩
theorem lgF_zero {h:HuV} {u:UserV} {m:Nat} {mc:ByteArray} {ip:Int} (hf:lgF h u m mc ip=0):(u.lg ≠ 0∧u.bl ≠ 0)∧h.ss.any (clB m mc ip)=false∧¬ (h.ss.length=3 ∨ 60<h.es.length+h.ss.length+2 ∨ h.nx=10000):=by
 unfold lgF at hf
 split at hf
 ·simp at hf
 ·rename_i h1
  split at hf
  ·simp at hf
  ·rename_i h2
   split at hf
   ·simp at hf
   ·rename_i h3
    exact ⟨⟨fun e=>h1 (.inl e),fun e=>h1 (.inr e)⟩,by simpa using h2,h3⟩
structure LgK (c:CfV) (h:HuV) (mc:ByteArray) (ip now:Int):Prop where
 ok:okG c h=true
 mc:mc.size=6
 ip:0≤ip∧ip≤4294967295
 now:0≤now∧now≤100000
theorem lgY_ok {c:CfV} {h:HuV} {u:UserV} {m:Nat} {mc:ByteArray} {ip now:Int} (K:LgK c h mc ip now) (o:HuOk h) (hu:h.us[m]?=some u):HuOk (lgY c h u m mc ip now).g:=by
 unfold lgY
 split
 ·rename_i hf
  obtain ⟨j,r,e1,e2,e3⟩:=okG_ro K.ok (okG_us K.ok hu).2.2.1
  rw [e1,show ((j:Int)).toNat=j by simp,e2]
  exact lgG_ok K.ok o hu (lgF_zero hf).1.1 e3 (by rw [K.mc];decide) K.now K.ip
 ·exact o
theorem lgO_ok {c:CfV} {h:HuV} {nm wd mc:ByteArray} {ip now:Int} (K:LgK c h mc ip now) (o:HuOk h):HuOk (lgO c h nm wd mc ip now).g:=by
 have hn:=lgN_ok K.ok o (mc:=mc) (by rw [K.mc];decide) K.now
 unfold lgO
 split
 ·exact o
 ·split
  ·rename_i u hu
   split
   ·exact hn
   ·unfold lgU
    split
    ·exact lgY_ok K o hu
    ·exact hn
  ·exact hn
theorem lgQ_yes {c:CfV} {h:HuV} {wd mc:ByteArray} {ip now:Int} (hk:okG c h=true) (hn:0≤now∧now≤100000) (hq:lgQ c wd mc ip=true):LgK c h mc ip now∧wd.size≤40:=by
 unfold lgQ nhB at hq
 simp only [Bool.and_eq_true] at hq
 exact ⟨⟨hk,of_decide_eq_true hq.1,of_decide_eq_true hq.2.1.1.2,hn⟩,of_decide_eq_true hq.2.2⟩
theorem lgT_ok {c:CfV} {h:HuV} {nm wd mc:ByteArray} {ip now:Int} (o:HuOk h):HuOk (lgT c h nm wd mc ip now).g:=by
 unfold lgT
 split
 ·exact zeroHu_ok
 ·split
  ·exact zeroHu_ok
  ·rename_i hf
   split
   ·rename_i hq
    obtain ⟨hk,hn⟩:=fau_z (Classical.not_not.1 hf)
    exact lgO_ok (lgQ_yes hk hn hq).1 o
   ·exact zeroHu_ok
structure LgL (h g:HuV):Prop where
 us:g.us.length≤max h.us.length 21
 ss:g.ss.length≤max h.ss.length 21
 fs:g.fs.length≤max h.fs.length 21
 es:g.es.length≤max h.es.length 61
theorem LgL.self (h:HuV):LgL h h:=⟨by omega,by omega,by omega,by omega⟩
theorem LgL.zero (h:HuV):LgL h zeroHu:=⟨by show 0≤_;omega,by show 0≤_;omega,by show 0≤_;omega,by show 0≤_;omega⟩
theorem lgN_l {c:CfV} {h:HuV} {mc:ByteArray} {now:Int} (hk:okG c h=true):LgL h (lgN h mc now).g:=by
 refine ⟨by show h.us.length≤_;omega,by show h.ss.length≤_;omega,?_,by show h.es.length≤_;omega⟩
 show (failX mc now h.fs).length≤_
 have h1:=(okG_fs hk).2.1
 rcases @failX_len mc h.fs now with h2 | h2 <;> omega
theorem lgG_l {c:CfV} {h:HuV} {r:RoleV} {u:UserV} {m:Nat} {mc:ByteArray} {ip now:Int} (hk:okG c h=true):LgL h (lgG h r u m mc ip now):=by
 have hl:=okG_len hk
 refine ⟨?_,?_,by show h.fs.length≤_;omega,?_⟩
 ·show (h.us.set _ _).length≤_
  rw [List.length_set]
  omega
 ·show (h.ss ++ [_]).length≤_
  rw [List.length_append,List.length_singleton]
  omega
 ·show (h.es ++ [_]).length≤_
  rw [List.length_append,List.length_singleton]
  omega
theorem lgO_l {c:CfV} {h:HuV} {nm wd mc:ByteArray} {ip now:Int} (hk:okG c h=true):LgL h (lgO c h nm wd mc ip now).g:=by
 unfold lgO
 split
 ·exact LgL.self h
 ·split
  ·split
   ·exact lgN_l hk
   ·unfold lgU lgY
    split
    ·split
     ·split
      ·exact lgG_l hk
      ·exact LgL.self h
     ·exact LgL.self h
    ·exact lgN_l hk
  ·exact lgN_l hk
theorem lgT_l {c:CfV} {h:HuV} {nm wd mc:ByteArray} {ip now:Int}:LgL h (lgT c h nm wd mc ip now).g:=by
 unfold lgT
 split
 ·exact LgL.zero h
 ·split
  ·exact LgL.zero h
  ·rename_i hf
   split
   ·exact lgO_l (fau_z (Classical.not_not.1 hf)).1
   ·exact LgL.zero h
theorem lgT_ln {c:CfV} {h:HuV} {nm wd mc:ByteArray} {ip now:Int} (o:HuLn h):HuLn (lgT c h nm wd mc ip now).g:=by
 have l:=@lgT_l c h nm wd mc ip now
 have h1:=o.us
 have h2:=o.ss
 have h3:=o.fs
 have h4:=o.es
 exact ⟨by have:=l.us;omega,by have:=l.ss;omega,by have:=l.fs;omega,by have:=l.es;omega⟩
set_option maxRecDepth 100000
section
variable {P:Program}
theorem run_copy_rowK (w:World) (dT sT ty elem:TypeId) (g o dLen dCap:Nat) (a:Addr) (sLen sCap K m:Nat) (cur:Array Value) (t:TypeId) (cs:List Value)
  (hu:P.underlying dT=some (.slice elem)) (hs:(P.info? elem).map (·.size)=some K)
  (hg:w.heap[g]?=some (.cells cur t (0,0))) (hm:Nat.min sLen dLen=m) (hn:cs.length=m * K)
  (hsrc:∀ j v,cs[j]?=some v→w.cell? (a.add j)=some v) (hfit:o+cs.length≤cur.size) (h1:∀ v ∈ cs,v.oneCell'=true) :
  (Builtin.copy_ #[dT,sT] ty #[.slice (some ⟨g,o,none⟩) dLen dCap,.slice (some a) sLen sCap]).run P w =
   .ok (goInt m) (w.setRow g (cur.toList.take o ++ cs ++ cur.toList.drop (o+cs.length)).toArray):=by
 have hl:=run_loadCells_list (P:=P) w a cs hsrc
 have hst:=run_storeCells_at P g o t cs 0 cur w hg (by simpa using hfit) h1
 subst hm
 cases hq:P.info? elem with
 | none=>simp [hq] at hs
 | some i =>
  have hi:i.size=K:=by simpa [hq] using hs
  simp [Builtin.copy_,run_underlying hu,Builtin.lenOf,Builtin.firstCells,sizeOf,typeInfo,hq,hi,← hn,hl,hst]
theorem wpl_appendR (w:World) {ops:Array Oper} {rest:List Oper} {o:Oper} {a:Act} {Q:Exit→Act→World→Prop} (hgd:o.guard=none) (d s:Operand) (t t':TypeId)
  (ho:o.op=.call { callee:=.builtin .append,args:=#[d,s],argTypes:=#[t,t'] }) (v u:Value) (hd:a.eval d=v) (hs:a.eval s=u) {v':Value} {w':World}
  (hr:(Builtin.append_ #[t,t'] o.type #[v,u]).run P w=.ok v' w') (h:wpList P ops Q rest (a.put o.dst v') w'):wpList P ops Q (o :: rest) a w :=
 wpList_plain hgd fun _ hK=>by
  unfold Oper.wp execOp
  simp only [ho,resolve,invoke,builtin,Sem.run_bind,Sem.run_pure,Result.andThen_ok,List.map_toArray,List.map_cons,List.map_nil,hd,hs,hr]
  exact hK _ _ h
theorem step_copyR {ops:Array Oper} {o:Oper} {a:Act} {w:World} {K:Act→World→Prop} {Q:Exit→Act→World→Prop} {E:Prop}
  (hg:o.guard=none) (d x:Operand) (dT sT:TypeId) (hop:o.op=Op.call { callee:=Callee.builtin Builtin.copy,args:=#[d,x],argTypes:=#[dT,sT] })
  (v u:Value) (hd:a.eval d=v) (hx:a.eval x=u) {v':Value} {w':World} (hr:(Builtin.copy_ #[dT,sT] o.type #[v,u]).run P w=.ok v' w') (hK:K (a.put o.dst v') w') :
  if Region.wanted o (yielded ops a.tmps)=true then Oper.wp P o a w K Q else E:=by
 have hw:Region.wanted o (yielded ops a.tmps)=true:=by simp [Region.wanted,hg]
 rw [if_pos hw]
 unfold Oper.wp execOp
 simp only [hop,resolve,invoke,builtin,Sem.run_bind,Sem.run_pure,Result.andThen_ok,List.map_toArray,List.map_cons,List.map_nil,hd,hx,hr]
 exact hK
end
theorem take_flat {fs:List FailV} (k:Nat) (h:k≤fs.length):(flatS fvG fs).take (k * 3)=flatS fvG (fs.take k):=by
 have e:flatS fvG fs=flatS fvG (fs.take k) ++ flatS fvG (fs.drop k):=by rw [← flatS_append,List.take_append_drop]
 have hl:(flatS fvG (fs.take k)).length=k * 3:=by rw [flatS_len fvG_len,List.length_take];omega
 rw [e,← hl,List.take_left]
theorem drop_flat {fs:List FailV} (k:Nat) (h:k≤fs.length):(flatS fvG fs).drop (k * 3)=flatS fvG (fs.drop k):=by
 have e:flatS fvG fs=flatS fvG (fs.take k) ++ flatS fvG (fs.drop k):=by rw [← flatS_append,List.take_append_drop]
 have hl:(flatS fvG (fs.take k)).length=k * 3:=by rw [flatS_len fvG_len,List.length_take];omega
 rw [e,← hl,List.drop_left]
theorem setRow_same {w:World} {g:Nat} {cur:Array Value} {t:TypeId} {f:Nat × Nat} (h:w.heap[g]?=some (.cells cur t f)) (cs:Array Value):(w.setRow g cs).heap[g]?=some (.cells cs t f):=setRow_heap w g cur cs t f h
theorem setRow_below {w:World} {B g:Nat} (hB:B≤g) (hs:B≤w.heap.size) (cs:Array Value):Below B w (w.setRow g cs) :=
 ⟨rfl,rfl,rfl,by simp [World.setRow],fun k hk=>setRow_other w g k cs (by omega)⟩
set_option maxHeartbeats 4000000 in
theorem insFail_end (a:Option Addr) (n c vb:Nat) (fs:List FailV) (x:FailV) (B:Nat) (tv:TypeId) (w:World)
  (o:OwnS fvG 3 115 w B (.slice a n c) fs) (hB:B≤w.heap.size) (hn:n≤2000) (hv:w.heap[vb]?=some (.cells #[.string x.mc,.int .i64 x.ct,.int .i64 x.un] tv (0,0))) :
  Calls Tryz.prog 88 #[.slice a n c,.int .i64 n,.slice (some ⟨vb,0,none⟩) 1 1] w fun e w'=>∃ v,e=.returned v∧OwnS fvG 3 115 w' B v (fs ++ [x])∧Below B w w':=by
 have hl:=o.len
 have hc:n≤c:=by
  rcases o.2 with ⟨h1,h2⟩ | ⟨g,cap,cur,h1,hb,hg,h3,h4,h5⟩
  ·cases h1
   omega
  ·cases h1
   omega
 have O:Hid (OwnS fvG 3 115 w B (.slice a n c) fs):=o
 have V:Hid (∀ j u,(flatS fvG [x])[j]?=some u→w.cell? ⟨vb,0+j,none⟩=some u):=by
  intro j u hu
  rw [flatS_one] at hu
  rw [Nat.zero_add]
  simp only [World.cell?,hv]
  have hj:=(List.getElem?_eq_some_iff.1 hu).1
  have e:(#[.string x.mc,.int .i64 x.ct,.int .i64 x.un]:Array Value)[j]?=some u:=by
   rw [← Array.getElem?_toList]
   exact hu
  simpa using e
 clear o hv
 by_cases hcn:c=n
 ·go_enter Tryz.func88,Tryz.ntmps88
  go_wp2_with (at_builtin;refine wpl_Fail _ rfl _ _ rfl B _ fs [x] rfl O.out vb 0 1 1 (by simp) rfl V.out (by simp;omega) hB ?_;intro v' w3 Y _)
  go_ret
  exact ⟨_,rfl,Y.out.1,Y.out.2⟩
 ·go_enter Tryz.func88,Tryz.ntmps88
  go_wp2_with (at_builtin;refine wpl_Fail _ rfl _ _ rfl B _ fs [x] rfl O.out vb 0 1 1 (by simp) rfl V.out (by simp;omega) hB ?_;intro v' w3 Y _)
  go_ret
  exact ⟨_,rfl,Y.out.1,Y.out.2⟩
theorem xCells {w:World} {vb:Nat} {tv:TypeId} {x:FailV} (hv:w.heap[vb]?=some (.cells #[.string x.mc,.int .i64 x.ct,.int .i64 x.un] tv (0,0))):∀ j u,(fvG x)[j]?=some u→w.cell? ⟨vb,j,none⟩=some u:=by
 intro j u hu
 simp only [World.cell?,hv]
 have e:(#[.string x.mc,.int .i64 x.ct,.int .i64 x.un]:Array Value)[j]?=some u:=by
  rw [← Array.getElem?_toList]
  exact hu
 simpa using e
set_option maxHeartbeats 4000000 in
theorem insFail_room (g n c k vb:Nat) (fs:List FailV) (x:FailV) (B:Nat) (tv:TypeId) (w:World)
  (o:OwnS fvG 3 115 w B (.slice (some ⟨g,0,none⟩) n c) fs) (hB:B≤w.heap.size) (hk:k<n) (hr:n+1≤c) (hv:w.heap[vb]?=some (.cells #[.string x.mc,.int .i64 x.ct,.int .i64 x.un] tv (0,0))) (hne:vb ≠ g) :
  Calls Tryz.prog 88 #[.slice (some ⟨g,0,none⟩) n c,.int .i64 k,.slice (some ⟨vb,0,none⟩) 1 1] w fun e w'=>∃ v,e=.returned v∧OwnS fvG 3 115 w' B v (fs.take k ++ x :: fs.drop k)∧Below B w w':=by
 have hl:=o.len
 obtain ⟨cur,hg,hBg,hcm,hcs,htk⟩:∃ cur:Array Value,w.heap[g]?=some (.cells cur 115 (0,0))∧B≤g∧c≤maxLen∧cur.size=c * 3∧cur.toList.take (n * 3)=flatS fvG fs:=by
  rcases o.2 with ⟨h1,h2⟩ | ⟨g',cap,cur,h1,hb,hg,h3,h4,h5,h6⟩
  ·cases h1
  ·cases h1
   rw [hl] at h6
   exact ⟨cur,hg,hb,h4,h5,h6⟩
 have hc63:c≤9223372036854775807:=by unfold maxLen at hcm;omega
 have hinf:(Tryz.prog.info? 115).map (·.size)=some 3:=by
  obtain ⟨i0,hi,hz0,hz1,hz2⟩:=info_parts infoFail
  rw [hi]
  simp [hz1]
 have hov:∀ lb cb,(callFunc 121 #[.slice (some ⟨vb,0,none⟩) 1 1,.slice (some ⟨g,(k+1) * 3,none⟩) lb cb]).run Tryz.prog w=.ok (.value (.bool false)) w:=fun lb cb=>by
  obtain ⟨i0,hi,hz0,hz1,hz2⟩:=info_parts infoFail
  rw [run_callFunc_extern Tryz.func121 (by kernel_rfl) (by kernel_rfl) (by kernel_rfl) (e:=Extern.SlicesOverlaps.overlaps #[38,38] #[4]) (by kernel_rfl),
   Lib.run_overlaps_apart w 38 4 115 Tryz.underlying38 3 (fun w=>by simp [sizeOf,typeInfo,hi,hz1]) ⟨vb,0,none⟩ ⟨g,(k+1) * 3,none⟩ 1 1 lb cb hne tv 115 3 (c * 3) (by simp [World.shape?,hv]) (by simp [World.shape?,hg,hcs]) (by omega) (by simp [World.frozen?,hv]) (by simp [World.frozen?,hv])]
  rfl
 have hdl:(flatS fvG (fs.drop k)).length=(n - k) * 3:=by rw [flatS_len fvG_len,List.length_drop,hl]
 have hcell:∀ (W:World) j v,W.heap[g]?=some (.cells cur 115 (0,0))→(flatS fvG (fs.drop k))[j]?=some v→W.cell? ⟨g,k * 3+j,none⟩=some v:=by
  intro W j v hW hj
  have hjl:=(List.getElem?_eq_some_iff.1 hj).1
  rw [← drop_flat k (by omega),List.getElem?_drop,← htk,List.getElem?_take] at hj
  split at hj
  ·simp only [World.cell?,hW]
   rw [Array.getElem?_toList] at hj
   simpa using hj
  ·cases hj
 have hcp1:∀ (W:World) ty ad dl dc sa sl sc,W.heap[g]?=some (.cells cur 115 (0,0))→ad=⟨g,(k+1) * 3,none⟩→dl=n - k→sa=⟨g,k * 3,none⟩→sl=n+1 - k→(Builtin.copy_ #[38,38] ty #[.slice (some ad) dl dc,.slice (some sa) sl sc]).run Tryz.prog W=.ok (goInt ((n - k:Nat):Int)) (W.setRow g (cur.toList.take ((k+1) * 3) ++ flatS fvG (fs.drop k) ++ cur.toList.drop ((k+1) * 3+(flatS fvG (fs.drop k)).length)).toArray):=by
  rintro W ty ad dl dc sa sl sc hW rfl rfl rfl rfl
  exact run_copy_rowK W _ _ ty 115 g ((k+1) * 3) (n - k) dc ⟨g,k * 3,none⟩ (n+1 - k) sc 3 (n - k) cur 115 _ Tryz.underlying38 hinf hW (by simp only [Nat.min_def];split <;> omega) hdl (fun j v hj=>by rw [addn];exact hcell W j v hW hj) (by rw [hdl,hcs];omega) (oneFail _)
 obtain ⟨C1,hC1⟩:∃ C1:Array Value,C1=(cur.toList.take ((k+1) * 3) ++ flatS fvG (fs.drop k) ++ cur.toList.drop ((k+1) * 3+(flatS fvG (fs.drop k)).length)).toArray:=⟨_,rfl⟩
 rw [← hC1] at hcp1
 have hC1s:C1.size=c * 3:=by
  rw [hC1]
  simp only [List.size_toArray,List.length_append,List.length_take,List.length_drop,Array.length_toList,hdl,hcs]
  omega
 have hcp2:∀ (W:World) ty ad dl dc sa sl sc,W.heap[g]?=some (.cells C1 115 (0,0))→W.heap[vb]?=some (.cells #[.string x.mc,.int .i64 x.ct,.int .i64 x.un] tv (0,0))→ad=⟨g,k * 3,none⟩→dl=n+1 - k→sa=⟨vb,0,none⟩→sl=1→(Builtin.copy_ #[38,38] ty #[.slice (some ad) dl dc,.slice (some sa) sl sc]).run Tryz.prog W=.ok (goInt ((1:Nat):Int)) (W.setRow g (C1.toList.take (k * 3) ++ fvG x ++ C1.toList.drop (k * 3+(fvG x).length)).toArray):=by
  rintro W ty ad dl dc sa sl sc hW hX rfl rfl rfl rfl
  exact run_copy_rowK W _ _ ty 115 g (k * 3) (n+1 - k) dc ⟨vb,0,none⟩ 1 sc 3 1 C1 115 (fvG x) Tryz.underlying38 hinf hW (by simp only [Nat.min_def];split <;> omega) rfl (fun j v hj=>by rw [addn,Nat.zero_add];exact xCells hX j v hj) (by rw [hC1s];show k * 3+3≤_;omega) (by intro v hv;exact oneFail [x] v (by rw [flatS_one];exact hv))
 obtain ⟨C2,hC2⟩:∃ C2:Array Value,C2=(C1.toList.take (k * 3) ++ fvG x ++ C1.toList.drop (k * 3+(fvG x).length)).toArray:=⟨_,rfl⟩
 rw [← hC2] at hcp2
 have HF:Hid (C2.size=c * 3∧C2.toList.take ((n+1) * 3)=flatS fvG (fs.take k ++ x :: fs.drop k)):=by
  have e1:C1.toList.take (k * 3)=flatS fvG (fs.take k):=by
   rw [hC1]
   simp only []
   rw [List.take_append_of_le_length (by rw [List.length_append,List.length_take,Array.length_toList,hcs];omega),List.take_append_of_le_length (by rw [List.length_take,Array.length_toList,hcs];omega),List.take_take,Nat.min_eq_left (by omega),← take_flat k (by omega),← htk,List.take_take,Nat.min_eq_left (by omega)]
  have e2:C1.toList.drop (k * 3+3)=flatS fvG (fs.drop k) ++ cur.toList.drop ((k+1) * 3+(flatS fvG (fs.drop k)).length):=by
   rw [hC1]
   simp only []
   rw [List.append_assoc,show k * 3+3=(cur.toList.take ((k+1) * 3)).length by rw [List.length_take,Array.length_toList,hcs];omega,List.drop_left]
  refine ⟨?_,?_⟩
  ·rw [hC2]
   simp only [List.size_toArray,List.length_append,List.length_take,List.length_drop,Array.length_toList,hC1s]
   show min (k * 3) (c * 3)+3+(c * 3 - (k * 3+3))=_
   omega
  ·rw [hC2]
   show (C1.toList.take (k * 3) ++ fvG x ++ C1.toList.drop (k * 3+3)).take _=_
   rw [e1,e2,flatS_append,flatS_cons,← List.append_assoc,← List.append_assoc]
   exact List.take_left' (by rw [List.length_append,List.length_append,hdl,flatS_len fvG_len,List.length_take,hl];show min k n * 3+3+(n - k) * 3=_;omega)
 clear hC1 hC2 hC1s htk hcell hdl
 have H1:Hid _:=hcp1
 have H2:Hid _:=hcp2
 have HG:Hid (w.heap[g]?=some (.cells cur 115 (0,0))):=hg
 have HV:Hid (w.heap[vb]?=some (.cells #[.string x.mc,.int .i64 x.ct,.int .i64 x.un] tv (0,0))):=hv
 have HL:Hid (fs.length=n∧cur.size=c * 3):=⟨hl,hcs⟩
 clear hcp1 hcp2 hg hv hl hcs hinf o
 have hw1:IntKind.i64.wrap ((k:Int)+1)=(k:Int)+1:=by rw [IntKind.wrap_i64];omega
 have mixed:Tryz.prog.follows .mixedOrders=true:=by kernel_rfl
 have hb1:(0:Int)≤(k:Int)+1:=by omega
 have htn:((k:Int)+1).toNat=k+1:=by omega
 have hb3:(k:Int)≤(n:Int)+1:=by omega
 have hb5:(k:Int)≤(n:Int):=by omega
 have hin:k≤n:=by omega
 have hb2:¬ (c=k+1):=by omega
 have hb4:¬ (c=k):=by omega
 go_enter Tryz.func88,Tryz.ntmps88
 go_wp2_with (simp only [hov])
 go_region_law_o (refine step_copyR rfl _ _ 38 38 rfl (.slice (some ⟨g,(k+1) * 3,none⟩) (n+1 - (k+1)) (c - (k+1))) (.slice (some ⟨g,k * 3,none⟩) (n+1 - k) (c - k)) (by simp [Act.eval,Act.put]) (by simp [Act.eval,Act.put]) (H1.out _ _ _ _ _ _ _ _ HG.out rfl (by omega) rfl rfl) ?_)
 have HW:Hid (∀ W:World,W.heap[g]?=some (.cells C1 115 (0,0))→OwnS fvG 3 115 (W.setRow g C2) B (.slice (some ⟨g,0,none⟩) (n+1) c) (fs.take k ++ x :: fs.drop k)):=by
  intro W hW
  have hLl:(fs.take k ++ x :: fs.drop k).length=n+1:=by
   have:=HL.out.1
   simp
   omega
  refine ⟨by rw [flatS_len fvG_len],.inr ⟨g,c,C2,by rw [hLl],hBg,setRow_same hW C2,by omega,hcm,HF.out.1,by rw [hLl];exact HF.out.2⟩⟩
 have hc2:=H2.out (w.drew.setRow g C1) 3 ⟨g,k * 3,none⟩ (n+1 - k) (c - k) ⟨vb,0,none⟩ 1 1 (setRow_same (w:=w.drew) HG.out _) ((setRow_other _ g vb _ hne).trans HV.out) rfl rfl rfl rfl
 go_wp2
 go_ret
 refine ⟨_,rfl,HW.out _ (setRow_same (w:={ w with drawn:=w.drawn+1 }) HG.out _),?_⟩
 have d0:Below B w { w with drawn:=w.drawn+1 }:=⟨rfl,rfl,rfl,Nat.le_refl _,fun _ _=>rfl⟩
 refine (d0.trans (setRow_below (w:={ w with drawn:=w.drawn+1 }) hBg hB C1)).trans (setRow_below hBg ?_ C2)
 show B≤(World.setRow { w with drawn:=w.drawn+1 } g C1).heap.size
 simp [World.setRow]
 exact hB
theorem zero_cells (n:Nat):(Builtin.zeroCells (Value.agg #[.string ⟨#[]⟩,.int .i64 0,.int .i64 0]).cells n).size=n * 3:=by rw [size_zeroCells];rfl
set_option maxHeartbeats 4000000 in
theorem insFail_grow (g n c k vb:Nat) (fs:List FailV) (x:FailV) (B:Nat) (tv:TypeId) (w:World)
  (o:OwnS fvG 3 115 w B (.slice (some ⟨g,0,none⟩) n c) fs) (hB:B≤w.heap.size) (hk:k<n) (hn:n≤2000) (hr:c<n+1) (hv:w.heap[vb]?=some (.cells #[.string x.mc,.int .i64 x.ct,.int .i64 x.un] tv (0,0))) :
  Calls Tryz.prog 88 #[.slice (some ⟨g,0,none⟩) n c,.int .i64 k,.slice (some ⟨vb,0,none⟩) 1 1] w fun e w'=>∃ v,e=.returned v∧OwnS fvG 3 115 w' B v (fs.take k ++ x :: fs.drop k)∧Below B w w':=by
 have hl:=o.len
 obtain ⟨cur,hg,hBg,hcm,hcs,htk,hnc⟩:∃ cur:Array Value,w.heap[g]?=some (.cells cur 115 (0,0))∧B≤g∧c≤maxLen∧cur.size=c * 3∧cur.toList.take (n * 3)=flatS fvG fs∧n≤c:=by
  rcases o.2 with ⟨h1,h2⟩ | ⟨g',cap,cur,h1,hb,hg,h3,h4,h5,h6⟩
  ·cases h1
  ·cases h1
   rw [hl] at h6 h3
   exact ⟨cur,hg,hb,h4,h5,h6,h3⟩
 obtain rfl:c=n:=by omega
 obtain ⟨i0,hi,hz0,hz1,hz2⟩:=info_parts infoFail
 have hinf:(Tryz.prog.info? 115).map (·.size)=some 3:=by rw [hi];simp [hz1]
 have hgw:g<w.heap.size:=(Array.getElem?_eq_some_iff.1 hg).1
 have hvw:vb<w.heap.size:=(Array.getElem?_eq_some_iff.1 hv).1
 have hkk:(c:Int)+1 - (k:Int)=((c+1 - k:Nat):Int):=by omega
 have hik:k+(c+1 - k)=c+1:=by omega
 have hcell0:∀ (W:World) j v,W.heap[g]?=some (.cells cur 115 (0,0))→(flatS fvG fs)[j]?=some v→W.cell? ⟨g,j,none⟩=some v:=by
  intro W j v hW hj
  rw [← htk,List.getElem?_take] at hj
  split at hj
  ·simp only [World.cell?,hW]
   rw [Array.getElem?_toList] at hj
   simpa using hj
  ·cases hj
 have hold:(Builtin.firstCells i0.size k (.slice (some ⟨g,0,none⟩) k c)).run Tryz.prog w.drew=.ok (flatS fvG (fs.take k)).toArray w.drew:=by
  rw [hz1]
  exact run_firstCells_some w.drew 3 k ⟨g,0,none⟩ k c (flatS fvG (fs.take k)) (by rw [flatS_len fvG_len,List.length_take];omega) (fun j v hj=>by
   rw [addn,Nat.zero_add]
   rw [← take_flat k (by omega),List.getElem?_take] at hj
   split at hj
   ·exact hcell0 w.drew j v hg hj
   ·cases hj)
 have hrz:∀ ty,(Builtin.append_ #[38,3] ty #[.slice (some ⟨g,0,none⟩) k c,.int .i64 ((c:Int)+1 - (k:Int))]).run Tryz.prog w =
   .ok (.slice (some ⟨w.heap.size,0,none⟩) (c+1) (grownCap w (c+1) c 115)) (w.drew.alloc (.cells ((flatS fvG (fs.take k)).toArray ++ Builtin.zeroCells (Value.agg #[.string ⟨#[]⟩,.int .i64 0,.int .i64 0]).cells (c+1 - k) ++ Builtin.zeroCells (Value.agg #[.string ⟨#[]⟩,.int .i64 0,.int .i64 0]).cells (grownCap w (c+1) c 115 - (c+1))) 115)):=fun ty=>by
  have h:=Lib.run_append_grow_zeros w 38 3 ty 115 i0 _ .i64 .i64 Tryz.underlying38 Tryz.underlying3 hi hz0 (some ⟨g,0,none⟩) k c (flatS fvG (fs.take k)) hold (c+1 - k) (by omega) (by omega) (by omega) (by omega) (by rw [hz2];omega) (by rw [hz2,hik];exact growslice_fits (by omega) (by omega))
  rw [hik] at h
  rw [hkk]
  exact h
 obtain ⟨G,hG⟩:∃ G,G=grownCap w (c+1) c 115:=⟨_,rfl⟩
 have hGn:c+1≤G:=by rw [hG];exact grownCap_ge w _ _ _
 have hGm:G≤maxLen:=by rw [hG];exact grownCap_le_maxLen w (c+1) c 115 (by unfold maxLen;omega)
 obtain ⟨C0,hC0⟩:∃ C0:Array Value,C0=(flatS fvG (fs.take k)).toArray ++ Builtin.zeroCells (Value.agg #[.string ⟨#[]⟩,.int .i64 0,.int .i64 0]).cells (c+1 - k) ++ Builtin.zeroCells (Value.agg #[.string ⟨#[]⟩,.int .i64 0,.int .i64 0]).cells (G - (c+1)):=⟨_,rfl⟩
 rw [← hG] at hrz
 rw [← hC0] at hrz
 have htl:(flatS fvG (fs.take k)).length=k * 3:=by rw [flatS_len fvG_len,List.length_take];omega
 have hdl:(flatS fvG (fs.drop k)).length=(c - k) * 3:=by rw [flatS_len fvG_len,List.length_drop,hl]
 have hC0s:C0.size=G * 3:=by
  rw [hC0,Array.size_append,Array.size_append,zero_cells,zero_cells,List.size_toArray,htl]
  omega
 have hC0t:C0.toList.take (k * 3)=flatS fvG (fs.take k):=by
  rw [hC0]
  simp only [Array.toList_append,List.append_assoc]
  exact List.take_left' htl
 obtain ⟨W1,hW1⟩:∃ W1,W1=w.drew.alloc (.cells C0 115):=⟨_,rfl⟩
 have hN1:W1.heap[w.heap.size]?=some (.cells C0 115 (0,0)):=by rw [hW1];exact heap_alloc_new w.drew _
 have hg1:W1.heap[g]?=some (.cells cur 115 (0,0)):=by rw [hW1];exact (heap_alloc_old w.drew _ hgw).trans hg
 have hv1:W1.heap[vb]?=some (.cells #[.string x.mc,.int .i64 x.ct,.int .i64 x.un] tv (0,0)):=by rw [hW1];exact (heap_alloc_old w.drew _ hvw).trans hv
 have hb1:Below B w W1:=by
  rw [hW1]
  exact ⟨rfl,rfl,rfl,by simp,fun q hq=>heap_alloc_old w.drew _ (show q<w.heap.size by omega)⟩
 rw [← hW1] at hrz
 obtain ⟨C1,hC1⟩:∃ C1:Array Value,C1=(C0.toList.take (k * 3) ++ fvG x ++ C0.toList.drop (k * 3+(fvG x).length)).toArray:=⟨_,rfl⟩
 have hc1:∀ ty dc,(Builtin.copy_ #[38,38] ty #[.slice (some ⟨w.heap.size,k * 3,none⟩) (c+1 - k) dc,.slice (some ⟨vb,0,none⟩) 1 1]).run Tryz.prog W1=.ok (goInt ((1:Nat):Int)) (W1.setRow w.heap.size C1):=fun ty dc=>by
  rw [hC1]
  exact run_copy_rowK W1 _ _ ty 115 w.heap.size (k * 3) (c+1 - k) dc ⟨vb,0,none⟩ 1 1 3 1 C0 115 (fvG x) Tryz.underlying38 hinf hN1 (by simp only [Nat.min_def];split <;> omega) rfl (fun j v hj=>by rw [addn,Nat.zero_add];exact xCells hv1 j v hj) (by rw [hC0s];show k * 3+3≤_;omega) (by intro v hv;exact oneFail [x] v (by rw [flatS_one];exact hv))
 have hC1s:C1.size=G * 3:=by
  rw [hC1]
  simp only [List.size_toArray,List.length_append,List.length_take,List.length_drop,Array.length_toList,hC0s]
  show min (k * 3) (G * 3)+3+(G * 3 - (k * 3+3))=_
  omega
 obtain ⟨W2,hW2⟩:∃ W2,W2=W1.setRow w.heap.size C1:=⟨_,rfl⟩
 rw [← hW2] at hc1
 have hN2:W2.heap[w.heap.size]?=some (.cells C1 115 (0,0)):=by rw [hW2];exact setRow_same hN1 C1
 have hg2:W2.heap[g]?=some (.cells cur 115 (0,0)):=by rw [hW2];exact (setRow_other _ _ g _ (by omega)).trans hg1
 have hb2:Below B w W2:=by
  rw [hW2]
  exact hb1.trans (setRow_below hB (Nat.le_trans hB (Nat.le_of_lt (Array.getElem?_eq_some_iff.1 hN1).1)) C1)
 obtain ⟨C2,hC2⟩:∃ C2:Array Value,C2=(C1.toList.take ((k+1) * 3) ++ flatS fvG (fs.drop k) ++ C1.toList.drop ((k+1) * 3+(flatS fvG (fs.drop k)).length)).toArray:=⟨_,rfl⟩
 have hcp:∀ (W:World) ty ad dl dc sa sl sc,W.heap[w.heap.size]?=some (.cells C1 115 (0,0))→W.heap[g]?=some (.cells cur 115 (0,0))→ad=⟨w.heap.size,(k+1) * 3,none⟩→dl=c - k→sa=⟨g,k * 3,none⟩→sl=c - k→(Builtin.copy_ #[38,38] ty #[.slice (some ad) dl dc,.slice (some sa) sl sc]).run Tryz.prog W=.ok (goInt ((c - k:Nat):Int)) (W.setRow w.heap.size C2):=by
  rintro W ty ad dl dc sa sl sc hW hWg rfl rfl rfl rfl
  rw [hC2]
  exact run_copy_rowK W _ _ ty 115 w.heap.size ((k+1) * 3) (c - k) dc ⟨g,k * 3,none⟩ (c - k) sc 3 (c - k) C1 115 _ Tryz.underlying38 hinf hW (by simp) hdl (fun j v hj=>by rw [addn];exact hcell0 W _ v hWg (by rw [← drop_flat k (by omega),List.getElem?_drop] at hj;exact hj)) (by rw [hdl,hC1s];omega) (oneFail _)
 have hF:OwnS fvG 3 115 (W2.setRow w.heap.size C2) B (.slice (some ⟨w.heap.size,0,none⟩) (c+1) G) (fs.take k ++ x :: fs.drop k):=by
  have hLl:(fs.take k ++ x :: fs.drop k).length=c+1:=by
   simp
   omega
  have e1:C1.toList.take ((k+1) * 3)=flatS fvG (fs.take k) ++ fvG x:=by
   rw [hC1]
   show (C0.toList.take (k * 3) ++ fvG x ++ C0.toList.drop (k * 3+3)).take _=_
   rw [hC0t]
   exact List.take_left' (by rw [List.length_append,htl];show k * 3+3=_;omega)
  refine ⟨by rw [flatS_len fvG_len],.inr ⟨w.heap.size,G,C2,by rw [hLl],hB,setRow_same hN2 C2,by omega,hGm,?_,?_⟩⟩
  ·rw [hC2]
   simp only [List.size_toArray,List.length_append,List.length_take,List.length_drop,Array.length_toList,hC1s,hdl]
   omega
  ·rw [hC2,hLl]
   show (C1.toList.take ((k+1) * 3) ++ flatS fvG (fs.drop k) ++ _).take _=_
   rw [e1,flatS_append,flatS_cons,← List.append_assoc]
   exact List.take_left' (by rw [List.length_append,List.length_append,htl,hdl];show k * 3+3+(c - k) * 3=_;omega)
 have hbF:Below B w (W2.setRow w.heap.size C2):=hb2.trans (setRow_below hB (Nat.le_trans hB (Nat.le_of_lt (Array.getElem?_eq_some_iff.1 hN2).1)) C2)
 have H2:Hid _:=hcp
 have HF:Hid _:=hF
 have HB:Hid _:=hbF
 have HN:Hid _:=hN2
 have HG:Hid _:=hg2
 have hG63:G≤9223372036854775807:=by unfold maxLen at hGm;omega
 clear hcp hF hbF hC2 hC1 hC0 hC0t hC0s hC1s hN1 hN2 hg1 hg2 hv1 hb1 hb2 hold hcell0 htk htl hdl hinf o hg hv hG hi hz0 hz1 hz2 hW1 hW2 hcs hkk hik
 have hw1:IntKind.i64.wrap ((k:Int)+1)=(k:Int)+1:=by rw [IntKind.wrap_i64];omega
 have mixed:Tryz.prog.follows .mixedOrders=true:=by kernel_rfl
 have hb1:(0:Int)≤(k:Int)+1:=by omega
 have htn:((k:Int)+1).toNat=k+1:=by omega
 have hb3:(k:Int)≤(c:Int):=by omega
 have hin:k≤c:=by omega
 have hGi:¬ (G=k):=by omega
 have hGim:¬ (G=k+1):=by omega
 have hci:¬ (c=k):=by omega
 go_enter Tryz.func88,Tryz.ntmps88
 go_wp2_with (at_builtin;refine wpl_appendR _ rfl _ _ _ _ rfl _ _ rfl rfl (hrz _) ?_)
 go_region_law_o (refine step_copyR rfl _ _ 38 38 rfl (.slice (some ⟨w.heap.size,(k+1) * 3,none⟩) (c+1 - (k+1)) (G - (k+1))) (.slice (some ⟨g,k * 3,none⟩) (c - k) (c - k)) (by simp [Act.eval,Act.put]) (by simp [Act.eval,Act.put]) (H2.out _ _ _ _ _ _ _ _ HN.out HG.out rfl (by omega) rfl rfl) ?_)
 go_wp2
 go_ret
 exact ⟨_,rfl,HF.out,⟨HB.out.os,HB.out.tape,HB.out.output,HB.out.size,HB.out.block⟩⟩
theorem insFail_any (a:Option Addr) (n c k vb:Nat) (fs:List FailV) (x:FailV) (B:Nat) (tv:TypeId) (w:World)
  (o:OwnS fvG 3 115 w B (.slice a n c) fs) (hB:B≤w.heap.size) (hk:k≤n) (hn:n≤2000) (hv:w.heap[vb]?=some (.cells #[.string x.mc,.int .i64 x.ct,.int .i64 x.un] tv (0,0))) (hne:∀ g,a=some ⟨g,0,none⟩→vb ≠ g) :
  Calls Tryz.prog 88 #[.slice a n c,.int .i64 k,.slice (some ⟨vb,0,none⟩) 1 1] w fun e w'=>∃ v,e=.returned v∧OwnS fvG 3 115 w' B v (fs.take k ++ x :: fs.drop k)∧Below B w w':=by
 have hl:=o.len
 by_cases he:k=n
 ·subst he
  have e:fs.take k ++ x :: fs.drop k=fs ++ [x]:=by rw [List.take_of_length_le (by omega),List.drop_of_length_le (by omega)]
  rw [e]
  exact insFail_end a k c vb fs x B tv w o hB hn hv
 ·obtain ⟨g,rfl,-,-,-⟩:=o.form (by omega)
  by_cases hr:n+1≤c
  ·exact insFail_room g n c k vb fs x B tv w o hB (by omega) hr hv (hne g rfl)
  ·exact insFail_grow g n c k vb fs x B tv w o hB (by omega) hn (by omega) hv
open Go.RowKit Go.PlainAid Go.Sort
theorem wsets_cells {g:Nat}:∀ (vs:List Value) (i:Nat) (w:World),wsets w g i vs=w.setCells g i vs
 | [],_,_=>rfl
 | v :: r,i,w=>by
  rw [World.setCells]
  exact wsets_cells r (i+1) _
section RowP
variable {α:Type} {c:α→List Value} {K:Nat} {e:TypeId} {w:World} {B g n cap:Nat} {xs:List α}
theorem OwnS.there1 (h:OwnS c K e w B (.slice (some ⟨g,0,none⟩) n cap) xs) (hK:∀ x,(c x).length=K) {i:Nat} {x:α} (hx:xs[i]?=some x) (j:Nat) (hj:j<K):w.there g (i * K+j) 1:=by
 intro m hm
 obtain rfl:m=0:=by omega
 have hv:(c x)[j]?=some ((c x)[j]'(by rw [hK];exact hj)):=List.getElem?_eq_getElem _
 obtain ⟨h1,h2⟩:=h.cell hK hx hv
 exact ⟨by rw [Nat.add_zero,h1];rfl,h2⟩
theorem OwnS.thereE (h:OwnS c K e w B (.slice (some ⟨g,0,none⟩) n cap) xs) (hK:∀ x,(c x).length=K) {i:Nat} {x:α} (hx:xs[i]?=some x):w.there g (i * K) K:=by
 intro m hm
 have:=h.there1 hK hx m hm 0 (by omega)
 rw [Nat.add_zero] at this
 exact this
theorem OwnS.putE (h:OwnS c K e w B (.slice (some ⟨g,0,none⟩) n cap) xs) (hK:∀ x,(c x).length=K) {i:Nat} (hi:i<n) (y:α) :
  OwnS c K e (w.setCells g (i * K) (c y)) B (.slice (some ⟨g,0,none⟩) n cap) (xs.set i y)∧w.grownBy (w.setCells g (i * K) (c y)) (some g):=by
 have:=h.store hK hi y
 rw [wsets_cells] at this
 exact this
end RowP
theorem wpl_putC {P:Program} {ops:Array Oper} {rest:List Oper} {op:Oper} {a:Act} {w:World} {Q:Exit→Act→World→Prop} (t:TypeId) (hgd:op.guard=none) (x y:Operand) (ho:op.op=.store t x y)
  (q o:Nat) (v:Value) (hx:a.eval x=.pointer (some ⟨q,o,none⟩)) (hy:a.eval y=v) (h0:w.there q o 1) (hi:(P.info? t).map (·.size)=some 1) (h1:v.oneCell'=true)
  (h:∀ w',w'=w.setCell ⟨q,o,none⟩ v→wpList P ops Q rest (a.put op.dst undef) w'):wpList P ops Q (op :: rest) a w :=
 wpList_plain hgd fun _ hK=>by
  unfold Oper.wp execOp
  simp only [ho,hx,hy,Instr.storeAt,Instr.sureAddr,Sem.run_bind,Sem.run_pure,Result.andThen_ok,run_storeVar_at w q o t v h0 hi h1]
  exact hK _ _ (h _ rfl)
theorem wpl_putE {P:Program} {ops:Array Oper} {rest:List Oper} {op:Oper} {a:Act} {w:World} {Q:Exit→Act→World→Prop} (t:TypeId) (hgd:op.guard=none) (x y:Operand) (ho:op.op=.store t x y)
  (q o:Nat) (cells:Array Value) (hx:a.eval x=.pointer (some ⟨q,o,none⟩)) (hy:a.eval y=.agg cells) (h0:w.there q o cells.size) (hi:(P.info? t).map (·.size)=some cells.size) (h1:cells.toList.all (·.oneCell')=true)
  (h:∀ w',w'=w.setCells q o cells.toList→wpList P ops Q rest (a.put op.dst undef) w'):wpList P ops Q (op :: rest) a w :=
 wpList_store_mid hgd t x y ho q o cells hx hy h0 hi (by rw [← Array.all_toList];exact h1) (h _ rfl)
open Go.Lib Go.RowKit Go.PlainAid Go.Proofs.YtojcakkkakmniaaGreatDoor.Bt Go.Sort
def cmpF (mc:ByteArray) (z:FailV):Int:=Lib.compareBytes z.mc.data.toList mc.data.toList
theorem cmpF_lt (mc:ByteArray) (z:FailV):(cmpF mc z<0) ↔ ltS z.mc mc=true:=by
 unfold cmpF ltS
 rw [ByteArray.toList_eq,ByteArray.toList_eq,← cby_lt,decide_eq_true_eq]
theorem cmpF_eq (mc:ByteArray) (z:FailV):(cmpF mc z == 0)=eqM mc z:=by
 unfold cmpF eqM
 rw [ByteArray.toList_eq,ByteArray.toList_eq,← cby_eq]
 rfl
theorem failCmp_any (z:FailV) (mc:ByteArray) (w:World) :
  Calls Tryz.prog 116 #[.agg #[.string z.mc,.int .i64 z.ct,.int .i64 z.un],.string mc] w fun e w'=>e=.returned (.int .i64 (cmpF mc z))∧Grw w w':=by
 have HC:Hid (∀ w,Calls Tryz.prog 117 #[.string z.mc,.string mc] w fun e w'=>e=.returned (.int .i64 (cmpF mc z))∧w'=w):=fun w=>Tryz.strings_Compare z.mc mc w
 generalize cmpF mc z=r at HC ⊢
 go_enter Tryz.func116,Tryz.ntmps116
 go_wp2_with fail
 refine (HC.out _).mono ?_
 rintro e w2 ⟨rfl,rfl⟩
 go_wp2
 go_ret
 exact ⟨rfl,(Grw.refl _).alloc _⟩
set_option maxHeartbeats 4000000 in
theorem bsFail_any (a:Option Addr) (n c:Nat) (fs:List FailV) (mc:ByteArray) (w:World) (h:Rw FaR 3 w a fs) (hl:fs.length=n) (hn:n≤1048576) (hr:risB faB ltF fs=true) :
  Calls Tryz.prog 115 #[.slice a n c,.string mc,.func (.func 116) #[] #[]] w fun e w'=>e=.returned (.tuple #[.int .i64 (fkN mc fs:Nat),.bool (atF mc fs (fun _=>true))])∧Grw w w':=by
 have RY:Hid (Rw FaR 3 w a fs):=h
 have M:Hid (∀ (i j:Nat) (x y:FailV),i≤j→fs[i]?=some y→fs[j]?=some x→ltS x.mc mc=true→ltS y.mc mc=true):=fun i j x y hij hy hx hl=>ris_down hr hij hy hx hl
 clear h hr
 have eg:∀ args w,(callFunc 116 args).run Tryz.prog w=.ok (.enter 116 args) w:=enters_of Tryz.func116 (by kernel_rfl) rfl
 have HE:Hid (fkN mc fs≤fs.length):=fk_le
 obtain ⟨K,hK⟩:∃ K,K=fkN mc fs:=⟨_,rfl⟩
 obtain ⟨T,hT⟩:∃ T,T=atF mc fs (fun _=>true):=⟨_,rfl⟩
 have EK:Hid (K=fkN mc fs):=hK
 have ET:Hid (T=atF mc fs (fun _=>true)):=hT
 rw [← hK,← hT]
 clear hK hT
 go_enter Tryz.func115,Tryz.ntmps115
 go_wp2
 go_loopg [9,10] n (fun kx s9 s10 wr=>∃ lo hi:Nat,s9=.int .i64 lo∧s10=.int .i64 hi∧lo≤hi∧hi≤n∧hi - lo≤kx∧Hid (Grw w wr) ∧
  Hid ((∀ t x,t<lo→fs[t]?=some x→ltS x.mc mc=true)∧(∀ t x,hi≤t→fs[t]?=some x→ltS x.mc mc=false)))
 case atStart=>exact ⟨0,n,rfl,rfl,Nat.zero_le _,Nat.le_refl _,by omega,Grw.refl _,(⟨fun t x ht=>absurd ht (Nat.not_lt_zero _),fun t x h1 h2=>by have:=(List.getElem?_eq_some_iff.1 h2).1;omega⟩:(∀ t x,t<0→fs[t]?=some x→ltS x.mc mc=true)∧(∀ t x,n≤t→fs[t]?=some x→ltS x.mc mc=false))⟩
 case round =>
  obtain ⟨lo,hi,rfl,rfl,hlh,hin,hg,HG,I⟩:=hrel
  by_cases hlt:lo<hi
  ·obtain ⟨z,hx⟩:=at_of hl (k:=(lo+hi) / 2) (by omega)
   obtain ⟨bk,off,vs,rfl,hb,hvl,hR,hc⟩:=RY.out.at FaR.kp HG.out.below hx
   obtain ⟨rfl,-⟩:=hR
   have q0:wr.cell? ⟨bk,off+(lo+hi) / 2 * 3,none⟩=some (.string z.mc):=hc 0 _ rfl
   have q1:wr.cell? ⟨bk,off+(lo+hi) / 2 * 3+1,none⟩=some (.int .i64 z.ct):=hc 1 _ rfl
   have q2:wr.cell? ⟨bk,off+(lo+hi) / 2 * 3+2,none⟩=some (.int .i64 z.un):=hc 2 _ rfl
   have HX:Hid (fs[(lo+hi) / 2]?=some z):=hx
   have HP:Hid (∀ W,Calls Tryz.prog 116 #[.agg #[.string z.mc,.int .i64 z.ct,.int .i64 z.un],.string mc] W fun e w'=>e=.returned (.int .i64 (cmpF mc z))∧Grw W w'):=fun W=>failCmp_any z mc W
   have hcl:=cmpF_lt mc z
   generalize cmpF mc z=r at HP hcl
   clear hc hvl hx
   by_cases hyx:r<0
   ·have hz:=hcl.1 hyx
    clear hcl
    go_wp2_with (go_at_fn 116;refine (HP.out _).mono ?_;rintro e w' ⟨rfl,g1⟩)
    have HG1:Hid (Grw w _):=HG.out.trans g1
    clear g1 HG
    go_roundg (hi - ((lo+hi) / 2+1))
    case measure=>omega
    case rel =>
     have I2:Hid ((∀ t x,t<(lo+hi) / 2+1→fs[t]?=some x→ltS x.mc mc=true)∧(∀ t x,hi≤t→fs[t]?=some x→ltS x.mc mc=false)):=⟨fun t x ht hx=>M.out t ((lo+hi) / 2) z x (by omega) hx HX.out hz,I.out.2⟩
     exact ⟨(lo+hi) / 2+1,hi,by rw [show ((lo:Int)+(hi:Int)) / 2+1=(((lo+hi) / 2+1:Nat):Int) by omega],rfl,by omega,hin,Nat.le_refl _,HG1,I2⟩
   ·have hz:ltS z.mc mc=false:=by
     cases hq:ltS z.mc mc with
     | false=>rfl
     | true=>exact absurd (hcl.2 hq) hyx
    clear hcl
    go_wp2_with (go_at_fn 116;refine (HP.out _).mono ?_;rintro e w' ⟨rfl,g1⟩)
    have HG1:Hid (Grw w _):=HG.out.trans g1
    clear g1 HG
    go_roundg ((lo+hi) / 2 - lo)
    case measure=>omega
    case rel =>
     have I2:Hid ((∀ t x,t<lo→fs[t]?=some x→ltS x.mc mc=true)∧(∀ t x,(lo+hi) / 2≤t→fs[t]?=some x→ltS x.mc mc=false)):=⟨I.out.1,fun t x ht hx=>by
      cases hq:ltS x.mc mc with
      | false=>rfl
      | true=>rw [M.out _ t x z ht HX.out hx hq] at hz;cases hz⟩
     exact ⟨lo,(lo+hi) / 2,rfl,by rw [show ((lo:Int)+(hi:Int)) / 2=(((lo+hi) / 2:Nat):Int) by omega],by omega,by omega,Nat.le_refl _,HG1,I2⟩
  ·obtain rfl:hi=lo:=by omega
   obtain rfl:K=hi:=by
    rw [EK.out]
    exact fk_of (by omega) I.out.1 (fun x hx=>I.out.2 _ x (Nat.le_refl _) hx)
   by_cases hn2:K<n
   ·obtain ⟨z,hx⟩:=at_of hl hn2
    obtain ⟨bk,off,vs,rfl,hb,hvl,hR,hc⟩:=RY.out.at FaR.kp HG.out.below hx
    obtain ⟨rfl,-⟩:=hR
    have q0:wr.cell? ⟨bk,off+K * 3,none⟩=some (.string z.mc):=hc 0 _ rfl
    have q1:wr.cell? ⟨bk,off+K * 3+1,none⟩=some (.int .i64 z.ct):=hc 1 _ rfl
    have q2:wr.cell? ⟨bk,off+K * 3+2,none⟩=some (.int .i64 z.un):=hc 2 _ rfl
    have HP:Hid (∀ W,Calls Tryz.prog 116 #[.agg #[.string z.mc,.int .i64 z.ct,.int .i64 z.un],.string mc] W fun e w'=>e=.returned (.int .i64 (cmpF mc z))∧Grw W w'):=fun W=>failCmp_any z mc W
    have hT:Hid (T=eqM mc z):=by
     show T=eqM mc z
     have hx2:=hx
     rw [EK.out] at hx2
     rw [ET.out,atF_at hx2,Bool.and_true]
    have hce:=cmpF_eq mc z
    rw [← hT.out] at hce
    generalize cmpF mc z=r at HP hce
    clear hc hvl hx
    go_wp2_with (go_at_fn 116;refine (HP.out _).mono ?_;rintro e w' ⟨rfl,g1⟩)
    go_ret2
    exact ⟨by first | rfl | rw [hce] | simp [hce],HG.out.trans g1⟩
   ·have hT:T=false:=by
     have hx:fs[fkN mc fs]?=none:=by rw [← EK.out];exact List.getElem?_eq_none (by omega)
     rw [ET.out,atF_no hx]
    subst hT
    go_wp2
    go_ret2
    exact ⟨rfl,HG.out⟩
set_option maxHeartbeats 1000000 in
theorem failPlace_any (a:Option Addr) (n c:Nat) (fs:List FailV) (mc:ByteArray) (w:World) (h:Rw FaR 3 w a fs) (hl:fs.length=n) (hn:n≤1048576) (hr:risB faB ltF fs=true) :
  Calls Tryz.prog 84 #[.slice a n c,.string mc] w fun e w'=>e=.returned (.tuple #[.int .i64 (fkN mc fs:Nat),.bool (atF mc fs (fun _=>true))])∧Grw w w':=by
 have HB:Hid (∀ W,Grw w W→Calls Tryz.prog 115 #[.slice a n c,.string mc,.func (.func 116) #[] #[]] W fun e w'=>e=.returned (.tuple #[.int .i64 (fkN mc fs:Nat),.bool (atF mc fs (fun _=>true))])∧Grw W w'):=fun W g=>bsFail_any a n c fs mc W (h.keep FaR.kp g.below) hl hn hr
 clear h hr
 generalize atF mc fs (fun _=>true)=T at HB ⊢
 generalize fkN mc fs=K at HB ⊢
 go_enter Tryz.func84,Tryz.ntmps84
 go_wp2_with (go_at_call 115;refine (HB.out _ (Grw.refl w)).mono ?_;rintro e w' ⟨rfl,g1⟩)
 go_ret2
 exact ⟨rfl,g1⟩
set_option maxHeartbeats 2000000 in
theorem mustWait_any (a:Option Addr) (n c:Nat) (fs:List FailV) (mc:ByteArray) (now:Int) (w:World) (h:Rw FaR 3 w a fs) (hl:fs.length=n) (hn:n≤1048576) (hr:risB faB ltF fs=true) :
  Calls Tryz.prog 38 #[.slice a n c,.string mc,.int .i64 now] w fun e w'=>e=.returned (.bool (atF mc fs (fun x=>decide (now<x.un))))∧Grw w w':=by
 have HB:Hid (Calls Tryz.prog 84 #[.slice a n c,.string mc] w fun e w'=>e=.returned (.tuple #[.int .i64 (fkN mc fs:Nat),.bool (atF mc fs (fun _=>true))])∧Grw w w'):=failPlace_any a n c fs mc w h hl hn hr
 have RY:Hid (Rw FaR 3 w a fs):=h
 have HT:Hid (atF mc fs (fun _=>true)=true→∃ x,fs[fkN mc fs]?=some x∧atF mc fs (fun x=>decide (now<x.un))=decide (now<x.un)):=fun hq=>by
  cases hx:fs[fkN mc fs]? with
  | none=>rw [atF_no hx] at hq;cases hq
  | some x =>
   rw [atF_at hx,Bool.and_true] at hq
   exact ⟨x,rfl,by rw [atF_at hx,hq,Bool.true_and]⟩
 have HF:Hid (atF mc fs (fun _=>true)=false→atF mc fs (fun x=>decide (now<x.un))=false):=fun hq=>by
  cases hx:fs[fkN mc fs]? with
  | none=>exact atF_no hx
  | some x =>
   rw [atF_at hx,Bool.and_true] at hq
   rw [atF_at hx,hq,Bool.false_and]
 clear h hr
 obtain ⟨R,hR⟩:∃ R,R=atF mc fs (fun x=>decide (now<x.un)):=⟨_,rfl⟩
 rw [← hR] at HT HF ⊢
 clear hR
 generalize atF mc fs (fun _=>true)=T at HB HT HF
 obtain ⟨K,hK⟩:∃ K,K=fkN mc fs:=⟨_,rfl⟩
 rw [← hK] at HB HT
 clear hK
 cases T with
 | false =>
  have hr2:Hid (R=false):=HF.out rfl
  go_enter Tryz.func38,Tryz.ntmps38
  go_wp2_with fail
  refine HB.out.mono ?_
  rintro e w2 ⟨rfl,g1⟩
  go_wp2
  go_ret
  exact ⟨by rw [hr2.out];rfl,g1⟩
 | true =>
  obtain ⟨x,hx,hxr⟩:=HT.out rfl
  have hr2:Hid (R=decide (now<x.un)):=hxr
  have HX:Hid (fs[K]?=some x):=hx
  have hkl:K<n:=by have:=(List.getElem?_eq_some_iff.1 hx).1;omega
  clear hx hxr HT HF
  go_enter Tryz.func38,Tryz.ntmps38
  go_wp2_with fail
  refine HB.out.mono ?_
  rintro e w2 ⟨rfl,g1⟩
  obtain ⟨bk,off,vs,rfl,hb,hvl,hR,hc⟩:=RY.out.at FaR.kp g1.below HX.out
  obtain ⟨rfl,-⟩:=hR
  have q2:w2.cell? ⟨bk,off+K * 3+2,none⟩=some (.int .i64 x.un):=hc 2 _ rfl
  clear hc hvl
  go_wp2
  go_ret
  exact ⟨by rw [hr2.out];rfl,g1⟩
theorem failI_len {mc:ByteArray} {fs:List FailV} (h:fs.length=20):failI mc fs=fs:=by unfold failI;rw [if_pos h]
theorem failI_ins {mc:ByteArray} {fs:List FailV} (h:¬ fs.length=20):failI mc fs=insX mc fs:=by unfold failI;rw [if_neg h]
theorem ins_set (fs:List FailV) (K:Nat) (x y:FailV) (hk:K≤fs.length):(fs.take K ++ x :: fs.drop K).set K y=fs.take K ++ y :: fs.drop K:=by
 have hl:(fs.take K).length=K:=by rw [List.length_take];omega
 rw [List.set_append_right _ _ (by omega),hl,Nat.sub_self]
 rfl
theorem ins_at (fs:List FailV) (K:Nat) (x:FailV) (hk:K≤fs.length):(fs.take K ++ x :: fs.drop K)[K]?=some x:=by
 have hl:(fs.take K).length=K:=by rw [List.length_take];omega
 rw [List.getElem?_append_right (by omega),hl,Nat.sub_self]
 rfl
set_option maxHeartbeats 4000000 in
theorem failsCounted_any (a:Option Addr) (n c:Nat) (fs:List FailV) (mc:ByteArray) (now:Int) (w:World) (h:Src FaR 3 w a n c fs) (hr:risB faB ltF fs=true) (hn:n≤20) (hb:∀ z,z ∈ fs→0≤z.ct∧z.ct≤2) (ho:∀ z,z ∈ fs→FaRok z) (h0:0≤now∧now≤100000) :
  Calls Tryz.prog 40 #[.slice a n c,.string mc,.int .i64 now] w fun e w'=>∃ v,e=.returned v∧OwnS fvG 3 115 w' w.heap.size v (failX mc now fs)∧Below w.heap.size w w':=by
 have hl:=h.hlen
 have HC:Hid (Calls Tryz.prog 82 #[.slice a n c] w fun e w'=>∃ v,e=.returned v∧OwnS fvG 3 115 w' w.heap.size v fs∧Below w.heap.size w w'):=cloneFail_any a n c fs w h.hrw h.hlen (by omega) h.hcap h.hspot h.hnil
 have HB:Hid (∀ (a:Option Addr) (c:Nat) W,OwnS fvG 3 115 W w.heap.size (.slice a n c) fs→Calls Tryz.prog 84 #[.slice a n c,.string mc] W fun e w'=>e=.returned (.tuple #[.int .i64 (fkN mc fs:Nat),.bool (atF mc fs (fun _=>true))])∧Grw W w'):=fun a c W o=>failPlace_any a n c fs mc W (o.rw (ok:=FaRok) fvG_len ho) hl (by omega) hr
 have HL:Hid (fkN mc fs≤n):=by rw [← hl];exact fk_le
 have HT:Hid (atF mc fs (fun _=>true)=true→∃ x,fs[fkN mc fs]?=some x∧eqM mc x=true∧failX mc now fs=fs.set (fkN mc fs) (bumpF now x)):=fun hq=>by
  cases hx:fs[fkN mc fs]? with
  | none=>rw [atF_no hx] at hq;cases hq
  | some x =>
   rw [atF_at hx,Bool.and_true] at hq
   exact ⟨x,rfl,hq,failX_at hx hq⟩
 have HF:Hid (atF mc fs (fun _=>true)=false→failX mc now fs=failI mc fs):=fun hq=>failX_else hq
 have HI:Hid (¬ n=20→failI mc fs=fs.take (fkN mc fs) ++ ⟨mc,1,0⟩ :: fs.drop (fkN mc fs)):=fun hq=>by rw [failI_ins (by omega)];rfl
 have HJ:Hid (n=20→failI mc fs=fs):=fun hq=>failI_len (by omega)
 clear h hr ho
 generalize atF mc fs (fun _=>true)=T at HB HT HF
 generalize failX mc now fs=X at HT HF ⊢
 generalize failI mc fs=I at HF HI HJ
 generalize fkN mc fs=K at HB HT HI HL
 have hkn:=HL.out
 have hw2:IntKind.i64.wrap (now+10)=now+10:=by rw [IntKind.wrap_i64];omega
 cases T with
 | true =>
  obtain ⟨x,hx,hq,hX⟩:=HT.out rfl
  have hxb:=hb x (List.mem_of_getElem? hx)
  have hxm:x.mc=mc:=ba_ext hq
  have HX:Hid (fs[K]?=some x):=hx
  have hkl:K<n:=by have:=(List.getElem?_eq_some_iff.1 hx).1;omega
  have EX:Hid (X=fs.set K (bumpF now x)):=hX
  obtain ⟨xm,xc,xu⟩:=x
  dsimp only at hxb hxm
  subst hxm
  have hw1:IntKind.i64.wrap (xc+1)=xc+1:=by rw [IntKind.wrap_i64];omega
  clear hx hX HT HF HI HJ hq hb
  go_enter Tryz.func40,Tryz.ntmps40
  go_wp2_with fail
  refine HC.out.mono ?_
  rintro e w1 ⟨v,rfl,o1,b1⟩
  obtain ⟨a1,cc,rfl,-⟩:=OwnS.slice o1
  rw [hl] at o1 ⊢
  obtain ⟨g,rfl,hgw,-,-⟩:=o1.form (by omega)
  go_wp2_with fail
  refine (HB.out _ _ _ o1).mono ?_
  rintro e w2 ⟨rfl,g1⟩
  have O1:Hid (OwnS fvG 3 115 w2 w.heap.size (.slice (some ⟨g,0,none⟩) n cc) fs):=o1.now g1.below
  have B1:Hid (Below w.heap.size w w2):=b1.trans (g1.below.mono b1.size)
  clear o1 b1 g1 HB HC
  have hcl:=O1.out.cell fvG_len (j:=1) HX.out rfl
  have c1:=hcl.1
  have z1:=hcl.2
  clear hcl
  by_cases h3:xc+1=3
  ·have hd:(xc+1 == 3)=true:=by rw [h3];rfl
   have hk3:Hid (xc+1=3):=h3
   clear h3
   go_wp2_with (first | (refine wpl_putC 3 rfl _ _ rfl g (K * 3+1) (.int .i64 (xc+1)) rfl rfl (O1.out.there1 fvG_len HX.out 1 (by omega)) rfl rfl ?_;intro W5 hw5;have T5:=O1.out.set1 fvG_len (j:=1) (y:=⟨xm,xc+1,xu⟩) HX.out (by omega) rfl;rw [← hw5] at T5;have B5:Hid (Below w.heap.size w W5):=(B1.out.grown T5.2 B1.out.size (fun z hz=>by cases hz;omega));have O5:Hid (OwnS fvG 3 115 W5 w.heap.size (.slice (some ⟨g,0,none⟩) n cc) (fs.set K ⟨xm,xc+1,xu⟩)):=T5.1;have HX5:Hid ((fs.set K ⟨xm,xc+1,xu⟩)[K]?=some ⟨xm,xc+1,xu⟩):=List.getElem?_set_self (by have:=(List.getElem?_eq_some_iff.1 HX.out).1;exact this);clear hw5 T5 O1 B1 c1 z1;obtain ⟨c5,z5⟩:=O5.out.cell fvG_len (j:=1) HX5.out rfl) | (refine wpl_putE 115 rfl _ _ rfl g (K * 3) _ rfl rfl (O5.out.thereE fvG_len HX5.out) rfl rfl ?_;intro W9 hw9;have T9:=O5.out.putE fvG_len (i:=K) (by omega) ⟨xm,0,now+10⟩;replace hw9:W9=W5.setCells g (K * 3) (fvG ⟨xm,0,now+10⟩):=hw9;rw [← hw9] at T9;have B9:Hid (Below w.heap.size w W9):=(B5.out.grown T9.2 B5.out.size (fun z hz=>by cases hz;omega));have O9:Hid (OwnS fvG 3 115 W9 w.heap.size (.slice (some ⟨g,0,none⟩) n cc) (fs.set K ⟨xm,0,now+10⟩)):=(by rw [List.set_set] at T9;exact T9.1);clear hw9 T9 O5 B5 c5 z5) | fail)
   go_ret
   refine ⟨_,rfl,?_,B9.out⟩
   rw [show X=fs.set K ⟨xm,0,now+10⟩ by rw [EX.out];unfold bumpF;rw [if_pos hk3.out]]
   exact O9.out
  ·have hd:(xc+1 == 3)=false:=by simpa using h3
   have hk3:Hid (¬ xc+1=3):=h3
   clear h3
   go_wp2_with (first | (refine wpl_putC 3 rfl _ _ rfl g (K * 3+1) (.int .i64 (xc+1)) rfl rfl (O1.out.there1 fvG_len HX.out 1 (by omega)) rfl rfl ?_;intro W5 hw5;have T5:=O1.out.set1 fvG_len (j:=1) (y:=⟨xm,xc+1,xu⟩) HX.out (by omega) rfl;rw [← hw5] at T5;have B5:Hid (Below w.heap.size w W5):=(B1.out.grown T5.2 B1.out.size (fun z hz=>by cases hz;omega));have O5:Hid (OwnS fvG 3 115 W5 w.heap.size (.slice (some ⟨g,0,none⟩) n cc) (fs.set K ⟨xm,xc+1,xu⟩)):=T5.1;have HX5:Hid ((fs.set K ⟨xm,xc+1,xu⟩)[K]?=some ⟨xm,xc+1,xu⟩):=List.getElem?_set_self (by have:=(List.getElem?_eq_some_iff.1 HX.out).1;exact this);clear hw5 T5 O1 B1 c1 z1;obtain ⟨c5,z5⟩:=O5.out.cell fvG_len (j:=1) HX5.out rfl) | fail)
   go_ret
   refine ⟨_,rfl,?_,B5.out⟩
   rw [show X=fs.set K ⟨xm,xc+1,xu⟩ by rw [EX.out];unfold bumpF;rw [if_neg hk3.out]]
   exact O5.out
 | false =>
  have hX:Hid (X=I):=HF.out rfl
  clear HT HF hb
  by_cases hf:n=20
  ·have hI:Hid (I=fs):=HJ.out hf
   have hz:((n:Int) == 20)=true:=by rw [hf];rfl
   clear HI HJ hf
   go_enter Tryz.func40,Tryz.ntmps40
   go_wp2_with fail
   refine HC.out.mono ?_
   rintro e w1 ⟨v,rfl,o1,b1⟩
   obtain ⟨a1,cc,rfl,-⟩:=OwnS.slice o1
   rw [hl] at o1 ⊢
   go_wp2_with fail
   refine (HB.out _ _ _ o1).mono ?_
   rintro e w2 ⟨rfl,g1⟩
   have O1:Hid (OwnS fvG 3 115 w2 w.heap.size (.slice a1 n cc) fs):=o1.now g1.below
   have B1:Hid (Below w.heap.size w w2):=b1.trans (g1.below.mono b1.size)
   clear o1 b1 g1 HB HC
   go_wp2
   go_ret
   refine ⟨_,rfl,?_,B1.out⟩
   rw [hX.out,hI.out]
   exact O1.out
  ·have hI:Hid (I=fs.take K ++ ⟨mc,1,0⟩ :: fs.drop K):=HI.out hf
   have hz:((n:Int) == 20)=false:=by simp;omega
   clear HI HJ hf
   go_enter Tryz.func40,Tryz.ntmps40
   go_wp2_with fail
   refine HC.out.mono ?_
   rintro e w1 ⟨v,rfl,o1,b1⟩
   obtain ⟨a1,c1,rfl,-,-,ha1⟩:=OwnS.slice o1
   rw [hl] at o1 ⊢
   go_wp2_with fail
   refine (HB.out _ _ _ o1).mono ?_
   rintro e w2 ⟨rfl,g1⟩
   have O0:Hid (OwnS fvG 3 115 w2 w.heap.size (.slice a1 n c1) fs):=o1.now g1.below
   have B0:Hid (Below w.heap.size w w2):=b1.trans (g1.below.mono b1.size)
   have A1:Hid (∀ g,a1=some ⟨g,0,none⟩→g<w2.heap.size):=fun g e=>Nat.lt_of_lt_of_le (ha1 g 0 e).2 g1.below.size
   clear o1 b1 g1 HB HC ha1
   go_wp2_with fail
   obtain ⟨x,hx⟩:∃ x:FailV,x=⟨mc,0,0⟩:=⟨_,rfl⟩
   have HQ:=insFail_any a1 n c1 K w2.heap.size fs x w.heap.size 115 (w2.alloc (.cells #[.string x.mc,.int .i64 x.ct,.int .i64 x.un] 115)) (O0.out.now ((Below.refl _ _).alloc (Nat.le_refl _) _)) (by have:=B0.out.size;simp;omega) hkn (by omega) (heap_alloc_new w2 _) (fun g e=>by have:=A1.out g e;omega)
   have BQ:Hid (Below w.heap.size w (w2.alloc (.cells #[.string x.mc,.int .i64 x.ct,.int .i64 x.un] 115))):=B0.out.alloc B0.out.size _
   have HXV:Hid (x=⟨mc,0,0⟩):=hx
   rw [hx] at HQ BQ
   refine HQ.mono ?_
   rintro e w3 ⟨v,rfl,o3,b3⟩
   obtain ⟨a3,cc,rfl,-⟩:=OwnS.slice o3
   have hL:(fs.take K ++ (⟨mc,0,0⟩:FailV) :: fs.drop K).length=n+1:=by
    simp
    omega
   rw [hL] at o3 ⊢
   obtain ⟨g,rfl,hgw,-,-⟩:=o3.form (by omega)
   rw [← hx] at o3
   obtain ⟨xm,xc,xu⟩:=x
   have O1:Hid (OwnS fvG 3 115 w3 w.heap.size (.slice (some ⟨g,0,none⟩) (n+1) cc) (fs.take K ++ ⟨xm,xc,xu⟩ :: fs.drop K)):=o3
   have B1:Hid (Below w.heap.size w w3):=BQ.out.trans b3
   have HX:Hid ((fs.take K ++ (⟨xm,xc,xu⟩:FailV) :: fs.drop K)[K]?=some ⟨xm,xc,xu⟩):=ins_at fs K _ (by omega)
   have hw1:IntKind.i64.wrap (xc+1)=xc+1:=by
    have:=congrArg FailV.ct hx
    dsimp only at this
    rw [IntKind.wrap_i64]
    omega
   have hkl:K<n+1:=by omega
   clear o3 b3 HQ BQ O0 B0 A1 hx hL
   have hcl:=O1.out.cell fvG_len (j:=1) HX.out rfl
   have c1:=hcl.1
   have z1:=hcl.2
   clear hcl
   have h3:¬ xc+1=3:=by have:=congrArg FailV.ct HXV.out;dsimp only at this;omega
   have hd:(xc+1 == 3)=false:=by simpa using h3
   have hk3:Hid (¬ xc+1=3):=h3
   clear h3
   go_wp2_with (first | (refine wpl_putC 3 rfl _ _ rfl g (K * 3+1) (.int .i64 (xc+1)) rfl rfl (O1.out.there1 fvG_len HX.out 1 (by omega)) rfl rfl ?_;intro W5 hw5;have T5:=O1.out.set1 fvG_len (j:=1) (y:=⟨xm,xc+1,xu⟩) HX.out (by omega) rfl;rw [← hw5] at T5;have B5:Hid (Below w.heap.size w W5):=(B1.out.grown T5.2 B1.out.size (fun z hz=>by cases hz;omega));have O5:Hid (OwnS fvG 3 115 W5 w.heap.size (.slice (some ⟨g,0,none⟩) (n+1) cc) ((fs.take K ++ ⟨xm,xc,xu⟩ :: fs.drop K).set K ⟨xm,xc+1,xu⟩)):=T5.1;have HX5:Hid (((fs.take K ++ ⟨xm,xc,xu⟩ :: fs.drop K).set K ⟨xm,xc+1,xu⟩)[K]?=some ⟨xm,xc+1,xu⟩):=List.getElem?_set_self (by have:=(List.getElem?_eq_some_iff.1 HX.out).1;exact this);clear hw5 T5 O1 B1 c1 z1;obtain ⟨c5,z5⟩:=O5.out.cell fvG_len (j:=1) HX5.out rfl) | fail)
   go_ret
   refine ⟨_,rfl,?_,B5.out⟩
   rw [show X=(fs.take K ++ ⟨xm,xc,xu⟩ :: fs.drop K).set K ⟨xm,xc+1,xu⟩ by
    have h1:=congrArg FailV.mc HXV.out
    have h2:=congrArg FailV.ct HXV.out
    have h3:=congrArg FailV.un HXV.out
    dsimp only at h1 h2 h3
    rw [hX.out,hI.out,ins_set _ _ _ _ (by omega)]
    rw [h1,h2,h3]
    rfl]
   exact O5.out
open Go.Shelf Go.Lib Go.Proofs Go.RowKit Go.PlainAid Go.Proofs.YtojcakkkakmniaaGreatDoor.Bt Go.Sort
theorem rolePlace1_any (nm nm2:ByteArray) (ra:Option Addr) (rl2 rc2:Nat) (rq rm ri:Int) (B:Nat) (w:World) (hc:w.cell? ⟨B,0,none⟩=some (.string nm2)) :
  Calls Tryz.prog 124 #[.agg #[.string nm,.slice ra rl2 rc2,.int .i64 rq,.int .i64 rm,.int .i64 ri],.pointer (some ⟨B,0,none⟩)] w fun e w'=>e=.returned (.bool (nm.toList == nm2.toList))∧Grw w w':=by
 have hB:B<w.heap.size:=World.block_lt_of_cell? w _ hc
 have hc2:=acell hc (.cells #[.string nm,.slice ra rl2 rc2,.int .i64 rq,.int .i64 rm,.int .i64 ri] 121)
 obtain ⟨u,hu⟩:∃ u,(nm.toList == nm2.toList)=u:=⟨_,rfl⟩
 rw [hu]
 go_enter Tryz.func124,Tryz.ntmps124
 go_wp2
 go_ret
 exact ⟨by first | rfl | (rw [hu];rfl),(Grw.refl _).alloc _⟩
set_option maxHeartbeats 2000000 in
theorem idxRole_any (y:Option Addr) (n c:Nat) (ros:List RoleV) (nm2:ByteArray) (B:Nat) (w:World) (h:Rw (RoR 0) 5 w y ros) (hl:ros.length=n) (hn:n≤1048576) (hcl:w.cell? ⟨B,0,none⟩=some (.string nm2)) :
  Calls Tryz.prog 123 #[.slice y n c,.func (.func 124) #[] #[.pointer (some ⟨B,0,none⟩)]] w fun e w'=>e=.returned (.int .i64 (roI ros nm2))∧Grw w w':=by
 have RY:Hid (Rw (RoR 0) 5 w y ros):=h
 clear h
 have HCL:Hid (w.cell? ⟨B,0,none⟩=some (.string nm2)):=hcl
 clear hcl
 have eg:∀ args w,(callFunc 124 args).run Tryz.prog w=.ok (.enter 124 args) w:=enters_of Tryz.func124 (by kernel_rfl) rfl
 go_enter Tryz.func123,Tryz.ntmps123
 go_wp2
 go_loopw [8] (fun u wr=>∃ k:Nat,k≤n∧u=.int .i64 k∧Hid ((ros.take k).find? (rfP nm2)=none)∧Hid (Grw w wr)) (fun u _=>n - (intOf u).toNat)
 case atStart=>exact ⟨0,Nat.zero_le _,rfl,rfl,Grw.refl _⟩
 case round =>
  obtain ⟨k,hk,rfl,HO,HG⟩:=hrel
  by_cases hlt:k<n
  ·obtain ⟨z,hx⟩:=at_of hl hlt
   obtain ⟨bk,off,vs,rfl,hb,hvl,hR,hc⟩:=RY.out.at (RoR.kp 0) HG.out.below hx
   have HY:Hid (rfP nm2 z=true→roI ros nm2=k):=fun h=>by unfold roI;rw [bfind_yes hx HO.out h,bfind_at hx HO.out h]
   have HN:Hid (rfP nm2 z=false→(ros.take (k+1)).find? (rfP nm2)=none):=fun h=>bfind_no hx HO.out h
   obtain ⟨nm,rrs,rq,rm,ri⟩:=z
   obtain ⟨ra,rc2,rfl,-⟩:=hR
   have q0:wr.cell? ⟨bk,off+k * 5,none⟩=some (.string nm):=hc 0 _ rfl
   have q1:wr.cell? ⟨bk,off+k * 5+1,none⟩=some (.slice ra rrs.length rc2):=hc 1 _ rfl
   have q2:wr.cell? ⟨bk,off+k * 5+2,none⟩=some (.int .i64 rq):=hc 2 _ rfl
   have q3:wr.cell? ⟨bk,off+k * 5+3,none⟩=some (.int .i64 rm):=hc 3 _ rfl
   have q4:wr.cell? ⟨bk,off+k * 5+4,none⟩=some (.int .i64 ri):=hc 4 _ rfl
   have hltz:(k:Int)<(n:Int):=by omega
   have he:rfP nm2 ⟨nm,rrs,rq,rm,ri⟩=(nm.toList == nm2.toList):=rfl
   rw [he] at HY HN
   have HP:Hid (∀ W,Grw w W→Calls Tryz.prog 124 #[.agg #[.string nm,.slice ra rrs.length rc2,.int .i64 rq,.int .i64 rm,.int .i64 ri],.pointer (some ⟨B,0,none⟩)] W fun e w'=>e=.returned (.bool (nm.toList == nm2.toList))∧Grw W w'):=fun W g=>rolePlace1_any nm nm2 ra rrs.length rc2 rq rm ri B W (g.keep HCL.out)
   generalize (nm.toList == nm2.toList)=u at HY HN HP
   clear hc hvl he hx
   cases u with
   | false =>
    have HN':Hid ((ros.take (k+1)).find? (rfP nm2)=none):=HN.out rfl
    clear HY HN
    go_wp2_with (go_at_fn 124;refine (HP.out _ HG.out).mono ?_;rintro e w' ⟨rfl,g1⟩)
    have HG1:Hid (Grw w _):=HG.out.trans g1
    clear g1 HG
    go_roundw
    case rel=>exact ⟨k+1,by omega,by go_num,HN',HG1⟩
    case measure=>simp [intOf];omega
   | true =>
    have HY':Hid (roI ros nm2=k):=HY.out rfl
    clear HY HN
    go_wp2_with (go_at_fn 124;refine (HP.out _ HG.out).mono ?_;rintro e w' ⟨rfl,g1⟩)
    go_ret
    exact ⟨by rw [HY'.out];rfl,HG.out.trans g1⟩
  ·obtain rfl:k=n:=by omega
   have hd:Hid (roI ros nm2=-1):=by show roI ros nm2=-1;unfold roI;rw [bfind_end hl HO.out]
   go_wp2
   go_ret
   exact ⟨by rw [hd.out];rfl,HG.out⟩
set_option maxHeartbeats 1000000 in
theorem rolePlace_any (ip b gt:Int) (gm wm:ByteArray) (rs:Int) (x y:Option Addr) (lenx capx leny capy:Nat) (ros:List RoleV) (nm2:ByteArray) (w:World) (h:Rw (RoR 0) 5 w y ros) (hl:ros.length=leny) (hl9:leny≤1048576) :
  Calls Tryz.prog 89 #[.agg #[.int .i64 ip,.int .i64 b,.int .i64 gt,.string gm,.string wm,.int .i64 rs,.slice x lenx capx,.slice y leny capy],.string nm2] w fun e w'=>e=.returned (.int .i64 (roI ros nm2))∧Grw w w':=by
 have RY:Hid (Rw (RoR 0) 5 w y ros):=h
 have HX:Hid (∀ W B,Grw w W→W.cell? ⟨B,0,none⟩=some (.string nm2)→Calls Tryz.prog 123 #[.slice y leny capy,.func (.func 124) #[] #[.pointer (some ⟨B,0,none⟩)]] W fun e w'=>e=.returned (.int .i64 (roI ros nm2))∧Grw W w'):=fun W B g hc=>idxRole_any y leny capy ros nm2 B W (RY.out.keep (RoR.kp 0) g.below) hl hl9 hc
 clear h
 generalize roI ros nm2=r at HX ⊢
 go_enter Tryz.func89,Tryz.ntmps89
 go_wp2_with (go_at_call 123;refine (HX.out _ _ (((Grw.refl w).alloc _).alloc _) (by simp [go_sem])).mono ?_;rintro e w' ⟨rfl,g1⟩)
 go_ret
 exact ⟨rfl,(((Grw.refl w).alloc _).alloc _).trans g1⟩
set_option maxHeartbeats 2000000 in
theorem userOK_any (ip b gt:Int) (gm wm:ByteArray) (rs:Int) (x y:Option Addr) (lenx capx leny capy:Nat) (ros:List RoleV) (nm:ByteArray) (sa:ByteArray) (ha:ByteArray) (ro:ByteArray) (bl:Int) (lg:Int) (w:World) (h:Rw (RoR 0) 5 w y ros) (hl:ros.length=leny) (hl9:leny≤1048576) (hsz:nm.size≤1048576∧sa.size≤1048576∧ha.size≤1048576∧ro.size≤1048576) :
  Calls Tryz.prog 137 #[.agg #[.int .i64 ip,.int .i64 b,.int .i64 gt,.string gm,.string wm,.int .i64 rs,.slice x lenx capx,.slice y leny capy],.agg #[.string nm,.string sa,.string ha,.string ro,.int .i64 bl,.int .i64 lg]] w fun e w'=>e=.returned (.bool (uB ros ⟨nm,sa,ha,ro,bl,lg⟩))∧Grw w w':=by
 have RY:Hid (Rw (RoR 0) 5 w y ros):=h
 have HN:Hid (∀ w,Calls Tryz.prog 152 #[.string nm] w fun e w'=>e=.returned (.bool (snB nm))∧w'=w):=fun w=>shortNameOK_any nm w hsz.1
 have HR:Hid (∀ w,Rw (RoR 0) 5 w y ros→Calls Tryz.prog 89 #[.agg #[.int .i64 ip,.int .i64 b,.int .i64 gt,.string gm,.string wm,.int .i64 rs,.slice x lenx capx,.slice y leny capy],.string ro] w fun e w'=>e=.returned (.int .i64 (roI ros ro))∧Grw w w'):=fun w h=>rolePlace_any ip b gt gm wm rs x y lenx capx leny capy ros ro w h hl hl9
 have HK:Hid (∀ w,Calls Tryz.prog 153 #[.int .i64 bl,.int .i64 lg] w fun e w'=>e=.returned (.bool (dec (0≤bl∧bl≤1000000) && dec (0≤lg∧lg≤1000)))∧w'=w):=fun w=>creditOK_any bl lg w
 have eu:uB ros ⟨nm,sa,ha,ro,bl,lg⟩=(snB nm && (dec (sa.size≤40) && (dec (ha.size=32) && (roH ros ro && (dec (0≤bl∧bl≤1000000) && dec (0≤lg∧lg≤1000)))))):=rfl
 rw [eu]
 have hss:(sa.size:Int)≤1048576:=by omega
 have hhs:(ha.size:Int)≤1048576:=by omega
 clear h eu
 obtain ⟨q4,hq4⟩:∃ q,roH ros ro=q:=⟨_,rfl⟩
 obtain ⟨r,hr⟩:∃ r,roI ros ro=r:=⟨_,rfl⟩
 have hrr:(q4=false∧decide (0≤r)=false) ∨ (q4=true∧decide (0≤r)=true):=by
  rw [← hq4,← hr]
  unfold roH roI
  cases ros.find? (rfP ro) with
  | none=>left;exact ⟨rfl,by simp⟩
  | some v=>right;exact ⟨rfl,by first | (simp;done) | (simp;omega)⟩
 rw [hq4]
 rw [hr] at HR
 clear hq4 hr
 generalize snB nm=q1 at HN ⊢
 generalize (dec (0≤bl∧bl≤1000000) && dec (0≤lg∧lg≤1000))=q5 at HK ⊢
 have b1:Hid (Grw w ((w.alloc (.cells #[.int .i64 ip,.int .i64 b,.int .i64 gt,.string gm,.string wm,.int .i64 rs,.slice x lenx capx,.slice y leny capy] 48)).alloc (.cells #[.string nm,.string sa,.string ha,.string ro,.int .i64 bl,.int .i64 lg] 84))):=((Grw.refl w).alloc _).alloc _
 cases q1 with
 | false =>
  go_enter Tryz.func137,Tryz.ntmps137
  go_wp2_with fail
  refine (HN.out _).mono ?_
  rintro e w1 ⟨rfl,hw⟩
  subst hw
  go_wp2
  go_ret
  exact ⟨by first | rfl | simp,b1.out⟩
 | true =>
  by_cases hsa:sa.size≤40
  rotate_left
  ·rw [dec_n hsa]
   have hsz1:decide ((sa.size:Int)≤40)=false:=decide_eq_false (by omega)
   go_enter Tryz.func137,Tryz.ntmps137
   go_wp2_with fail
   refine (HN.out _).mono ?_
   rintro e w1 ⟨rfl,hw⟩
   subst hw
   go_wp2
   go_ret
   exact ⟨by first | rfl | simp,b1.out⟩
  rw [dec_y hsa]
  have hsz1:decide ((sa.size:Int)≤40)=true:=decide_eq_true (by omega)
  by_cases hha:ha.size=32
  rotate_left
  ·rw [dec_n hha]
   have hsz2:((ha.size:Int) == 32)=false:=by simp;omega
   go_enter Tryz.func137,Tryz.ntmps137
   go_wp2_with fail
   refine (HN.out _).mono ?_
   rintro e w1 ⟨rfl,hw⟩
   subst hw
   go_wp2
   go_ret
   exact ⟨by first | rfl | simp,b1.out⟩
  rw [dec_y hha]
  have hsz2:((ha.size:Int) == 32)=true:=by simp;omega
  rcases hrr with ⟨rfl,hr0⟩ | ⟨rfl,hr0⟩
  ·go_enter Tryz.func137,Tryz.ntmps137
   go_wp2_with fail
   refine (HN.out _).mono ?_
   rintro e w1 ⟨rfl,hw⟩
   subst hw
   go_wp2_with fail
   refine (HR.out _ (RY.out.keep (RoR.kp 0) b1.out.below)).mono ?_
   rintro e w2 ⟨rfl,g2⟩
   go_wp2
   go_ret
   exact ⟨by first | rfl | simp,b1.out.trans g2⟩
  ·go_enter Tryz.func137,Tryz.ntmps137
   go_wp2_with fail
   refine (HN.out _).mono ?_
   rintro e w1 ⟨rfl,hw⟩
   subst hw
   go_wp2_with fail
   refine (HR.out _ (RY.out.keep (RoR.kp 0) b1.out.below)).mono ?_
   rintro e w2 ⟨rfl,g2⟩
   have k4:w2.cell? ⟨w.heap.size+1,4,none⟩=some (.int .i64 bl):=g2.keep (a:=⟨w.heap.size+1,4,none⟩) (v:=.int .i64 bl) (by simp [go_sem])
   have k5:w2.cell? ⟨w.heap.size+1,5,none⟩=some (.int .i64 lg):=g2.keep (a:=⟨w.heap.size+1,5,none⟩) (v:=.int .i64 lg) (by simp [go_sem])
   have B2:Hid (Grw w w2):=b1.out.trans g2
   clear g2
   go_wp2_with fail
   refine (HK.out _).mono ?_
   rintro e w1 ⟨rfl,hw⟩
   subst hw
   go_wp2
   go_ret
   exact ⟨by first | rfl | simp,B2.out⟩
set_option maxHeartbeats 8000000 in
theorem usersOK_any (ip b gt:Int) (gm wm:ByteArray) (rs:Int) (x y:Option Addr) (lenx capx leny capy:Nat) (ros:List RoleV) (a:Option Addr) (len cap:Nat) (us:List UserV) (w:World) (h:Rw (RoR 0) 5 w y ros) (hl2:ros.length=leny) (hu:Rw UsR 6 w a us) (hl:us.length=len) (hsz:SzU us) (hl9:leny≤1048576) (hl8:len≤1048576) :
  Calls Tryz.prog 108 #[.agg #[.int .i64 ip,.int .i64 b,.int .i64 gt,.string gm,.string wm,.int .i64 rs,.slice x lenx capx,.slice y leny capy],.slice a len cap] w fun e w'=>e=.returned (.bool (usB ros us))∧Grw w w':=by
 have RY:Hid (Rw (RoR 0) 5 w y ros):=h
 have RW:Hid (Rw UsR 6 w a us):=hu
 have SZ:Hid (SzU us):=hsz
 clear h hu hsz
 by_cases h6:len≤6
 rotate_left
 ·have hv:Hid (usB ros us=false):=by show usB ros us=false;unfold usB;rw [dec_n (by omega)];rfl
  have h6z:(6:Int)<(len:Int):=by omega
  go_enter Tryz.func108,Tryz.ntmps108
  go_wp2
  go_ret
  exact ⟨by rw [hv.out];rfl,(Grw.refl _).alloc _⟩
 have h6z:(len:Int)≤6:=by omega
 go_enter Tryz.func108,Tryz.ntmps108
 go_wp2
 go_loopw [12] (fun u wr=>∃ k:Nat,k≤len∧u=.int .i64 k∧Hid ((List.range k).all (risAt (uB ros) ltU us)=true)∧Hid (Grw w wr∧wr.cell? ⟨w.heap.size,0,none⟩=some (.int .i64 ip)∧wr.cell? ⟨w.heap.size,1,none⟩=some (.int .i64 b)∧wr.cell? ⟨w.heap.size,2,none⟩=some (.int .i64 gt)∧wr.cell? ⟨w.heap.size,3,none⟩=some (.string gm)∧wr.cell? ⟨w.heap.size,4,none⟩=some (.string wm)∧wr.cell? ⟨w.heap.size,5,none⟩=some (.int .i64 rs)∧wr.cell? ⟨w.heap.size,6,none⟩=some (.slice x lenx capx)∧wr.cell? ⟨w.heap.size,7,none⟩=some (.slice y leny capy))) (fun u _=>len - (intOf u).toNat)
 case atStart=>exact ⟨0,Nat.zero_le _,rfl,rfl,(Grw.refl _).alloc _,by simp [go_sem],by simp [go_sem],by simp [go_sem],by simp [go_sem],by simp [go_sem],by simp [go_sem],by simp [go_sem],by simp [go_sem]⟩
 case round =>
  obtain ⟨k,hk,rfl,HO,HG⟩:=hrel
  obtain ⟨G0,d0,d1,d2,d3,d4,d5,d6,d7⟩:=HG.out
  have GG:=G0.below
  by_cases hlt:k<len
  ·obtain ⟨z,hx⟩:=at_of hl hlt
   obtain ⟨bk,off,vs,rfl,hb,hvl,hR,hc⟩:=RW.out.at UsR.kp GG hx
   have hsz:=SZ.out _ (List.mem_of_getElem? hx)
   have HS:Hid (risAt (uB ros) ltU us k=true→(List.range (k+1)).all (risAt (uB ros) ltU us)=true):=fun h=>ris_step HO.out h
   have HF:Hid (risAt (uB ros) ltU us k=false→risB (uB ros) ltU us=false):=fun h=>ris_no (by omega) h
   obtain ⟨nm,sa,ha,ro,bl,lg⟩:=z
   obtain ⟨rfl,-⟩:=hR
   have q0:wr.cell? ⟨bk,off+k * 6,none⟩=some (.string nm):=hc 0 _ rfl
   have q1:wr.cell? ⟨bk,off+k * 6+1,none⟩=some (.string sa):=hc 1 _ rfl
   have q2:wr.cell? ⟨bk,off+k * 6+2,none⟩=some (.string ha):=hc 2 _ rfl
   have q3:wr.cell? ⟨bk,off+k * 6+3,none⟩=some (.string ro):=hc 3 _ rfl
   have q4:wr.cell? ⟨bk,off+k * 6+4,none⟩=some (.int .i64 bl):=hc 4 _ rfl
   have q5:wr.cell? ⟨bk,off+k * 6+5,none⟩=some (.int .i64 lg):=hc 5 _ rfl
   have HK:Hid (∀ w,Rw (RoR 0) 5 w y ros→Calls Tryz.prog 137 #[.agg #[.int .i64 ip,.int .i64 b,.int .i64 gt,.string gm,.string wm,.int .i64 rs,.slice x lenx capx,.slice y leny capy],.agg #[.string nm,.string sa,.string ha,.string ro,.int .i64 bl,.int .i64 lg]] w fun e w'=>e=.returned (.bool (uB ros ⟨nm,sa,ha,ro,bl,lg⟩))∧Grw w w'):=fun w h=>userOK_any ip b gt gm wm rs x y lenx capx leny capy ros nm sa ha ro bl lg w h hl2 hl9 hsz
   have hltz:(k:Int)<(len:Int):=by omega
   by_cases hk0:k=0
   ·have eo:risAt (uB ros) ltU us k=uB ros ⟨nm,sa,ha,ro,bl,lg⟩:=by subst hk0;exact risAt_zero hx
    have hkd:decide (0<k)=false:=decide_eq_false (by omega)
    clear hk0
    rw [eo] at HS HF
    generalize uB ros ⟨nm,sa,ha,ro,bl,lg⟩=q at HK HS HF
    clear hc hvl hx eo
    have HA:Hid (Grw w (wr.alloc (.cells #[.string nm,.string sa,.string ha,.string ro,.int .i64 bl,.int .i64 lg] 84))):=G0.alloc _
    have hmix:Tryz.prog.follows .mixedOrders=true:=by kernel_rfl
    have y0:∀ n os,(grow (World.drewN (wr.alloc (.cells #[.string nm,.string sa,.string ha,.string ro,.int .i64 bl,.int .i64 lg] 84)) n) os).cell? ⟨wr.heap.size,0,none⟩=some (.string nm):=fun n os=>cell_grown (by simp) (by simp) n os
    have y1:∀ n os,(grow (World.drewN (wr.alloc (.cells #[.string nm,.string sa,.string ha,.string ro,.int .i64 bl,.int .i64 lg] 84)) n) os).cell? ⟨wr.heap.size,1,none⟩=some (.string sa):=fun n os=>cell_grown (by simp) (by simp) n os
    have y2:∀ n os,(grow (World.drewN (wr.alloc (.cells #[.string nm,.string sa,.string ha,.string ro,.int .i64 bl,.int .i64 lg] 84)) n) os).cell? ⟨wr.heap.size,2,none⟩=some (.string ha):=fun n os=>cell_grown (by simp) (by simp) n os
    have y3:∀ n os,(grow (World.drewN (wr.alloc (.cells #[.string nm,.string sa,.string ha,.string ro,.int .i64 bl,.int .i64 lg] 84)) n) os).cell? ⟨wr.heap.size,3,none⟩=some (.string ro):=fun n os=>cell_grown (by simp) (by simp) n os
    have y4:∀ n os,(grow (World.drewN (wr.alloc (.cells #[.string nm,.string sa,.string ha,.string ro,.int .i64 bl,.int .i64 lg] 84)) n) os).cell? ⟨wr.heap.size,4,none⟩=some (.int .i64 bl):=fun n os=>cell_grown (by simp) (by simp) n os
    have y5:∀ n os,(grow (World.drewN (wr.alloc (.cells #[.string nm,.string sa,.string ha,.string ro,.int .i64 bl,.int .i64 lg] 84)) n) os).cell? ⟨wr.heap.size,5,none⟩=some (.int .i64 lg):=fun n os=>cell_grown (by simp) (by simp) n os
    have e0:∀ n os,(grow (World.drewN (wr.alloc (.cells #[.string nm,.string sa,.string ha,.string ro,.int .i64 bl,.int .i64 lg] 84)) n) os).cell? ⟨w.heap.size,0,none⟩=some (.int .i64 ip):=fun n os=>(((Grw.refl wr).alloc _).trans ⟨n,os,rfl⟩).keep d0
    have e1:∀ n os,(grow (World.drewN (wr.alloc (.cells #[.string nm,.string sa,.string ha,.string ro,.int .i64 bl,.int .i64 lg] 84)) n) os).cell? ⟨w.heap.size,1,none⟩=some (.int .i64 b):=fun n os=>(((Grw.refl wr).alloc _).trans ⟨n,os,rfl⟩).keep d1
    have e2:∀ n os,(grow (World.drewN (wr.alloc (.cells #[.string nm,.string sa,.string ha,.string ro,.int .i64 bl,.int .i64 lg] 84)) n) os).cell? ⟨w.heap.size,2,none⟩=some (.int .i64 gt):=fun n os=>(((Grw.refl wr).alloc _).trans ⟨n,os,rfl⟩).keep d2
    have e3:∀ n os,(grow (World.drewN (wr.alloc (.cells #[.string nm,.string sa,.string ha,.string ro,.int .i64 bl,.int .i64 lg] 84)) n) os).cell? ⟨w.heap.size,3,none⟩=some (.string gm):=fun n os=>(((Grw.refl wr).alloc _).trans ⟨n,os,rfl⟩).keep d3
    have e4:∀ n os,(grow (World.drewN (wr.alloc (.cells #[.string nm,.string sa,.string ha,.string ro,.int .i64 bl,.int .i64 lg] 84)) n) os).cell? ⟨w.heap.size,4,none⟩=some (.string wm):=fun n os=>(((Grw.refl wr).alloc _).trans ⟨n,os,rfl⟩).keep d4
    have e5:∀ n os,(grow (World.drewN (wr.alloc (.cells #[.string nm,.string sa,.string ha,.string ro,.int .i64 bl,.int .i64 lg] 84)) n) os).cell? ⟨w.heap.size,5,none⟩=some (.int .i64 rs):=fun n os=>(((Grw.refl wr).alloc _).trans ⟨n,os,rfl⟩).keep d5
    have e6:∀ n os,(grow (World.drewN (wr.alloc (.cells #[.string nm,.string sa,.string ha,.string ro,.int .i64 bl,.int .i64 lg] 84)) n) os).cell? ⟨w.heap.size,6,none⟩=some (.slice x lenx capx):=fun n os=>(((Grw.refl wr).alloc _).trans ⟨n,os,rfl⟩).keep d6
    have e7:∀ n os,(grow (World.drewN (wr.alloc (.cells #[.string nm,.string sa,.string ha,.string ro,.int .i64 bl,.int .i64 lg] 84)) n) os).cell? ⟨w.heap.size,7,none⟩=some (.slice y leny capy):=fun n os=>(((Grw.refl wr).alloc _).trans ⟨n,os,rfl⟩).keep d7
    have YR:Hid (∀ n os,Rw (RoR 0) 5 (grow (World.drewN (wr.alloc (.cells #[.string nm,.string sa,.string ha,.string ro,.int .i64 bl,.int .i64 lg] 84)) n) os) y ros):=fun n os=>RY.out.keep (RoR.kp 0) (HA.out.trans ⟨n,os,rfl⟩).below
    cases q with
    | false =>
     have hd:Hid (risB (uB ros) ltU us=false):=HF.out (by simp)
     have hv:Hid (usB ros us=false):=by show usB ros us=false;unfold usB;rw [hd.out,Bool.and_false]
     go_wp2_with fail
     refine wp_region_quiet_grown (by assumption) (by kernel_rfl) ?_
     repeat (go_big_quiet_step (first | fail | (go_at_call 137;exact Calls.grown_of (HK.out _ (YR.out _ _)))))
     refine wpQuiet_nil ?_
     intro _ hw'
     obtain ⟨⟨nq,osq⟩,hw''⟩:=hw'
     subst hw''
     have HG1:Hid (Grw w _):=HA.out.trans ⟨nq,osq,rfl⟩
     clear y0 y1 y2 y3 y4 y5 e0 e1 e2 e3 e4 e5 e6 e7
     go_wp2
     go_ret
     exact ⟨by rw [hv.out];rfl,HG1.out⟩
    | true =>
     have HS':Hid ((List.range (k+1)).all (risAt (uB ros) ltU us)=true):=HS.out (by simp)
     clear HS HF
     go_wp2_with fail
     refine wp_region_quiet_grown (by assumption) (by kernel_rfl) ?_
     repeat (go_big_quiet_step (first | fail | (go_at_call 137;exact Calls.grown_of (HK.out _ (YR.out _ _)))))
     refine wpQuiet_nil ?_
     intro _ hw'
     obtain ⟨⟨nq,osq⟩,hw''⟩:=hw'
     subst hw''
     have HG1:Hid (Grw w (grow (World.drewN (wr.alloc (.cells #[.string nm,.string sa,.string ha,.string ro,.int .i64 bl,.int .i64 lg] 84)) nq) osq)∧(grow (World.drewN (wr.alloc (.cells #[.string nm,.string sa,.string ha,.string ro,.int .i64 bl,.int .i64 lg] 84)) nq) osq).cell? ⟨w.heap.size,0,none⟩=some (.int .i64 ip)∧(grow (World.drewN (wr.alloc (.cells #[.string nm,.string sa,.string ha,.string ro,.int .i64 bl,.int .i64 lg] 84)) nq) osq).cell? ⟨w.heap.size,1,none⟩=some (.int .i64 b)∧(grow (World.drewN (wr.alloc (.cells #[.string nm,.string sa,.string ha,.string ro,.int .i64 bl,.int .i64 lg] 84)) nq) osq).cell? ⟨w.heap.size,2,none⟩=some (.int .i64 gt)∧(grow (World.drewN (wr.alloc (.cells #[.string nm,.string sa,.string ha,.string ro,.int .i64 bl,.int .i64 lg] 84)) nq) osq).cell? ⟨w.heap.size,3,none⟩=some (.string gm)∧(grow (World.drewN (wr.alloc (.cells #[.string nm,.string sa,.string ha,.string ro,.int .i64 bl,.int .i64 lg] 84)) nq) osq).cell? ⟨w.heap.size,4,none⟩=some (.string wm)∧(grow (World.drewN (wr.alloc (.cells #[.string nm,.string sa,.string ha,.string ro,.int .i64 bl,.int .i64 lg] 84)) nq) osq).cell? ⟨w.heap.size,5,none⟩=some (.int .i64 rs)∧(grow (World.drewN (wr.alloc (.cells #[.string nm,.string sa,.string ha,.string ro,.int .i64 bl,.int .i64 lg] 84)) nq) osq).cell? ⟨w.heap.size,6,none⟩=some (.slice x lenx capx)∧(grow (World.drewN (wr.alloc (.cells #[.string nm,.string sa,.string ha,.string ro,.int .i64 bl,.int .i64 lg] 84)) nq) osq).cell? ⟨w.heap.size,7,none⟩=some (.slice y leny capy)):=⟨HA.out.trans ⟨nq,osq,rfl⟩,e0 nq osq,e1 nq osq,e2 nq osq,e3 nq osq,e4 nq osq,e5 nq osq,e6 nq osq,e7 nq osq⟩
     clear y0 y1 y2 y3 y4 y5 e0 e1 e2 e3 e4 e5 e6 e7
     go_wp2
     go_roundw
     case rel=>exact ⟨k+1,by omega,by go_num,HS',HG1⟩
     case measure=>simp [intOf];omega
   ·obtain ⟨j,hkj⟩:∃ j,k=j+1:=⟨k - 1,by omega⟩
    obtain ⟨z',hx'⟩:=at_of (k:=j) hl (by omega)
    obtain ⟨b',off',vs',e',hb',hvl',hR',hc'⟩:=RW.out.at UsR.kp GG hx'
    cases e'
    obtain ⟨nm',sa',ha',ro',bl',lg'⟩:=z'
    obtain ⟨rfl,-⟩:=hR'
    have p0:wr.cell? ⟨bk,off+j * 6,none⟩=some (.string nm'):=hc' 0 _ rfl
    obtain ⟨lt,hlt2⟩:∃ lt,Op.bytesLess nm'.toList nm.toList=lt:=⟨_,rfl⟩
    have eo:risAt (uB ros) ltU us k=(uB ros ⟨nm,sa,ha,ro,bl,lg⟩ && lt):=by subst hkj;rw [← hlt2];exact risAt_succ hx hx'
    have hkd:decide (0<k)=true:=decide_eq_true (by omega)
    have hj:(k:Int) - 1=(j:Int):=by omega
    have hjl:(j:Int)<(len:Int):=by omega
    clear hk0 hkj
    rw [eo] at HS HF
    generalize uB ros ⟨nm,sa,ha,ro,bl,lg⟩=q at HK HS HF
    clear hc hvl hx eo hc' hvl' hx'
    have HA:Hid (Grw w (wr.alloc (.cells #[.string nm,.string sa,.string ha,.string ro,.int .i64 bl,.int .i64 lg] 84))):=G0.alloc _
    have hmix:Tryz.prog.follows .mixedOrders=true:=by kernel_rfl
    have y0:∀ n os,(grow (World.drewN (wr.alloc (.cells #[.string nm,.string sa,.string ha,.string ro,.int .i64 bl,.int .i64 lg] 84)) n) os).cell? ⟨wr.heap.size,0,none⟩=some (.string nm):=fun n os=>cell_grown (by simp) (by simp) n os
    have y1:∀ n os,(grow (World.drewN (wr.alloc (.cells #[.string nm,.string sa,.string ha,.string ro,.int .i64 bl,.int .i64 lg] 84)) n) os).cell? ⟨wr.heap.size,1,none⟩=some (.string sa):=fun n os=>cell_grown (by simp) (by simp) n os
    have y2:∀ n os,(grow (World.drewN (wr.alloc (.cells #[.string nm,.string sa,.string ha,.string ro,.int .i64 bl,.int .i64 lg] 84)) n) os).cell? ⟨wr.heap.size,2,none⟩=some (.string ha):=fun n os=>cell_grown (by simp) (by simp) n os
    have y3:∀ n os,(grow (World.drewN (wr.alloc (.cells #[.string nm,.string sa,.string ha,.string ro,.int .i64 bl,.int .i64 lg] 84)) n) os).cell? ⟨wr.heap.size,3,none⟩=some (.string ro):=fun n os=>cell_grown (by simp) (by simp) n os
    have y4:∀ n os,(grow (World.drewN (wr.alloc (.cells #[.string nm,.string sa,.string ha,.string ro,.int .i64 bl,.int .i64 lg] 84)) n) os).cell? ⟨wr.heap.size,4,none⟩=some (.int .i64 bl):=fun n os=>cell_grown (by simp) (by simp) n os
    have y5:∀ n os,(grow (World.drewN (wr.alloc (.cells #[.string nm,.string sa,.string ha,.string ro,.int .i64 bl,.int .i64 lg] 84)) n) os).cell? ⟨wr.heap.size,5,none⟩=some (.int .i64 lg):=fun n os=>cell_grown (by simp) (by simp) n os
    have e0:∀ n os,(grow (World.drewN (wr.alloc (.cells #[.string nm,.string sa,.string ha,.string ro,.int .i64 bl,.int .i64 lg] 84)) n) os).cell? ⟨w.heap.size,0,none⟩=some (.int .i64 ip):=fun n os=>(((Grw.refl wr).alloc _).trans ⟨n,os,rfl⟩).keep d0
    have e1:∀ n os,(grow (World.drewN (wr.alloc (.cells #[.string nm,.string sa,.string ha,.string ro,.int .i64 bl,.int .i64 lg] 84)) n) os).cell? ⟨w.heap.size,1,none⟩=some (.int .i64 b):=fun n os=>(((Grw.refl wr).alloc _).trans ⟨n,os,rfl⟩).keep d1
    have e2:∀ n os,(grow (World.drewN (wr.alloc (.cells #[.string nm,.string sa,.string ha,.string ro,.int .i64 bl,.int .i64 lg] 84)) n) os).cell? ⟨w.heap.size,2,none⟩=some (.int .i64 gt):=fun n os=>(((Grw.refl wr).alloc _).trans ⟨n,os,rfl⟩).keep d2
    have e3:∀ n os,(grow (World.drewN (wr.alloc (.cells #[.string nm,.string sa,.string ha,.string ro,.int .i64 bl,.int .i64 lg] 84)) n) os).cell? ⟨w.heap.size,3,none⟩=some (.string gm):=fun n os=>(((Grw.refl wr).alloc _).trans ⟨n,os,rfl⟩).keep d3
    have e4:∀ n os,(grow (World.drewN (wr.alloc (.cells #[.string nm,.string sa,.string ha,.string ro,.int .i64 bl,.int .i64 lg] 84)) n) os).cell? ⟨w.heap.size,4,none⟩=some (.string wm):=fun n os=>(((Grw.refl wr).alloc _).trans ⟨n,os,rfl⟩).keep d4
    have e5:∀ n os,(grow (World.drewN (wr.alloc (.cells #[.string nm,.string sa,.string ha,.string ro,.int .i64 bl,.int .i64 lg] 84)) n) os).cell? ⟨w.heap.size,5,none⟩=some (.int .i64 rs):=fun n os=>(((Grw.refl wr).alloc _).trans ⟨n,os,rfl⟩).keep d5
    have e6:∀ n os,(grow (World.drewN (wr.alloc (.cells #[.string nm,.string sa,.string ha,.string ro,.int .i64 bl,.int .i64 lg] 84)) n) os).cell? ⟨w.heap.size,6,none⟩=some (.slice x lenx capx):=fun n os=>(((Grw.refl wr).alloc _).trans ⟨n,os,rfl⟩).keep d6
    have e7:∀ n os,(grow (World.drewN (wr.alloc (.cells #[.string nm,.string sa,.string ha,.string ro,.int .i64 bl,.int .i64 lg] 84)) n) os).cell? ⟨w.heap.size,7,none⟩=some (.slice y leny capy):=fun n os=>(((Grw.refl wr).alloc _).trans ⟨n,os,rfl⟩).keep d7
    have p1:∀ n os,(grow (World.drewN (wr.alloc (.cells #[.string nm,.string sa,.string ha,.string ro,.int .i64 bl,.int .i64 lg] 84)) n) os).cell? ⟨bk,off+j * 6,none⟩=some (.string nm'):=fun n os=>(((Grw.refl wr).alloc _).trans ⟨n,os,rfl⟩).keep p0
    have YR:Hid (∀ n os,Rw (RoR 0) 5 (grow (World.drewN (wr.alloc (.cells #[.string nm,.string sa,.string ha,.string ro,.int .i64 bl,.int .i64 lg] 84)) n) os) y ros):=fun n os=>RY.out.keep (RoR.kp 0) (HA.out.trans ⟨n,os,rfl⟩).below
    cases q with
    | false =>
     have hd:Hid (risB (uB ros) ltU us=false):=HF.out (by simp)
     have hv:Hid (usB ros us=false):=by show usB ros us=false;unfold usB;rw [hd.out,Bool.and_false]
     go_wp2_with fail
     refine wp_region_quiet_grown (by assumption) (by kernel_rfl) ?_
     repeat (go_big_quiet_step (first | fail | (go_at_call 137;exact Calls.grown_of (HK.out _ (YR.out _ _)))))
     refine wpQuiet_nil ?_
     intro _ hw'
     obtain ⟨⟨nq,osq⟩,hw''⟩:=hw'
     subst hw''
     have HG1:Hid (Grw w _):=HA.out.trans ⟨nq,osq,rfl⟩
     clear y0 y1 y2 y3 y4 y5 e0 e1 e2 e3 e4 e5 e6 e7 p1
     go_wp2
     go_ret
     exact ⟨by rw [hv.out];rfl,HG1.out⟩
    | true =>
     cases lt with
     | true =>
      have HS':Hid ((List.range (k+1)).all (risAt (uB ros) ltU us)=true):=HS.out (by simp)
      clear HS HF
      go_wp2_with fail
      refine wp_region_quiet_grown (by assumption) (by kernel_rfl) ?_
      repeat (go_big_quiet_step (first | fail | (go_at_call 137;exact Calls.grown_of (HK.out _ (YR.out _ _)))))
      refine wpQuiet_nil ?_
      intro _ hw'
      obtain ⟨⟨nq,osq⟩,hw''⟩:=hw'
      subst hw''
      have HG1:Hid (Grw w (grow (World.drewN (wr.alloc (.cells #[.string nm,.string sa,.string ha,.string ro,.int .i64 bl,.int .i64 lg] 84)) nq) osq)∧(grow (World.drewN (wr.alloc (.cells #[.string nm,.string sa,.string ha,.string ro,.int .i64 bl,.int .i64 lg] 84)) nq) osq).cell? ⟨w.heap.size,0,none⟩=some (.int .i64 ip)∧(grow (World.drewN (wr.alloc (.cells #[.string nm,.string sa,.string ha,.string ro,.int .i64 bl,.int .i64 lg] 84)) nq) osq).cell? ⟨w.heap.size,1,none⟩=some (.int .i64 b)∧(grow (World.drewN (wr.alloc (.cells #[.string nm,.string sa,.string ha,.string ro,.int .i64 bl,.int .i64 lg] 84)) nq) osq).cell? ⟨w.heap.size,2,none⟩=some (.int .i64 gt)∧(grow (World.drewN (wr.alloc (.cells #[.string nm,.string sa,.string ha,.string ro,.int .i64 bl,.int .i64 lg] 84)) nq) osq).cell? ⟨w.heap.size,3,none⟩=some (.string gm)∧(grow (World.drewN (wr.alloc (.cells #[.string nm,.string sa,.string ha,.string ro,.int .i64 bl,.int .i64 lg] 84)) nq) osq).cell? ⟨w.heap.size,4,none⟩=some (.string wm)∧(grow (World.drewN (wr.alloc (.cells #[.string nm,.string sa,.string ha,.string ro,.int .i64 bl,.int .i64 lg] 84)) nq) osq).cell? ⟨w.heap.size,5,none⟩=some (.int .i64 rs)∧(grow (World.drewN (wr.alloc (.cells #[.string nm,.string sa,.string ha,.string ro,.int .i64 bl,.int .i64 lg] 84)) nq) osq).cell? ⟨w.heap.size,6,none⟩=some (.slice x lenx capx)∧(grow (World.drewN (wr.alloc (.cells #[.string nm,.string sa,.string ha,.string ro,.int .i64 bl,.int .i64 lg] 84)) nq) osq).cell? ⟨w.heap.size,7,none⟩=some (.slice y leny capy)):=⟨HA.out.trans ⟨nq,osq,rfl⟩,e0 nq osq,e1 nq osq,e2 nq osq,e3 nq osq,e4 nq osq,e5 nq osq,e6 nq osq,e7 nq osq⟩
      clear y0 y1 y2 y3 y4 y5 e0 e1 e2 e3 e4 e5 e6 e7 p1
      go_wp2
      go_roundw
      case rel=>exact ⟨k+1,by omega,by go_num,HS',HG1⟩
      case measure=>simp [intOf];omega
     | false =>
      have hd:Hid (risB (uB ros) ltU us=false):=HF.out (by simp)
      have hv:Hid (usB ros us=false):=by show usB ros us=false;unfold usB;rw [hd.out,Bool.and_false]
      go_wp2_with fail
      refine wp_region_quiet_grown (by assumption) (by kernel_rfl) ?_
      repeat (go_big_quiet_step (first | fail | (go_at_call 137;exact Calls.grown_of (HK.out _ (YR.out _ _)))))
      refine wpQuiet_nil ?_
      intro _ hw'
      obtain ⟨⟨nq,osq⟩,hw''⟩:=hw'
      subst hw''
      have HG1:Hid (Grw w _):=HA.out.trans ⟨nq,osq,rfl⟩
      clear y0 y1 y2 y3 y4 y5 e0 e1 e2 e3 e4 e5 e6 e7 p1
      go_wp2
      go_ret
      exact ⟨by rw [hv.out];rfl,HG1.out⟩
  ·obtain rfl:k=len:=by omega
   have hv:Hid (usB ros us=true):=by show usB ros us=true;unfold usB;rw [ris_end hl HO.out,dec_y (by omega)];rfl
   go_wp2
   go_ret
   exact ⟨by rw [hv.out];rfl,G0⟩
open Go.RowKit Go.Maps Go.ChangeMaps Go.MapKept
open Go.WideElems (Fit rd rg pl rd_val elemAt)
theorem own_clear {H:Type} {P:Program} {k t e:TypeId} {R:Value→Option (DataW H × List MemPlace)} {w:World} {b n:Nat} {D:DataW H} (h:w.ownsMap P k R b n D) (ht:P.underlying t=some (.map k e)) (ty:TypeId) :
  ∃ w',(Builtin.clear_ #[t] ty #[.map (some b)]).run P w=.ok (.tuple #[]) w'∧w'.ownsMap P k R b 0 (.map [])∧w.grownBy w' (some b):=by
 obtain ⟨es,clock,hb,F,hs,hD⟩:=h
 have hlt:b<w.heap.size:=(Array.getElem?_eq_some_iff.1 hb).1
 refine ⟨setBlock w b (.map #[] clock),?_,⟨#[],clock,heap_setBlock_same hb _,⟨by simp,stamped_empty clock,by simp⟩,Nat.le_refl _,rfl⟩,⟨rfl,rfl,rfl,by simp [setBlock],fun i _ hi=>heap_setBlock_other hb _ (fun e=>hi (by rw [e]))⟩⟩
 unfold Builtin.clear_
 have e1:(underlying t).run P w=.ok (.map k e) w:=by simp [underlying,ht]
 have e2:=MapKept.run_getObj_map (P:=P) hb
 have e3:=MapKept.run_setObj_map (P:=P) (.map #[] clock) hb
 simp [go_sem,e1,e2,e3,setBlock]
end Go.Proofs.YtojcakkkakmniaaGreatDoor
