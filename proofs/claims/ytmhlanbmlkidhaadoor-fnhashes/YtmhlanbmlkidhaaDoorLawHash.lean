/- The walk of laws.FnExactHash: it answers true at every row of bytes where the two tables lie in their variables, and turns nothing that was there. -/
import Derived.Test.YtmhlanbmlkidhaaDoorHashI
import Derived.Test.YtmhlanbmlkidhaaDoorHashS
import Derived.Test.YtmhlanbmlkidhaaDoorLawCheck16
namespace Go.Proofs.YtmhlanbmlkidhaaDoor
open Go.RowKit Go.PlainAid
set_option linter.unusedVariables false

/-- One text for both. -/
theorem hash_both (len : Nat) (f : Nat → Int) : ∃ r : ByteArray,
    (∀ (b off cap : Nat) (w : World), Bytes w (some ⟨b, off, none⟩) len f → b < w.heap.size → Calls Tryd.prog 25 #[.slice (some ⟨b, off, none⟩) len cap] w fun e w' => e = .returned (.string r) ∧ Below w.heap.size w w') ∧
    (∀ (b off cap : Nat) (w : World), Bytes w (some ⟨b, off, none⟩) len f → b < w.heap.size → len ≤ cap → cap ≤ 9223372036854775807 → KTab w → HTab w → Calls Tryd.prog 16 #[.slice (some ⟨b, off, none⟩) len cap] w fun e w' => e = .returned (.string r) ∧ Below w.heap.size w w') := by
  by_cases hs : len ≤ 65536
  · exact ⟨hashF f len, fun b off cap w hb hl => specHash_any _ len cap f w hb hs (fun h => by cases h) (fun b' o' _ hy => by cases hy; exact hl), fun b off cap w hb hl h1 h2 hk hh => hash_some b off len cap f w hk hh hb hl hs h1 h2⟩
  · exact ⟨⟨#[]⟩, fun b off cap w hb hl => (specHash_long _ len cap w (by omega)).mono fun e w' h => ⟨h.1, h.2 ▸ Below.refl _ _⟩, fun b off cap w hb hl h1 h2 hk hh => (hash_long _ len cap w (by omega)).mono fun e w' h => ⟨h.1, h.2 ▸ Below.refl _ _⟩⟩

end Go.Proofs.YtmhlanbmlkidhaaDoor
