/- A net's text, read by the model's l05Read and the program's ReadNet: what both say. -/
import Derived.Test.YtimhkeebgogfoaaDoorLawReadN
namespace Go.Proofs.YtimhkeebgogfoaaDoor
open Go.RowKit Go.PlainAid Go.Proofs.YtimhkeebgogfoaaDoor.Bt Go.Sort
set_option linter.unusedVariables false
theorem net_parts (t : ByteArray) (ht : t.size ≤ 65536) : ∃ (rd : Bool) (v0 v1 : Int), (∀ w, Calls Tryd.prog 73 #[.string t] w fun e w' => ∃ n0 n1, e = .returned (.tuple #[.agg #[.int .i64 n0, .int .i64 n1], .bool rd]) ∧ (rd = true → n0 = v0 ∧ n1 = v1) ∧ Below w.heap.size w w') ∧
    ∀ (m : Int) (w : World), w.cell? ⟨0, 0, none⟩ = some (.int .i64 m) → Calls Tryd.prog 44 #[.string t] w fun e w' => e = .returned (.tuple #[.agg #[.int .i64 (if rd then v0 else 0), .int .i64 (if rd then v1 else 0)], .int .i64 (if rd then 0 else 3)]) ∧ Below w.heap.size w w' := by
  rcases first_slash t with ⟨i, hi, h47, hn⟩ | hnone
  · obtain ⟨A, hA⟩ : ∃ A, A = t.extract 0 i := ⟨_, rfl⟩
    obtain ⟨R, hR⟩ : ∃ R, R = t.extract (i + 1) t.size := ⟨_, rfl⟩
    have zA : A.size ≤ 65536 := by rw [hA, ByteArray.size_extract]; omega
    have zR : R.size ≤ 65536 := by rw [hR, ByteArray.size_extract]; omega
    have hpq := pq_first t i hi h47 hn
    rw [← hA, ← hR] at hpq
    have hI : ∀ (m : Int) (w : World), w.cell? ⟨0, 0, none⟩ = some (.int .i64 m) → Calls Tryd.prog 44 #[.string t] w fun e w' => e = .returned (.tuple #[.agg #[.int .i64 (if rdN A R then raV A else 0), .int .i64 (if rdN A R then rnV R else 0)], .int .i64 (if rdN A R then 0 else 3)]) ∧ Below w.heap.size w w' := fun m w hm =>
      implReadNet_cut t A R true m w (by omega) zA zR (fun w => strCut_of t A R true w (fun w => by rw [hA, hR]; exact liteCut_hit t i w hi h47 hn (by omega))) hm
    refine ⟨_, _, _, fun w => ?_, hI⟩
    rcases first_slash R with ⟨j, hj, h47', _⟩ | hnone
    · have hlen : (Sl.pq t.data.toList).length ≠ 2 := by
        have h2 := pq_first R j hj h47' (by assumption)
        have h3 := pq_pos (R.extract (j + 1) R.size).data.toList
        rw [hpq, h2]
        simp only [List.length_cons]
        omega
      have hrd : rdN A R = false := by unfold rdN; rw [rnB_slash R j hj h47']; simp
      rw [hrd]
      exact (l05Read_bad t w (by omega) hlen).mono fun e w' h => ⟨0, 0, h.1, (fun h => by cases h), h.2⟩
    · exact l05Read_two t A R w (by omega) zA zR (by rw [hpq, pq_none R hnone])
  · have hI : ∀ (m : Int) (w : World), w.cell? ⟨0, 0, none⟩ = some (.int .i64 m) → Calls Tryd.prog 44 #[.string t] w fun e w' => e = .returned (.tuple #[.agg #[.int .i64 (if rdN t ⟨#[]⟩ then raV t else 0), .int .i64 (if rdN t ⟨#[]⟩ then rnV ⟨#[]⟩ else 0)], .int .i64 (if rdN t ⟨#[]⟩ then 0 else 3)]) ∧ Below w.heap.size w w' := fun m w hm =>
      implReadNet_cut t t ⟨#[]⟩ false m w (by omega) (by omega) (by simp [ByteArray.size]) (fun w => strCut_of t t ⟨#[]⟩ false w (fun w => liteCut_miss t w hnone)) hm
    refine ⟨_, _, _, fun w => ?_, hI⟩
    have hrd : rdN t ⟨#[]⟩ = false := by unfold rdN; rw [rnB_empty]; simp
    rw [hrd]
    exact (l05Read_bad t w (by omega) (by rw [pq_none t hnone]; simp)).mono fun e w' h => ⟨0, 0, h.1, (fun h => by cases h), h.2⟩
end Go.Proofs.YtimhkeebgogfoaaDoor
