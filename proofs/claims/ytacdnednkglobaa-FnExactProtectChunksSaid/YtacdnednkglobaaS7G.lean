/- Chapter 7: how long ProtectChunks' answer may be. -/
import Derived.Test.YtacdnednkglobaaS7Q
namespace Go.Proofs.Ytacdnednkglobaa
open Go.RowKit Go.Deep

theorem chunks_cc : ∀ (r : List ChunkM), (∀ x ∈ r, x.Body.length ≤ 160) → cc.ccL (r.flatMap ChunkM.vs) ≤ 200 * r.length
  | [], _ => by simp [cc.ccL]
  | x :: r, h => by
    rw [List.flatMap_cons, ccL_append]
    have h1 := chunks_cc r (fun y hy => h y (by simp [hy]))
    have h2 := h x (by simp)
    simp only [ChunkM.vs, cc.ccL, cc, List.length_cons]
    omega
theorem pcR_len (id : Int) (key : List Int) (r : List ChunkM) (_ : WfV (.int id)) (_ : WfV (.bs key)) (_ : tot (.bs key) ≤ 1048576) (_ : WfV (st_Chunk r)) (_ : tot (st_Chunk r) ≤ 1048576) : vcA (pcR id key r).vs ≤ 1000000000 := by
  have key0 : ∀ (z : ChunksResultM), z.Chunks.length ≤ 8 → (∀ x ∈ z.Chunks, x.Body.length ≤ 160) → vcA z.vs ≤ 1000000000 := fun z h1 h2 => by
    have := chunks_cc z.Chunks h2
    show 0 + (cc.ccL (z.Chunks.flatMap ChunkM.vs) + 0) ≤ 1000000000
    omega
  unfold pcR
  split
  · next h =>
    unfold pcF at h
    split at h
    · have h7 := (mtF_zero h).2.1
      refine key0 _ ?_ (fun x hx => ?_)
      · have := (csF_zero h7).1
        simp [pcL]; omega
      · rcases List.mem_cons.1 hx with hx | hx
        · rw [hx]
          show (tagB id _).length ≤ 160
          rw [tagB_len, hmL_len]; omega
        · exact (cmsF_ok (csF_zero h7).2 x hx).2.2
    · cases h
  · exact key0 _ (by simp) (fun x hx => by simp at hx)
end Go.Proofs.Ytacdnednkglobaa
