/- Chapter 6: PutSecret: how long its answer may be. -/
import Derived.Test.YtjjileefdjjijaaS6PS
namespace Go.Proofs.Ytjjileefdjjijaa
open Go.RowKit Go.Deep

theorem secs_cc : ∀ (r : List SecretM), (∀ x ∈ r, x.Bytes.length ≤ 40) → cc.ccL (r.flatMap SecretM.vs) ≤ 60 * r.length
  | [], _ => by simp [cc.ccL]
  | x :: r, h => by
    rw [List.flatMap_cons, ccL_append]
    have h1 := secs_cc r (fun y hy => h y (by simp [hy]))
    have h2 := h x (by simp)
    simp only [SecretM.vs, cc.ccL, cc, List.length_cons]
    omega
theorem putR_len (r : List SecretM) (y : SecretM) (_ : WfV (st_Secret r)) (_ : tot (st_Secret r) ≤ 1048576) (_ : WfA y.vs) (_ : tot.totL y.vs ≤ 1048576) : vcA (putR r y).vs ≤ 1000000000 := by
  have key : ∀ (z : SecretsResultM), z.Lst.length ≤ 4 → (∀ x ∈ z.Lst, x.Bytes.length ≤ 40) → vcA z.vs ≤ 1000000000 := fun z h1 h2 => by
    have := secs_cc z.Lst h2
    show 0 + (cc.ccL (z.Lst.flatMap SecretM.vs) + 0) ≤ 1000000000
    omega
  unfold putR
  split
  · next h0 =>
    split
    · next g0 =>
      split
      · next h4 =>
        refine key _ h4 (fun x hx => ?_)
        rcases insS_mem hx with h | h
        · rw [h]; exact (secF_zero g0).2.2
        · exact (secF_zero (secsF_all (ssF_zero h0).2.1 _ h)).2.2
      · exact key _ (by simp) (fun x hx => by simp at hx)
    · exact key _ (by simp) (fun x hx => by simp at hx)
  · exact key _ (by simp) (fun x hx => by simp at hx)
end Go.Proofs.Ytjjileefdjjijaa
