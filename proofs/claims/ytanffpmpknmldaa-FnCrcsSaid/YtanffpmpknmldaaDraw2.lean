/- The drawn arguments of chapter 2's laws. -/
import Derived.Test.YtanffpmpknmldaaLawKit
import Derived.Test.YtanffpmpknmldaaDrawWords
namespace Go.Proofs.Ytanffpmpknmldaa
open Go.RowKit Go.Deep

/-- Some number comes back. -/
def DOne (w : World) (e : Ending) (w' : World) : Prop := ∃ n : Int, e = .returned (.int .i64 n) ∧ Below w.heap.size w w'
/-- Some bytes come back. -/
def BOne (w : World) (e : Ending) (w' : World) : Prop :=
  ∃ A cp d, e = .returned (.slice A (d : List Int).length cp) ∧ Bs w' A d ∧ Bytes d ∧ d.length ≤ cp ∧ (cp : Int) ≤ 9223372036854775807 ∧ d.length ≤ 1000 ∧ Below w.heap.size w w'
set_option maxHeartbeats 2000000 in
theorem drawPad_any (A : Option Addr) (l : List Int) (c : Nat) (w : World) (hA : Bs w A l) (hl : Bytes l) (hm : (l.length : Int) ≤ 1048576) :
    Calls Try.prog 44 #[.slice A l.length c] w (BOne w) := by
  have fin : ∀ (N : Nat) (a : Nat) (w2 : World), N ≤ 701 → a ≤ 1000 → Src w2 w.heap.size A l c a → Below w.heap.size w w2 → Calls Try.prog 32 #[.pointer (some ⟨w.heap.size, 0, none⟩), .int .i64 N] w2 (BOne w) := by
    intro N a w2 hN ha S2 B2
    refine (some_any N _ _ _ _ _ _ S2 (by omega) (by omega)).mono ?_
    rintro e w3 ⟨v, d, a3, rfl, hd, hdl, O3, S3, ha3, W3⟩
    obtain ⟨A3, c3, rfl, O, hc3, hm3⟩ := own_ob O3
    exact ⟨A3, c3, d, rfl, O.bs, hd, hc3, hm3, by omega, B2.trans (W3.below B2.size)⟩
  have FIN := hidH fin
  clear fin
  go_enter Try.func44, Try.ntmps44
  go_wp2_with fail
  refine (source_any _ _ _ _ hA hl hm).mono ?_
  rintro e w1 ⟨rfl, S1, b1⟩
  go_wp2_with fail
  refine (next_any _ _ _ _ _ _ _ S1 (by omega)).mono ?_
  rintro e w2 ⟨u, rfl, u0, u1, S2, W2, z2⟩
  have B2 := b1.trans (W2.below b1.size)
  clear S1 W2 b1 z2
  go_wp2_with fail
  have hg := S2.lt
  refine (pick_any w.heap.size A l c (0 + 1) w2.heap.size [0, 1, 3, 55, 56, 63, 64, u] _ (S2.below (bal (Below.refl _ _) _)) (by omega)
    (Ns.of_blk (t := 2) (Blk.new w2 _ _)) (by simp) (by simp) (by omega)).mono ?_
  rintro e w3 ⟨y, a3, rfl, hy, ha3, S3, W3⟩
  obtain ⟨N, rfl, hN⟩ : ∃ N : Nat, y = N ∧ N ≤ 701 := by
    simp at hy
    rcases hy with rfl | rfl | rfl | rfl | rfl | rfl | rfl | rfl
    · exact ⟨0, rfl, by omega⟩
    · exact ⟨1, rfl, by omega⟩
    · exact ⟨3, rfl, by omega⟩
    · exact ⟨55, rfl, by omega⟩
    · exact ⟨56, rfl, by omega⟩
    · exact ⟨63, rfl, by omega⟩
    · exact ⟨64, rfl, by omega⟩
    · exact ⟨y.toNat, by omega, by omega⟩
  have B3 := B2.trans (((Win.of_below (bal (Below.refl _ _) _)).trans W3).below B2.size)
  clear S2 W3 B2 hy u0 u1
  go_wp2_with fail
  refine (chance_any _ _ _ _ _ _ _ S3 (by omega)).mono ?_
  rintro e w4 ⟨b, rfl, S4, W4⟩
  have B4 := B3.trans (W4.below B3.size)
  clear S3 W4 B3
  rcases b with _ | _
  · have HS := hidH S4
    have HB := hidH B4
    clear S4 B4
    go_wp2_with fail
    refine (FIN.out N _ _ hN (by omega) HS.out HB.out).mono ?_
    rintro e w6 ⟨A3, c3, d, rfl, q1, q2, q3, q4, q5, q6⟩
    have HQ := hidH (And.intro q1 (And.intro q2 (And.intro q3 (And.intro q4 (And.intro q5 q6)))))
    clear q1 q2 q3 q4 q5 q6
    go_wp2
    go_ret
    exact ⟨A3, c3, d, rfl, HQ.out⟩
  · go_wp2_with fail
    have hg := S4.lt
    refine (pick_any w.heap.size A l c (a3 + 1) w4.heap.size [700, 701] _ (S4.below (bal (Below.refl _ _) _)) (by omega)
      (Ns.of_blk (t := 2) (Blk.new w4 _ _)) (by simp) (by simp) (by omega)).mono ?_
    rintro e w5 ⟨y, a5, rfl, hy, ha5, S5, W5⟩
    obtain ⟨N5, rfl, hN5⟩ : ∃ N5 : Nat, y = N5 ∧ N5 ≤ 701 := by
      simp at hy
      rcases hy with rfl | rfl
      · exact ⟨700, rfl, by omega⟩
      · exact ⟨701, rfl, by omega⟩
    have HB := hidH (B4.trans (((Win.of_below (bal (Below.refl _ _) _)).trans W5).below B4.size))
    have HS := hidH S5
    clear S4 S5 W5 B4 hy
    go_wp2_with fail
    refine (FIN.out N5 _ _ hN5 (by omega) HS.out HB.out).mono ?_
    rintro e w6 ⟨A3, c3, d, rfl, q1, q2, q3, q4, q5, q6⟩
    have HQ := hidH (And.intro q1 (And.intro q2 (And.intro q3 (And.intro q4 (And.intro q5 q6)))))
    clear q1 q2 q3 q4 q5 q6
    go_wp2
    go_ret
    exact ⟨A3, c3, d, rfl, HQ.out⟩
end Go.Proofs.Ytanffpmpknmldaa
