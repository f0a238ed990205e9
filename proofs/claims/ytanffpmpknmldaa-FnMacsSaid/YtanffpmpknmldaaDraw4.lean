/- The drawn arguments of chapter 3's laws. -/
import Derived.Test.YtanffpmpknmldaaDrawAt
namespace Go.Proofs.Ytanffpmpknmldaa
open Go.RowKit Go.Deep

/-- Two slices of bytes come back. -/
def BB (w : World) (e : Ending) (w' : World) : Prop :=
  ∃ A cp a B cq b, e = .returned (.tuple #[.slice A (a : List Int).length cp, .slice B (b : List Int).length cq]) ∧ Bs w' A a ∧ Bytes a ∧ Bs w' B b ∧ Bytes b ∧ a.length ≤ cp ∧ (cp : Int) ≤ 9223372036854775807 ∧ a.length ≤ 1000 ∧ b.length ≤ cq ∧ (cq : Int) ≤ 9223372036854775807 ∧ b.length ≤ 1000 ∧ Below w.heap.size w w'
set_option maxHeartbeats 2000000 in
theorem drawHm_any (A : Option Addr) (l : List Int) (c : Nat) (w : World) (hA : Bs w A l) (hl : Bytes l) (hm : (l.length : Int) ≤ 1048576) :
    Calls Try.prog 9 #[.slice A l.length c] w (BB w) := by
  go_enter Try.func9, Try.ntmps9
  go_wp2_with fail
  refine (source_any _ _ _ _ hA hl hm).mono ?_
  rintro e w1 ⟨rfl, S1, b1⟩
  go_wp2_with fail
  have hg := S1.lt
  refine (pick_any w.heap.size A l c 0 w1.heap.size [0, 1, 16, 64, 65, 90] _ (S1.below (bal (Below.refl _ _) _)) (by omega)
    (Ns.of_blk (t := 2) (Blk.new w1 _ _)) (by simp) (by simp) (by omega)).mono ?_
  rintro e w2 ⟨y, a2, rfl, hy, ha2, S2, W2⟩
  obtain ⟨N, rfl, hN⟩ : ∃ N : Nat, y = N ∧ N ≤ 601 := by
    simp at hy
    rcases hy with rfl | rfl | rfl | rfl | rfl | rfl
    · exact ⟨0, rfl, by omega⟩
    · exact ⟨1, rfl, by omega⟩
    · exact ⟨16, rfl, by omega⟩
    · exact ⟨64, rfl, by omega⟩
    · exact ⟨65, rfl, by omega⟩
    · exact ⟨90, rfl, by omega⟩
  have B2 := b1.trans (((Win.of_below (bal (Below.refl _ _) _)).trans W2).below b1.size)
  have g2 := S2.lt
  clear S1 W2 b1 hy
  go_wp2_with fail
  refine (pick_any w.heap.size A l c a2 w2.heap.size [0, 3, 20, 60] _ (S2.below (bal (Below.refl _ _) _)) (by omega)
    (Ns.of_blk (t := 2) (Blk.new w2 _ _)) (by simp) (by simp) (by omega)).mono ?_
  rintro e w3 ⟨z, a3, rfl, hz, ha3, S3, W3⟩
  obtain ⟨M, rfl, hM⟩ : ∃ M : Nat, z = M ∧ M ≤ 601 := by
    simp at hz
    rcases hz with rfl | rfl | rfl | rfl
    · exact ⟨0, rfl, by omega⟩
    · exact ⟨3, rfl, by omega⟩
    · exact ⟨20, rfl, by omega⟩
    · exact ⟨60, rfl, by omega⟩
  have B3 := B2.trans (((Win.of_below (bal (Below.refl _ _) _)).trans W3).below B2.size)
  clear S2 W3 B2 hz
  go_wp2_with fail
  refine (chance_any _ _ _ _ _ _ _ S3 (by omega)).mono ?_
  rintro e w4 ⟨b, rfl, S4, W4⟩
  have B4 := B3.trans (W4.below B3.size)
  clear S3 W4 B3
  cases b
  case' true =>
    have g4 := S4.lt
    go_wp2_with fail
    refine (pick_any w.heap.size A l c _ w4.heap.size [200, 201] _ (S4.below (bal (Below.refl _ _) _)) (by omega)
      (Ns.of_blk (t := 2) (Blk.new w4 _ _)) (by simp) (by simp) (by omega)).mono ?_
    rintro e w5 ⟨y, a5, rfl, hy, ha5, S5, W5⟩
    clear hN
    obtain ⟨N, rfl, hN⟩ : ∃ N : Nat, y = N ∧ N ≤ 601 := by
      simp at hy
      rcases hy with rfl | rfl
      · exact ⟨200, rfl, by omega⟩
      · exact ⟨201, rfl, by omega⟩
    have B5 := B4.trans (((Win.of_below (bal (Below.refl _ _) _)).trans W5).below B4.size)
    have g5 := S5.lt
    clear S4 W5 B4 hy
    go_wp2_with fail
    refine (pick_any w.heap.size A l c _ w5.heap.size [600, 601] _ (S5.below (bal (Below.refl _ _) _)) (by omega)
      (Ns.of_blk (t := 2) (Blk.new w5 _ _)) (by simp) (by simp) (by omega)).mono ?_
    rintro e w6 ⟨z, a6, rfl, hz, ha6, S6, W6⟩
    clear hM
    obtain ⟨M, rfl, hM⟩ : ∃ M : Nat, z = M ∧ M ≤ 601 := by
      simp at hz
      rcases hz with rfl | rfl
      · exact ⟨600, rfl, by omega⟩
      · exact ⟨601, rfl, by omega⟩
    have B6 := B5.trans (((Win.of_below (bal (Below.refl _ _) _)).trans W6).below B5.size)
    have SX : ∃ a, a ≤ 100 ∧ Src w6 w.heap.size A l c a := ⟨a6, by omega, S6⟩
    clear S5 W6 B5 hz S6
    have BX := B6
  case' false =>
    have SX : ∃ a, a ≤ 100 ∧ Src w4 w.heap.size A l c a := ⟨_, by omega, S4⟩
    have BX := B4
  all_goals
    obtain ⟨a7, ha7, S7⟩ := SX
    go_wp2_with fail
    refine (some_any N _ _ _ _ _ _ S7 (by omega) (by omega)).mono ?_
    rintro e w8 ⟨v8, d8, a8, rfl, hd8, hl8, O8, S8, ha8, W8⟩
    obtain ⟨A8, c8, rfl, o8, hc8, hm8⟩ := own_ob O8
    have L8 := hidH (show d8.length ≤ 1000 by omega)
    have hS8 := BX.size
    have hgX := S7.lt
    have D8 := hidH hd8
    have C8 := hidH (And.intro hc8 hm8)
    have OH8 := hidH o8
    clear hl8 hd8 hc8 hm8 O8 o8
    have B8 := BX.trans (W8.below BX.size)
    clear S7 W8 BX
    go_wp2_with fail
    refine (some_any M _ _ _ _ _ _ S8 (by omega) (by omega)).mono ?_
    rintro e w9 ⟨v9, d9, a9, rfl, hd9, hl9, O9, S9, ha9, W9⟩
    obtain ⟨A9, c9, rfl, o9, hc9, hm9⟩ := own_ob O9
    have B9 := hidH (B8.trans (W9.below B8.size))
    have P8 := hidH ((OH8.out.win W9 (.inr (by omega))).bs)
    have P9 := hidH o9.bs
    have D9 := hidH hd9
    have C9 := hidH (And.intro hc9 hm9)
    have L9 := hidH (show d9.length ≤ 1000 by omega)
    clear hl9 hd9 hc9 hm9 O9 o9 S9 S8 W9 B8
    go_wp2
    go_ret2
    exact ⟨A8, c8, d8, A9, c9, d9, rfl, P8.out, D8.out, P9.out, D9.out, C8.out.1, C8.out.2, L8.out, C9.out.1, C9.out.2, L9.out, B9.out⟩
end Go.Proofs.Ytanffpmpknmldaa
