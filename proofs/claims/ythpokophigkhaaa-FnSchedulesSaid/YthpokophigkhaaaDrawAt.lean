/- The drawn arguments of WordAt: some bytes and some number. -/
import Derived.Test.YthpokophigkhaaaSome
namespace Go.Proofs.Ythpokophigkhaaa
open Go.RowKit Go.Deep
theorem own_ob {w : World} {B : Nat} {v : Value} {d : List Int} (h : w.ownsRow B 5 1 v d.length (d.map (Value.int .u8))) :
    ∃ A cp, v = .slice A d.length cp ∧ Ob B w.heap.size w A d ∧ d.length ≤ cp ∧ (cp : Int) ≤ 9223372036854775807 := by
  have hc := fun g hg => h.cells (g := g) hg
  have hl := h.lt
  obtain ⟨_, ⟨rfl, hn⟩ | ⟨g, cap, cur, rfl, hg, hblk, hnc, hm, _, _⟩⟩ := h
  · have : d = [] := List.eq_nil_of_length_eq_zero hn
    subst this
    exact ⟨none, 0, rfl, .inl rfl, Nat.le_refl _, by omega⟩
  · unfold maxLen at hm
    refine ⟨_, cap, rfl, .inr ⟨g, 0, rfl, hg, (hl g rfl).2, Nat.le_refl _, fun j hj => ⟨?_, ?_⟩⟩, hnc, by omega⟩
    · have h1 := hc g rfl j (.int .u8 (d.getD j 0)) (by simp [hj])
      rw [Nat.zero_add, ← h1]
      rcases j with _ | j <;> simp [Addr.add]
    · simp [World.frozen?, hblk]
set_option maxHeartbeats 400000 in
theorem max_any (a b : Int) (w : World) : Calls Try.prog 62 #[.int .i64 a, .int .i64 b] w fun e w' => e = .returned (.int .i64 (max a b)) ∧ w = w' := by
  rcases Int.lt_or_le b a with h | h
  · rw [show max a b = a from by omega]
    go_enter Try.func62, Try.ntmps62
    go_wp2
    go_ret
    exact ⟨rfl, rfl⟩
  · rw [show max a b = b from by omega]
    go_enter Try.func62, Try.ntmps62
    go_wp2
    go_ret
    exact ⟨rfl, rfl⟩
/-- Some bytes and some number come back. -/
def WAt (w : World) (e : Ending) (w' : World) : Prop :=
  ∃ A cp d n, e = .returned (.tuple #[.slice A (d : List Int).length cp, .int .i64 n]) ∧ Bs w' A d ∧ Bytes d ∧ d.length ≤ cp ∧ (cp : Int) ≤ 9223372036854775807 ∧ d.length ≤ 1000 ∧ Below w.heap.size w w'
set_option maxHeartbeats 1000000 in
theorem drawAt_any (A : Option Addr) (l : List Int) (c : Nat) (w : World) (hA : Bs w A l) (hl : Bytes l) (hm : (l.length : Int) ≤ 1048576) :
    Calls Try.prog 18 #[.slice A l.length c] w (WAt w) := by
  go_enter Try.func18, Try.ntmps18
  go_wp2_with fail
  refine (source_any _ _ _ _ hA hl hm).mono ?_
  rintro e w1 ⟨rfl, S1, b1⟩
  go_wp2_with fail
  have hg := S1.lt
  refine (pick_any w.heap.size A l c 0 w1.heap.size [0, 3, 4, 5, 9] _ (S1.below (bal (Below.refl _ _) _)) (by omega)
    (Ns.of_blk (t := 2) (Blk.new w1 _ _)) (by simp) (by simp) (by omega)).mono ?_
  rintro e w2 ⟨y, a2, rfl, hy, ha2, S2, W2⟩
  obtain ⟨N, rfl, hN⟩ : ∃ N : Nat, y = N ∧ N ≤ 9 := by
    simp at hy
    rcases hy with rfl | rfl | rfl | rfl | rfl
    · exact ⟨0, rfl, by omega⟩
    · exact ⟨3, rfl, by omega⟩
    · exact ⟨4, rfl, by omega⟩
    · exact ⟨5, rfl, by omega⟩
    · exact ⟨9, rfl, by omega⟩
  have B2 := b1.trans (((Win.of_below (bal (Below.refl _ _) _)).trans W2).below b1.size)
  clear S1 W2 b1 hy
  go_wp2_with fail
  refine (some_any N _ _ _ _ _ _ S2 (by omega) (by omega)).mono ?_
  rintro e w3 ⟨v, d, a3, rfl, hd, hdl, O3, S3, ha3, W3⟩
  obtain ⟨A3, c3, rfl, O, hc3, hm3⟩ := own_ob O3
  have B3 := B2.trans (W3.below B2.size)
  have hs2 := B2.size
  have hg2 := S2.lt
  have K := hidH hdl
  have hdn : (d.length : Int) ≤ 9 := by omega
  clear S2 W3 B2 O3 hdl
  go_wp2_with (first | (go_at_call 62; refine (max_any _ _ _).mono ?_; rintro e w' ⟨rfl, rfl⟩))
  refine (next_any _ _ _ _ _ _ _ S3 (by omega)).mono ?_
  rintro e w4 ⟨u, rfl, u0, u1, S4, W4, z4⟩
  have B4 := B3.trans (W4.below B3.size)
  have O4 := O.win W4 (.inr (by omega))
  clear z4 S3 W4 B3 O
  go_wp2_with fail
  have hg4 := S4.lt
  refine (pick_any w.heap.size A l c (a3 + 1) w4.heap.size [0, (d.length : Int) - 4, (d.length : Int) - 3, -1, u, 1] _ (S4.below (bal (Below.refl _ _) _)) (by omega)
    (Ns.of_blk (t := 2) (Blk.new w4 _ _)) (by simp) (by simp) (by omega)).mono ?_
  rintro e w5 ⟨z, a5, rfl, hz, ha5, S5, W5⟩
  have B5 := hidH (B4.trans (((Win.of_below (bal (Below.refl _ _) _)).trans W5).below B4.size))
  have O5 := hidH ((O4.below (bal (Below.refl _ _) _)).win W5 (.inr (by omega))).bs
  have D := hidH hd
  clear S4 S5 W5 B4 O4 hz hd u1
  go_wp2
  go_ret2
  exact ⟨A3, c3, d, z, rfl, O5.out, D.out, hc3, hm3, by omega, B5.out⟩
end Go.Proofs.Ythpokophigkhaaa
