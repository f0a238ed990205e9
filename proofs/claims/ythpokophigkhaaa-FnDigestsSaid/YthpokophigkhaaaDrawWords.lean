/- The drawn arguments of chapter 1's laws: some numbers; nothing that was there turns. -/
import Derived.Test.YthpokophigkhaaaDraw
import Derived.Test.YthpokophigkhaaaLess
namespace Go.Proofs.Ythpokophigkhaaa
open Go.RowKit Go.Deep

/-- Two numbers come back; what was there has not turned. -/
def Two (w : World) (e : Ending) (w' : World) : Prop := ∃ a b : Int, e = .returned (.tuple #[.int .i64 a, .int .i64 b]) ∧ Below w.heap.size w w'
set_option maxHeartbeats 1000000 in
theorem drawAdd_any (A : Option Addr) (l : List Int) (c : Nat) (w : World) (hA : Bs w A l) (hl : Bytes l) (hm : (l.length : Int) ≤ 1048576) :
    Calls Try.prog 13 #[.slice A l.length c] w (Two w) := by
  go_enter Try.func13, Try.ntmps13
  go_wp2_with fail
  refine (source_any _ _ _ _ hA hl hm).mono ?_
  rintro e w1 ⟨rfl, S1, b1⟩
  go_wp2_with fail
  refine (bent_any _ _ _ _ _ _ S1 (by omega)).mono ?_
  rintro e w2 ⟨v2, a2, rfl, p2, t2, S2, W2⟩
  go_wp2_with fail
  refine (bent_any _ _ _ _ _ _ S2 (by omega)).mono ?_
  rintro e w3 ⟨v3, a3, rfl, p3, t3, S3, W3⟩
  have B := hidH (b1.trans ((W2.trans W3).below b1.size))
  clear S1 S2 S3 W2 W3 b1
  go_wp2
  go_ret2
  exact ⟨_, _, rfl, B.out⟩
set_option maxHeartbeats 1000000 in
theorem drawRot_any (A : Option Addr) (l : List Int) (c : Nat) (w : World) (hA : Bs w A l) (hl : Bytes l) (hm : (l.length : Int) ≤ 1048576) :
    Calls Try.prog 14 #[.slice A l.length c] w (Two w) := by
  go_enter Try.func14, Try.ntmps14
  go_wp2_with fail
  refine (source_any _ _ _ _ hA hl hm).mono ?_
  rintro e w1 ⟨rfl, S1, b1⟩
  go_wp2_with fail
  refine (bent_any _ _ _ _ _ _ S1 (by omega)).mono ?_
  rintro e w2 ⟨v2, a2, rfl, p2, t2, S2, W2⟩
  go_wp2_with fail
  refine (next_any _ _ _ _ _ _ _ S2 (by omega)).mono ?_
  rintro e w3 ⟨u, rfl, u0, u1, S3, W3, z3⟩
  go_wp2_with fail
  refine (next_any _ _ _ _ _ _ _ S3 (by omega)).mono ?_
  rintro e w4 ⟨v, rfl, v0, v1, S4, W4, z4⟩
  have B4 := b1.trans (((W2.trans W3).trans W4).below b1.size)
  clear S1 S2 S3 W2 W3 W4 b1 z3 z4
  go_wp2_with fail
  have hg := S4.lt
  refine (pick_any w.heap.size A l c (a2 + 1 + 1) w4.heap.size [0, 1, 7, 31, u, v, 32, -1] _ (S4.below (bal (Below.refl _ _) _)) (by omega)
    (Ns.of_blk (t := 2) (Blk.new w4 _ _)) (by simp) (by simp) (by omega)).mono ?_
  rintro e w5 ⟨y, at', rfl, hy, ha', S5, W5⟩
  have B := hidH (B4.trans (((Win.of_below (bal (Below.refl _ _) _)).trans W5).below B4.size))
  clear S4 S5 W5 B4 hy
  go_wp2
  go_ret2
  exact ⟨_, _, rfl, B.out⟩
end Go.Proofs.Ythpokophigkhaaa
