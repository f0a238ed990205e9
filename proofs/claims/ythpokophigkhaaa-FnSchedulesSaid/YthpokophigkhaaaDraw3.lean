/- The drawn arguments of CompressBlock. -/
import Derived.Test.YthpokophigkhaaaDraw2
namespace Go.Proofs.Ythpokophigkhaaa
open Go.RowKit Go.Deep

/-- A whole block of numbers. -/
def Irow (w : World) (g : Nat) (l : List Int) : Prop := Blk w g 2 (l.map (Value.int .i64)).toArray
theorem Irow.cell {w : World} {g : Nat} {l : List Int} (h : Irow w g l) (j : Nat) (hj : j < l.length) : w.cell? ⟨g, j, none⟩ = some (.int .i64 (l.getD j 0)) := by
  rw [Blk.cell h j]; simp [hj]
theorem Irow.set {w : World} {g : Nat} {l : List Int} (h : Irow w g l) (j : Nat) (v : Int) : Irow (w.setCell ⟨g, j, none⟩ (.int .i64 v)) g (l.set j v) := by
  have := heap_setCell_same w g j _ _ (.int .i64 v) h
  unfold Irow Blk
  rw [this]
  simp [List.map_set]
theorem Irow.is {w : World} {g : Nat} {l : List Int} (h : Irow w g l) : Is w (some ⟨g, 0, none⟩) l :=
  .inr ⟨g, 0, rfl, Blk.lt h, fun j hj => by rw [Nat.zero_add]; exact h.cell j hj⟩
theorem Src.far {w : World} {g : Nat} {A : Option Addr} {l : List Int} {c at_ : Nat} (h : Src w g A l c at_) {p : Addr} (hp : g < p.block) (v : Value) : Src (w.setCell p v) g A l c at_ := by
  refine ⟨blk_far h.blk (by omega) v, h.bytes, ?_, h.len⟩
  rcases h.row with h1 | ⟨b, off, h1, h2, h3⟩
  · exact .inl h1
  · exact .inr ⟨b, off, h1, h2, fun j hj => (World.cell?_setCell_other _ _ _ _ (fun e => by subst e; simp at hp; omega)).trans (h3 j hj)⟩
def SB (w : World) (e : Ending) (w' : World) : Prop :=
  ∃ A cp st B cq d, e = .returned (.tuple #[.slice A (st : List Int).length cp, .slice B (d : List Int).length cq]) ∧ Is w' A st ∧ Bs w' B d ∧ Bytes d ∧ st.length ≤ cp ∧ (cp : Int) ≤ 9223372036854775807 ∧ st.length ≤ 1000 ∧ d.length ≤ cq ∧ (cq : Int) ≤ 9223372036854775807 ∧ d.length ≤ 1000 ∧ Below w.heap.size w w'
set_option maxHeartbeats 1000000 in
theorem start_blk (w : World) : Calls Try.prog 79 #[] w fun e w' => e = .returned (.slice (some ⟨w.heap.size, 0, none⟩) 8 8) ∧ (∃ st : List Int, st.length = 8 ∧ Irow w' w.heap.size st) ∧ Below w.heap.size w w' := by
  go_enter Try.func79, Try.ntmps79
  go_wp2
  go_ret
  exact ⟨rfl, ⟨ci startN, rfl, Blk.new w _ _⟩, bal (Below.refl _ _) _⟩
set_option maxHeartbeats 4000000 in
theorem drawCB_any (A : Option Addr) (l : List Int) (c : Nat) (w : World) (hA : Bs w A l) (hl : Bytes l) (hm : (l.length : Int) ≤ 1048576) :
    Calls Try.prog 34 #[.slice A l.length c] w (SB w) := by
  go_enter Try.func34, Try.ntmps34
  go_wp2_with fail
  refine (source_any _ _ _ _ hA hl hm).mono ?_
  rintro e w1 ⟨rfl, S1, b1⟩
  go_wp2_with fail
  refine (start_blk _).mono ?_
  rintro e w2 ⟨rfl, ⟨st0, hl0, I2⟩, b2⟩
  have hg := S1.lt
  have S2 := hidH (S1.below b2)
  have B2 := hidH (btr b1 b2)
  have I2' := hidH I2
  have L2 := hidH hl0
  obtain ⟨sb, hsb⟩ : ∃ sb, w1.heap.size = sb := ⟨_, rfl⟩
  rw [hsb] at hg I2' ⊢
  clear S1 b1 b2 I2 hsb hl0
  go_wp2_with fail
  go_loopw [12] (fun i wr => ∃ (k a : Nat) (st : List Int), k ≤ 8 ∧ i = .int .i64 k ∧ a ≤ 4 * k ∧ st.length = 8 ∧ Irow wr sb st ∧ Src wr w.heap.size A l c a ∧ Below w.heap.size w wr) (fun i _ => 8 - (intOf i).toNat)
  case atStart => exact ⟨0, 0, st0, by omega, rfl, by omega, L2.out, I2'.out, S2.out, B2.out⟩
  case round =>
    obtain ⟨k, a, st, hk, rfl, ha, hst, hI, hS, hB⟩ := hrel
    by_cases hlt : k < 8
    · have hlt2 : (k : Int) < 8 := by omega
      have hlt0 : (0 : Int) ≤ (k : Int) := by omega
      go_wp2_with fail
      refine (draw_any _ _ _ _ _ _ hS (by omega)).mono ?_
      rintro e w3 ⟨v, a3, rfl, _, ha3, S3, W3⟩
      have I3 := W3.blk hI (.inr (by omega))
      have c1 := Irow.cell I3 k (by omega)
      have f1 := Blk.frozen I3 k
      have HI := hidH (Irow.set I3 k v)
      have HS := hidH (S3.far (p := ⟨sb, k, none⟩) hg (.int .i64 v))
      have HB := hidH (bst (hB.trans (W3.below hB.size)) (show w.heap.size ≤ (⟨sb, k, none⟩ : Addr).block from by show w.heap.size ≤ sb; omega) (.int .i64 v))
      have HL := hidH (show (st.set k v).length = 8 by rw [List.length_set]; exact hst)
      clear I3 hI S3 W3 hS hB hst
      go_wp2
      go_roundw
      case rel => exact ⟨k + 1, a3, _, by omega, by go_num, by omega, HL.out, HI.out, HS.out, HB.out⟩
      case measure => simp [intOf]; omega
    · obtain rfl : k = 8 := by omega
      rw [show ((8 : Nat) : Int) = 8 from rfl]
      go_wp2_with fail
      refine (next_any _ _ _ _ _ _ _ hS (by omega)).mono ?_
      rintro e w3 ⟨u, rfl, u0, u1, S3, W3, z3⟩
      have I3 := W3.blk hI (.inr (by omega))
      have B3 := hB.trans (W3.below hB.size)
      clear hI hB hS W3 z3 hlt hk
      have fin : ∀ (cp off : Nat) (st2 : List Int) (w4 : World), st2.length ≤ cp → cp ≤ 100 → st2.length ≤ 8 → Is w4 (some ⟨sb, off, none⟩) st2 → Below w.heap.size w w4 →
          Calls Try.prog 32 #[.slice A l.length c] w4 fun e w' => ∃ B cq d, e = .returned (.slice B (d : List Int).length cq) ∧ SB w (.returned (.tuple #[.slice (some ⟨sb, off, none⟩) st2.length cp, .slice B d.length cq])) w' := by
        intro cp off st2 w4 h1 h2 h3 hI4 hB4
        refine (drawSch_any A l c w4 (bs_below hA hB4) hl hm).mono ?_
        rintro e w5 ⟨B, cq, d, rfl, q1, q2, q3, q4, q5, q6⟩
        exact ⟨B, cq, d, rfl, _, cp, st2, B, cq, d, rfl, is_below hI4 q6, q1, q2, h1, by omega, by omega, q3, q4, q5, btr hB4 q6⟩
      have FIN := hidH fin
      clear fin
      by_cases hu0 : u = 0
      · subst hu0
        go_wp2_with fail
        refine (bent_any _ _ _ _ _ _ S3 (by omega)).mono ?_
        rintro e w4 ⟨v, a4, rfl, _, ha4, S4, W4⟩
        have I4 := W4.blk I3 (.inr (by omega))
        have c1 := Irow.cell I4 3 (by omega)
        have f1 := Blk.frozen I4 3
        have I5 := Irow.set I4 3 v
        have B5 := bst (B3.trans (W4.below B3.size)) (show w.heap.size ≤ (⟨sb, 3, none⟩ : Addr).block from by show w.heap.size ≤ sb; omega) (.int .i64 v)
        have hcall := FIN.out 8 0 (st.set 3 v) _ (by rw [List.length_set]; omega) (by omega) (by rw [List.length_set]; omega) (Irow.is I5) B5
        rw [List.length_set, hst] at hcall
        have HC := hidH hcall
        clear I3 I4 I5 B3 B5 S3 S4 W4 hcall hst
        go_wp2_with fail
        refine HC.out.mono ?_
        rintro e w6 ⟨B, cq, d, rfl, hSB⟩
        have HSB := hidH hSB
        clear hSB
        go_wp2
        go_ret2
        exact HSB.out
      · by_cases hu1 : u = 1
        · subst hu1
          have hsl : (1 : Nat) ≤ 8 := by omega
          have I5 : Is w3 (some ⟨sb, 1, none⟩) (st.drop 1) := .inr ⟨sb, 1, rfl, Blk.lt I3, fun j hj => by
            rw [List.length_drop] at hj
            have := Irow.cell I3 (1 + j) (by omega)
            rw [this]; simp [List.getD_eq_getElem?_getD, Nat.add_comm]⟩
          have hcall := FIN.out 7 1 (st.drop 1) w3 (by rw [List.length_drop]; omega) (by omega) (by rw [List.length_drop]; omega) I5 B3
          rw [List.length_drop, hst] at hcall
          have HC := hidH hcall
          clear I3 I5 B3 S3 hcall hst hu0
          go_wp2_with fail
          refine HC.out.mono ?_
          rintro e w6 ⟨B, cq, d, rfl, hSB⟩
          have HSB := hidH hSB
          clear hSB
          go_wp2
          go_ret2
          exact HSB.out
        · have hcall := FIN.out 8 0 st w3 (by omega) (by omega) (by omega) (Irow.is I3) B3
          rw [hst] at hcall
          have HC := hidH hcall
          have hq0 : (u == 0) = false := by simpa using hu0
          have hq1 : (u == 1) = false := by simpa using hu1
          clear I3 B3 S3 hcall hst
          go_wp2_with fail
          refine HC.out.mono ?_
          rintro e w6 ⟨B, cq, d, rfl, hSB⟩
          have HSB := hidH hSB
          clear hSB
          go_wp2
          go_ret2
          exact HSB.out
end Go.Proofs.Ythpokophigkhaaa
