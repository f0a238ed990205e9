/- DrawPackChunk, DrawChunkFault. -/
import Derived.Test.YtepcikghhnfacaaDrawCh
namespace Go.Proofs.Ytepcikghhnfacaa
open Go.RowKit Go.Deep

/-- A chunk comes back; what was there has not turned. -/
def CkOne (w : World) (e : Ending) (w' : World) : Prop :=
  ∃ (kk ff : Int) (b : List Int) (X : Option Addr) (cx : Nat), e = .returned (ckV kk ff X b.length cx) ∧ Bytes b ∧ b.length ≤ 200 ∧ Ob w.heap.size w'.heap.size w' X b ∧ b.length ≤ cx ∧ (cx : Int) ≤ 9223372036854775807 ∧ Below w.heap.size w w'
set_option maxHeartbeats 600000 in
theorem drawPackChunk_any (A : Option Addr) (l : List Int) (c : Nat) (w : World) (hA : Bs w A l) (hl : Bytes l) (hm : (l.length : Int) ≤ 1048576) :
    Calls Try.prog 11 #[.slice A l.length c] w (CkOne w) := by
  have B0 := bal (Below.refl w.heap.size w) (.cells #[.int .i64 0, .int .i64 0, .slice none 0 0] 25)
  have A0 := bs_below hA B0
  have R0 := Blk.new w 25 #[.int .i64 0, .int .i64 0, .slice none 0 0]
  obtain ⟨w0, hw0⟩ : ∃ w0, w.alloc (.cells #[.int .i64 0, .int .i64 0, .slice none 0 0] 25) = w0 := ⟨_, rfl⟩
  rw [hw0] at B0 A0 R0
  have HW := hidH hw0
  clear hw0 hA
  go_enter Try.func11, Try.ntmps11
  have hs0 : w0.heap.size = w.heap.size + 1 := by have := HW.out; rw [← this]; simp
  go_wp2_with fail
  rw [HW.out]
  refine (source_any _ _ _ _ A0 hl hm).mono ?_
  rintro e w1 ⟨rfl, S1, b1⟩
  have R1 := R0.below b1
  have HS0 := hidH hs0
  clear A0 R0 HW hs0
  go_wp2_with fail
  refine (l4Bent_any _ _ _ _ _ _ S1 (by omega)).mono ?_
  rintro e w2 ⟨kk, ff, b, X, cx, a2, rfl, hb, hbl, hX, hcx, hcm, S2, ha2, V2⟩
  have hs1 := S1.lt
  have hs0 := HS0.out
  have X2 := hX.mono (B' := w.heap.size + 1) (by omega)
  have B2 := btr B0 (b1.trans (V2.below b1.size))
  have R2 := V2.blk R1 (.inl (by omega))
  clear S1 B0 b1 R1 hX S2 ha2 V2 HS0 hs0
  unfold ckV
  have x0 := R2.cell 0
  have x1 := R2.cell 1
  have x2 := R2.cell 2
  have e0 := R2.frozen 0
  have e1 := R2.frozen 1
  have e2 := R2.frozen 2
  simp only [List.getElem?_toArray, List.getElem?_cons_succ, List.getElem?_cons_zero] at x0 x1 x2
  have hrs := R2.lt
  have HX := hidH X2
  have HB := hidH B2
  have HF := hidH (And.intro hb (And.intro hbl (And.intro hcx hcm)))
  clear X2 B2 R2 hb hbl hcx hcm
  go_wp2
  have X3 := ((HX.out.setCell (p := ⟨w.heap.size, 0, none⟩) (Nat.lt_succ_self _) (.int .i64 kk)).setCell (p := ⟨w.heap.size, 1, none⟩) (Nat.lt_succ_self _) (.int .i64 ff)).setCell (p := ⟨w.heap.size, 2, none⟩) (Nat.lt_succ_self _) (.slice X b.length cx)
  have B3 := bst (bst (bst HB.out (show w.heap.size ≤ (⟨w.heap.size, 0, none⟩ : Addr).block from Nat.le_refl _) (.int .i64 kk)) (show w.heap.size ≤ (⟨w.heap.size, 1, none⟩ : Addr).block from Nat.le_refl _) (.int .i64 ff)) (show w.heap.size ≤ (⟨w.heap.size, 2, none⟩ : Addr).block from Nat.le_refl _) (.slice X b.length cx)
  have es : ∀ (u : World) (p : Addr) (v : Value), (u.setCell p v).heap.size = u.heap.size := fun u p v => by simp [World.setCell]
  exact bodyPost_ret (v := .agg #[.int .i64 kk, .int .i64 ff, .slice X b.length cx]) (by simp [results, Try.results11, go_sem, x0, x1, x2]) rfl ⟨kk, ff, b, X, cx, rfl, HF.out.1, HF.out.2.1, (X3.mono (by omega)).upto (by simp only [es]; omega) (Nat.le_refl _), HF.out.2.2.1, HF.out.2.2.2, B3⟩
end Go.Proofs.Ytepcikghhnfacaa
