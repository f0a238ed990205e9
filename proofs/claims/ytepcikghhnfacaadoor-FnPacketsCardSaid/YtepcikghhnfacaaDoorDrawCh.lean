/- The drawn chunks: l4Draw, l4Bent, DrawPackChunk, DrawChunkFault, DrawActionOf. -/
import Derived.Test.YtepcikghhnfacaaDoorJa3
import Derived.Test.YtepcikghhnfacaaDoorJa1
import Derived.Test.YtepcikghhnfacaaDoorJa8
import Derived.Test.YtepcikghhnfacaaDoorJa4
namespace Go.Proofs.YtepcikghhnfacaaDoor
open Go.RowKit Go.Deep

theorem Src.far {w : World} {g : Nat} {A : Option Addr} {l : List Int} {c at_ : Nat} (h : Src w g A l c at_) {p : Addr} (hp : g < p.block) (u : Value) : Src (w.setCell p u) g A l c at_ := by
  refine ⟨(heap_setCell_other w p g u (by omega)).trans h.blk, h.bytes, ?_, h.len⟩
  rcases h.row with h1 | ⟨b, off, h1, h2, h3⟩
  · exact .inl h1
  · exact .inr ⟨b, off, h1, h2, fun j hj => (World.cell?_setCell_other _ _ _ _ (fun e => by subst e; simp at hp; omega)).trans (h3 j hj)⟩
theorem Win.put {g : Nat} {w W : World} (h : Win g (g + 1) w W) {p : Addr} (hp : w.heap.size ≤ p.block) (u : Value) : Win g (g + 1) w (W.setCell p u) :=
  ⟨h.os, h.tape, h.output, by simpa [World.setCell] using h.size, fun k hk ho => (heap_setCell_other W p k u (by omega)).trans (h.block k hk ho), fun q hq => (World.frozen?_setCell _ _ _ _).trans (h.frozen q hq)⟩
/-- Some chunk comes back: its body in memory, at most k draws. -/
def CkRes (k : Nat) (w : World) (g : Nat) (A : Option Addr) (l : List Int) (c at_ : Nat) (e : Ending) (w' : World) : Prop :=
  ∃ (kk ff : Int) (b : List Int) (X : Option Addr) (cx at' : Nat), e = .returned (ckV kk ff X b.length cx) ∧ Bytes b ∧ b.length ≤ 200 ∧ Xb w.heap.size w'.heap.size w' X b ∧ b.length ≤ cx ∧ (cx : Int) ≤ 9223372036854775807 ∧ Src w' g A l c at' ∧ at' ≤ at_ + k ∧ Win g (g + 1) w w'
/-- The same, where kind, flags and length are in their ranges. -/
def CkOk (k : Nat) (w : World) (g : Nat) (A : Option Addr) (l : List Int) (c at_ : Nat) (e : Ending) (w' : World) : Prop :=
  ∃ (kk ff : Int) (b : List Int) (X : Option Addr) (cx at' : Nat), e = .returned (ckV kk ff X b.length cx) ∧ ((0 ≤ kk ∧ kk ≤ 255) ∧ (0 ≤ ff ∧ ff ≤ 255) ∧ b.length ≤ 160) ∧ Bytes b ∧ Xb w.heap.size w'.heap.size w' X b ∧ b.length ≤ cx ∧ (cx : Int) ≤ 9223372036854775807 ∧ Src w' g A l c at' ∧ at' ≤ at_ + k ∧ Win g (g + 1) w w'
theorem CkOk.res {k : Nat} {w : World} {g : Nat} {A : Option Addr} {l : List Int} {c at_ : Nat} {e : Ending} {w' : World} (h : CkOk k w g A l c at_ e w') : CkRes k w g A l c at_ e w' := by
  obtain ⟨kk, ff, b, X, cx, at', h1, h2, h3, h4⟩ := h
  exact ⟨kk, ff, b, X, cx, at', h1, h3, by omega, h4⟩
set_option maxHeartbeats 2000000 in
theorem l4Draw_ok (g : Nat) (A : Option Addr) (l : List Int) (c at_ : Nat) (w : World) (h : Src w g A l c at_) (ha : (at_ : Int) ≤ 600000000) :
    Calls Tryd.prog 63 #[.pointer (some ⟨g, 0, none⟩)] w (CkOk 50 w g A l c at_) := by
  have hg := h.lt
  have S0 := h.below (bal (Below.refl w.heap.size w) (.cells #[.int .i64 0, .int .i64 0, .slice none 0 0] 49))
  have R0 := Blk.new w 49 #[.int .i64 0, .int .i64 0, .slice none 0 0]
  have W0 : Win g (g + 1) w (w.alloc (.cells #[.int .i64 0, .int .i64 0, .slice none 0 0] 49)) := Win.of_below (bal (Below.refl _ _) _)
  obtain ⟨w0, hw0⟩ : ∃ w0, w.alloc (.cells #[.int .i64 0, .int .i64 0, .slice none 0 0] 49) = w0 := ⟨_, rfl⟩
  rw [hw0] at S0 R0 W0
  have HW := hidH hw0
  clear hw0 h
  go_enter Tryd.func63, Tryd.ntmps63
  have hs0 : w0.heap.size = w.heap.size + 1 := by have := HW.out; rw [← this]; simp
  go_wp2_with fail
  rw [HW.out, ← hs0]
  refine (pick_any g A l c at_ w0.heap.size [0, 1, 2, 3, 4, 5, 6, 10, 11, 15, 128, 193, 77, 200] _ (S0.below (bal (Below.refl _ _) _)) (by omega)
    (Ns.of_blk (t := 2) (Blk.new w0 _ _)) (by simp) (by simp) (by omega)).mono ?_
  rintro e w1 ⟨y1, a1, rfl, hy1, ha1, S1, V1⟩
  have hk1 : 0 ≤ y1 ∧ y1 ≤ 255 := by
    simp at hy1
    omega
  have W1 := W0.trans ((Win.of_below (bal (Below.refl _ _) _)).trans V1)
  have R1 := V1.blk (R0.alloc _) (.inr (by omega))
  clear S0 V1 W0 R0 hy1 HW
  have g1 := S1.lt
  go_wp2_with fail
  refine (pick_any g A l c a1 w1.heap.size [0, 0, 3, 7, 255] _ (S1.below (bal (Below.refl _ _) _)) (by omega)
    (Ns.of_blk (t := 2) (Blk.new w1 _ _)) (by simp) (by simp) (by omega)).mono ?_
  rintro e w2 ⟨y2, a2, rfl, hy2, ha2, S2, V2⟩
  have hk2 : 0 ≤ y2 ∧ y2 ≤ 255 := by
    simp at hy2
    omega
  have HKF := hidH (And.intro hk1 hk2)
  clear hk1 hk2
  have W2 := W1.trans ((Win.of_below (bal (Below.refl _ _) _)).trans V2)
  have R2 := V2.blk (R1.alloc _) (.inr (by omega))
  clear S1 V2 W1 R1 hy2
  have g2 := S2.lt
  go_wp2_with fail
  refine (pick_any g A l c a2 w2.heap.size [0, 1, 2, 4, 9, 40] _ (S2.below (bal (Below.refl _ _) _)) (by omega)
    (Ns.of_blk (t := 2) (Blk.new w2 _ _)) (by simp) (by simp) (by omega)).mono ?_
  rintro e w3 ⟨y3, a3, rfl, hy3, ha3, S3, V3⟩
  obtain ⟨N, rfl, hN⟩ : ∃ N : Nat, y3 = N ∧ N ≤ 40 := by
    simp at hy3
    rcases hy3 with rfl | rfl | rfl | rfl | rfl | rfl
    · exact ⟨0, rfl, by omega⟩
    · exact ⟨1, rfl, by omega⟩
    · exact ⟨2, rfl, by omega⟩
    · exact ⟨4, rfl, by omega⟩
    · exact ⟨9, rfl, by omega⟩
    · exact ⟨40, rfl, by omega⟩
  have W3 := W2.trans ((Win.of_below (bal (Below.refl _ _) _)).trans V3)
  have R3 := V3.blk (R2.alloc _) (.inr (by omega))
  clear S2 V3 W2 R2 hy3
  have g3 := S3.lt
  go_wp2_with fail
  refine (some_any N _ _ _ _ _ _ S3 (by omega) (by omega)).mono ?_
  rintro e w4 ⟨v4, d4, a4, rfl, hd4, hl4, O4, S4, ha4, V4⟩
  obtain ⟨A4, c4, rfl, o4, hc4, hm4⟩ := own_xb O4
  have W4 := W3.trans V4
  have R4 := V4.blk R3 (.inr (by omega))
  have hr3 := R3.lt
  have x0 := R4.cell 0
  have x1 := R4.cell 1
  have x2 := R4.cell 2
  have f0 := R4.frozen 0
  have f1 := R4.frozen 1
  have f2 := R4.frozen 2
  simp only [List.getElem?_toArray, List.getElem?_cons_succ, List.getElem?_cons_zero] at x0 x1 x2
  have HO := hidH (o4.mono (B' := w.heap.size + 1) (by omega))
  have HS := hidH S4
  have HWW := hidH W4
  have HC := hidH (And.intro hd4 (And.intro (show d4.length ≤ 160 by omega) (And.intro hc4 (And.intro hm4 (show a4 ≤ at_ + 50 by omega)))))
  have hgg : g < w.heap.size := hg
  clear S3 W3 R3 O4 o4 hd4 hl4 hc4 hm4 S4 W4 R4 V4 ha1 ha2 ha3 ha4 g1 g2 g3 hr3
  go_wp2
  have O5 := ((HO.out.setCell (p := ⟨w.heap.size, 0, none⟩) (Nat.lt_succ_self _) (.int .i64 y1)).setCell (p := ⟨w.heap.size, 1, none⟩) (Nat.lt_succ_self _) (.int .i64 y2)).setCell (p := ⟨w.heap.size, 2, none⟩) (Nat.lt_succ_self _) (.slice A4 d4.length c4)
  have S5 := ((HS.out.far (p := ⟨w.heap.size, 0, none⟩) hgg (.int .i64 y1)).far (p := ⟨w.heap.size, 1, none⟩) hgg (.int .i64 y2)).far (p := ⟨w.heap.size, 2, none⟩) hgg (.slice A4 d4.length c4)
  have W5 := ((HWW.out.put (p := ⟨w.heap.size, 0, none⟩) (Nat.le_refl _) (.int .i64 y1)).put (p := ⟨w.heap.size, 1, none⟩) (Nat.le_refl _) (.int .i64 y2)).put (p := ⟨w.heap.size, 2, none⟩) (Nat.le_refl _) (.slice A4 d4.length c4)
  have es : ∀ (u : World) (p : Addr) (v : Value), (u.setCell p v).heap.size = u.heap.size := fun u p v => by simp [World.setCell]
  have O6 := O5.mono (B' := w.heap.size) (Nat.le_succ _)
  exact bodyPost_ret (v := .agg #[.int .i64 y1, .int .i64 y2, .slice A4 d4.length c4]) (by simp [results, Tryd.results63, go_sem, x0, x1, x2]) rfl ⟨y1, y2, d4, A4, c4, a4, rfl, ⟨HKF.out.1, HKF.out.2, HC.out.2.1⟩, HC.out.1, by simp only [es]; exact O6, HC.out.2.2.1, HC.out.2.2.2.1, S5, HC.out.2.2.2.2, W5⟩
theorem l4Draw_any (g : Nat) (A : Option Addr) (l : List Int) (c at_ : Nat) (w : World) (h : Src w g A l c at_) (ha : (at_ : Int) ≤ 600000000) :
    Calls Tryd.prog 63 #[.pointer (some ⟨g, 0, none⟩)] w (CkRes 50 w g A l c at_) := (l4Draw_ok g A l c at_ w h ha).mono fun _ _ q => q.res
theorem ne_beq {a b : Int} (h : a ≠ b) : (a == b) = false := by simp [h]
theorem Ob.setFar' {B C : Nat} {w : World} {A : Option Addr} {l : List Int} (h : Ob B C w A l) {p : Addr} (hp : C ≤ p.block) (u : Value) : Ob B C (w.setCell p u) A l := by
  rcases h with h | ⟨b, off, h1, h2, h3, h4, h5⟩
  · exact .inl h
  · exact .inr ⟨b, off, h1, h2, h3, by simpa [World.setCell] using h4, fun j hj => ⟨(World.cell?_setCell_other _ _ _ _ (fun e => by subst e; simp at hp; omega)).trans (h5 j hj).1, (World.frozen?_setCell _ _ _ _).trans (h5 j hj).2⟩⟩
set_option maxHeartbeats 4000000 in
theorem l4Bent_any (g : Nat) (A : Option Addr) (l : List Int) (c at_ : Nat) (w : World) (h : Src w g A l c at_) (ha : (at_ : Int) ≤ 500000000) :
    Calls Tryd.prog 56 #[.pointer (some ⟨g, 0, none⟩)] w (CkRes 300 w g A l c at_) := by
  have hg := h.lt
  have S0 := h.below (bal (Below.refl w.heap.size w) (.cells #[.int .i64 0, .int .i64 0, .slice none 0 0] 49))
  have R0 := Blk.new w 49 #[.int .i64 0, .int .i64 0, .slice none 0 0]
  have W0 : Win g (g + 1) w (w.alloc (.cells #[.int .i64 0, .int .i64 0, .slice none 0 0] 49)) := Win.of_below (bal (Below.refl _ _) _)
  obtain ⟨w0, hw0⟩ : ∃ w0, w.alloc (.cells #[.int .i64 0, .int .i64 0, .slice none 0 0] 49) = w0 := ⟨_, rfl⟩
  rw [hw0] at S0 R0 W0
  have HW := hidH hw0
  clear hw0 h
  go_enter Tryd.func56, Tryd.ntmps56
  have hs0 : w0.heap.size = w.heap.size + 1 := by have := HW.out; rw [← this]; simp
  go_wp2_with fail
  rw [HW.out]
  refine (l4Draw_any _ _ _ _ _ _ S0 (by omega)).mono ?_
  rintro e w1 ⟨kk, ff, b, X, cx, a1, rfl, hb, hbl, hX, hcx, hcm, S1, ha1, V1⟩
  have W1 := W0.trans V1
  have R1 := V1.blk R0 (.inr (by omega))
  have hw1 := V1.size
  clear S0 V1 W0 R0 HW
  unfold ckV
  have C1 := Blk.new w1 49 #[.int .i64 kk, .int .i64 ff, .slice X b.length cx]
  have R1' := R1.alloc (.cells #[.int .i64 kk, .int .i64 ff, .slice X b.length cx] 49)
  have S1' := S1.below (bal (Below.refl _ _) (.cells #[.int .i64 kk, .int .i64 ff, .slice X b.length cx] 49))
  have X1 := hX.below (bal (Below.refl _ _) (.cells #[.int .i64 kk, .int .i64 ff, .slice X b.length cx] 49))
  have W1' := W1.trans (Win.of_below (bal (Below.refl w1.heap.size w1) (.cells #[.int .i64 kk, .int .i64 ff, .slice X b.length cx] 49)))
  clear S1 R1 hX W1
  have HC := hidH C1
  have HR := hidH R1'
  have HX := hidH X1
  have HWW := hidH W1'
  have HF := hidH (And.intro hb (And.intro hbl (And.intro hcx hcm)))
  clear C1 R1' X1 W1' hb hbl hcx hcm
  have HS := hidH S1'
  clear S1'
  go_wp2_with fail
  refine (next_any g A l c a1 16 _ HS.out (by omega)).mono ?_
  rintro e w2 ⟨y, rfl, y0, y1, S2, V2, hs2⟩
  have hs2' : w2.heap.size = w1.heap.size + 1 := by rw [hs2]; simp
  have C2 := V2.blk HC.out (.inr (by omega))
  have R2 := V2.blk HR.out (.inr (by omega))
  have X2 := HX.out.win V2 (.inr (by omega))
  have W2 := HWW.out.trans V2
  clear hs2 y0 y1 V2 HC HR HX HWW HS
  by_cases hy : y = 0
  ·
    subst hy
    go_wp2_with fail
    refine (pick_any g A l c (a1 + 1) (w1.heap.size + 1) [-1, 256] _ (S2.below (bal (Below.refl _ _) _)) (by omega) (by rw [← hs2']; exact Ns.of_blk (t := 2) (Blk.new w2 _ _)) (by simp) (by simp) (by omega)).mono ?_
    rintro e w3 ⟨v, a3, rfl, hv, ha3, S3, V3⟩
    have C3 := V3.blk (C2.alloc _) (.inr (by omega))
    have R3 := V3.blk (R2.alloc _) (.inr (by omega))
    have X3 := (X2.below (bal (Below.refl _ _) _)).win V3 (.inr (by omega))
    have W3 := (W2.trans (Win.of_below (bal (Below.refl _ _) _))).trans V3
    clear S2 C2 R2 X2 W2 V3 hv
    obtain ⟨p0, p1, p2, pz⟩ := (⟨C3.cell 0, C3.cell 1, C3.cell 2, C3.lt⟩ : _ ∧ _ ∧ _ ∧ _)
    have f0 := C3.frozen 0
    have f1 := C3.frozen 1
    have f2 := C3.frozen 2
    have x0 := R3.cell 0
    have x1 := R3.cell 1
    have x2 := R3.cell 2
    have e0 := R3.frozen 0
    have e1 := R3.frozen 1
    have e2 := R3.frozen 2
    simp only [List.getElem?_toArray, List.getElem?_cons_succ, List.getElem?_cons_zero] at p0 p1 p2 x0 x1 x2
    have hrs : w.heap.size < w3.heap.size := R3.lt
    have X5 := hidH X3
    have S5 := hidH S3
    have W5 := hidH W3
    have A5 : a3 ≤ at_ + 300 := by omega
    have A6 := hidH A5
    clear X3 S3 W3 C3 R3 A5 ha1 ha3
    go_wp2
    have S6 := ((((S5.out.far (p := ⟨w1.heap.size, 0, none⟩) (show g < w1.heap.size by omega) (.int .i64 v)).far (p := ⟨w.heap.size, 0, none⟩) hg (.int .i64 v)).far (p := ⟨w.heap.size, 1, none⟩) hg (.int .i64 ff)).far (p := ⟨w.heap.size, 2, none⟩) hg (.slice X b.length cx))
    have X6 := ((((X5.out.setFar' (p := ⟨w1.heap.size, 0, none⟩) (Nat.le_refl _) (.int .i64 v)).setCell (p := ⟨w.heap.size, 0, none⟩) (show w.heap.size < w0.heap.size by omega) (.int .i64 v)).setCell (p := ⟨w.heap.size, 1, none⟩) (show w.heap.size < w0.heap.size by omega) (.int .i64 ff)).setCell (p := ⟨w.heap.size, 2, none⟩) (show w.heap.size < w0.heap.size by omega) (.slice X b.length cx))
    have W6 := ((((W5.out.put (p := ⟨w1.heap.size, 0, none⟩) (show w.heap.size ≤ w1.heap.size by omega) (.int .i64 v)).put (p := ⟨w.heap.size, 0, none⟩) (Nat.le_refl _) (.int .i64 v)).put (p := ⟨w.heap.size, 1, none⟩) (Nat.le_refl _) (.int .i64 ff)).put (p := ⟨w.heap.size, 2, none⟩) (Nat.le_refl _) (.slice X b.length cx))
    have es : ∀ (u : World) (p : Addr) (v : Value), (u.setCell p v).heap.size = u.heap.size := fun u p v => by simp [World.setCell]
    exact bodyPost_ret (v := .agg #[.int .i64 v, .int .i64 ff, .slice X b.length cx]) (by simp [results, Tryd.results56, go_sem, x0, x1, x2]) rfl ⟨v, ff, b, X, cx, a3, rfl, HF.out.1, HF.out.2.1, (X6.mono (by omega)).upto (by simp only [es]; omega) (Nat.le_refl _), HF.out.2.2.1, HF.out.2.2.2, S6, A6.out, W6⟩
  have n0 := ne_beq hy
  by_cases hy : y = 1
  ·
    subst hy
    go_wp2_with fail
    refine (pick_any g A l c (a1 + 1) (w1.heap.size + 1) [-1, 256] _ (S2.below (bal (Below.refl _ _) _)) (by omega) (by rw [← hs2']; exact Ns.of_blk (t := 2) (Blk.new w2 _ _)) (by simp) (by simp) (by omega)).mono ?_
    rintro e w3 ⟨v, a3, rfl, hv, ha3, S3, V3⟩
    have C3 := V3.blk (C2.alloc _) (.inr (by omega))
    have R3 := V3.blk (R2.alloc _) (.inr (by omega))
    have X3 := (X2.below (bal (Below.refl _ _) _)).win V3 (.inr (by omega))
    have W3 := (W2.trans (Win.of_below (bal (Below.refl _ _) _))).trans V3
    clear S2 C2 R2 X2 W2 V3 hv
    obtain ⟨p0, p1, p2, pz⟩ := (⟨C3.cell 0, C3.cell 1, C3.cell 2, C3.lt⟩ : _ ∧ _ ∧ _ ∧ _)
    have f0 := C3.frozen 0
    have f1 := C3.frozen 1
    have f2 := C3.frozen 2
    have x0 := R3.cell 0
    have x1 := R3.cell 1
    have x2 := R3.cell 2
    have e0 := R3.frozen 0
    have e1 := R3.frozen 1
    have e2 := R3.frozen 2
    simp only [List.getElem?_toArray, List.getElem?_cons_succ, List.getElem?_cons_zero] at p0 p1 p2 x0 x1 x2
    have hrs : w.heap.size < w3.heap.size := R3.lt
    have X5 := hidH X3
    have S5 := hidH S3
    have W5 := hidH W3
    have A5 : a3 ≤ at_ + 300 := by omega
    have A6 := hidH A5
    clear X3 S3 W3 C3 R3 A5 ha1 ha3
    go_wp2
    have S6 := ((((S5.out.far (p := ⟨w1.heap.size, 1, none⟩) (show g < w1.heap.size by omega) (.int .i64 v)).far (p := ⟨w.heap.size, 0, none⟩) hg (.int .i64 kk)).far (p := ⟨w.heap.size, 1, none⟩) hg (.int .i64 v)).far (p := ⟨w.heap.size, 2, none⟩) hg (.slice X b.length cx))
    have X6 := ((((X5.out.setFar' (p := ⟨w1.heap.size, 1, none⟩) (Nat.le_refl _) (.int .i64 v)).setCell (p := ⟨w.heap.size, 0, none⟩) (show w.heap.size < w0.heap.size by omega) (.int .i64 kk)).setCell (p := ⟨w.heap.size, 1, none⟩) (show w.heap.size < w0.heap.size by omega) (.int .i64 v)).setCell (p := ⟨w.heap.size, 2, none⟩) (show w.heap.size < w0.heap.size by omega) (.slice X b.length cx))
    have W6 := ((((W5.out.put (p := ⟨w1.heap.size, 1, none⟩) (show w.heap.size ≤ w1.heap.size by omega) (.int .i64 v)).put (p := ⟨w.heap.size, 0, none⟩) (Nat.le_refl _) (.int .i64 kk)).put (p := ⟨w.heap.size, 1, none⟩) (Nat.le_refl _) (.int .i64 v)).put (p := ⟨w.heap.size, 2, none⟩) (Nat.le_refl _) (.slice X b.length cx))
    have es : ∀ (u : World) (p : Addr) (v : Value), (u.setCell p v).heap.size = u.heap.size := fun u p v => by simp [World.setCell]
    exact bodyPost_ret (v := .agg #[.int .i64 kk, .int .i64 v, .slice X b.length cx]) (by simp [results, Tryd.results56, go_sem, x0, x1, x2]) rfl ⟨kk, v, b, X, cx, a3, rfl, HF.out.1, HF.out.2.1, (X6.mono (by omega)).upto (by simp only [es]; omega) (Nat.le_refl _), HF.out.2.2.1, HF.out.2.2.2, S6, A6.out, W6⟩
  have n1 := ne_beq hy
  by_cases hy : y = 2
  ·
    subst hy
    go_wp2_with fail
    refine (pick_any g A l c (a1 + 1) (w1.heap.size + 1) [160, 161] _ (S2.below (bal (Below.refl _ _) _)) (by omega) (by rw [← hs2']; exact Ns.of_blk (t := 2) (Blk.new w2 _ _)) (by simp) (by simp) (by omega)).mono ?_
    rintro e w3 ⟨v, a3, rfl, hv, ha3, S3, V3⟩
    obtain ⟨N, rfl, hN⟩ : ∃ N : Nat, v = N ∧ N ≤ 161 := by
      simp at hv
      rcases hv with rfl | rfl
      · exact ⟨160, rfl, by omega⟩
      · exact ⟨161, rfl, by omega⟩
    have C3 := V3.blk (C2.alloc _) (.inr (by omega))
    have R3 := V3.blk (R2.alloc _) (.inr (by omega))
    have W3 := (W2.trans (Win.of_below (bal (Below.refl _ _) _))).trans V3
    have z3 : w1.heap.size < w3.heap.size := C3.lt
    clear S2 C2 R2 X2 W2 V3 hv
    go_wp2_with fail
    refine (some_any N _ _ _ _ _ _ S3 (by omega) (by omega)).mono ?_
    rintro e w4 ⟨v4, d4, a4, rfl, hd4, hl4, O4, S4, ha4, V4⟩
    obtain ⟨A4, c4, rfl, X4, hc4, hm4⟩ := own_xb O4
    have C4 := V4.blk C3 (.inr (by omega))
    have R4 := V4.blk R3 (.inr (by omega))
    have W4 := W3.trans V4
    have HF := hidH (And.intro hd4 (And.intro (show d4.length ≤ 200 by omega) (And.intro hc4 hm4)))
    clear S3 C3 R3 W3 V4 O4 hd4 hl4 hc4 hm4
    obtain ⟨p0, p1, p2, pz⟩ := (⟨C4.cell 0, C4.cell 1, C4.cell 2, C4.lt⟩ : _ ∧ _ ∧ _ ∧ _)
    have f0 := C4.frozen 0
    have f1 := C4.frozen 1
    have f2 := C4.frozen 2
    have x0 := R4.cell 0
    have x1 := R4.cell 1
    have x2 := R4.cell 2
    have e0 := R4.frozen 0
    have e1 := R4.frozen 1
    have e2 := R4.frozen 2
    simp only [List.getElem?_toArray, List.getElem?_cons_succ, List.getElem?_cons_zero] at p0 p1 p2 x0 x1 x2
    have hrs : w.heap.size < w4.heap.size := R4.lt
    have X5 := hidH X4
    have S5 := hidH S4
    have W5 := hidH W4
    have A5 : a4 ≤ at_ + 300 := by omega
    have A6 := hidH A5
    clear X4 S4 W4 C4 R4 A5 ha1 ha4
    go_wp2
    have S6 := ((((S5.out.far (p := ⟨w1.heap.size, 2, none⟩) (show g < w1.heap.size by omega) (.slice A4 d4.length c4)).far (p := ⟨w.heap.size, 0, none⟩) hg (.int .i64 kk)).far (p := ⟨w.heap.size, 1, none⟩) hg (.int .i64 ff)).far (p := ⟨w.heap.size, 2, none⟩) hg (.slice A4 d4.length c4))
    have X6 := ((((X5.out.setCell (p := ⟨w1.heap.size, 2, none⟩) z3 (.slice A4 d4.length c4)).setCell (p := ⟨w.heap.size, 0, none⟩) (show w.heap.size < w3.heap.size by omega) (.int .i64 kk)).setCell (p := ⟨w.heap.size, 1, none⟩) (show w.heap.size < w3.heap.size by omega) (.int .i64 ff)).setCell (p := ⟨w.heap.size, 2, none⟩) (show w.heap.size < w3.heap.size by omega) (.slice A4 d4.length c4))
    have W6 := ((((W5.out.put (p := ⟨w1.heap.size, 2, none⟩) (show w.heap.size ≤ w1.heap.size by omega) (.slice A4 d4.length c4)).put (p := ⟨w.heap.size, 0, none⟩) (Nat.le_refl _) (.int .i64 kk)).put (p := ⟨w.heap.size, 1, none⟩) (Nat.le_refl _) (.int .i64 ff)).put (p := ⟨w.heap.size, 2, none⟩) (Nat.le_refl _) (.slice A4 d4.length c4))
    have es : ∀ (u : World) (p : Addr) (v : Value), (u.setCell p v).heap.size = u.heap.size := fun u p v => by simp [World.setCell]
    exact bodyPost_ret (v := .agg #[.int .i64 kk, .int .i64 ff, .slice A4 d4.length c4]) (by simp [results, Tryd.results56, go_sem, x0, x1, x2]) rfl ⟨kk, ff, d4, A4, c4, a4, rfl, HF.out.1, HF.out.2.1, (X6.mono (by omega)).upto (by simp only [es]; omega) (Nat.le_refl _), HF.out.2.2.1, HF.out.2.2.2, S6, A6.out, W6⟩
  have n2 := ne_beq hy
  obtain ⟨p0, p1, p2, pz⟩ := (⟨C2.cell 0, C2.cell 1, C2.cell 2, C2.lt⟩ : _ ∧ _ ∧ _ ∧ _)
  have f0 := C2.frozen 0
  have f1 := C2.frozen 1
  have f2 := C2.frozen 2
  have x0 := R2.cell 0
  have x1 := R2.cell 1
  have x2 := R2.cell 2
  have e0 := R2.frozen 0
  have e1 := R2.frozen 1
  have e2 := R2.frozen 2
  simp only [List.getElem?_toArray, List.getElem?_cons_succ, List.getElem?_cons_zero] at p0 p1 p2 x0 x1 x2
  have hrs : w.heap.size < w2.heap.size := R2.lt
  have X5 := hidH X2
  have S5 := hidH S2
  have W5 := hidH W2
  have A5 : (a1 + 1) ≤ at_ + 300 := by omega
  have A6 := hidH A5
  clear X2 S2 W2 C2 R2 A5 ha1
  go_wp2
  have S6 := (((S5.out.far (p := ⟨w.heap.size, 0, none⟩) hg (.int .i64 kk)).far (p := ⟨w.heap.size, 1, none⟩) hg (.int .i64 ff)).far (p := ⟨w.heap.size, 2, none⟩) hg (.slice X b.length cx))
  have X6 := (((X5.out.setCell (p := ⟨w.heap.size, 0, none⟩) (show w.heap.size < w0.heap.size by omega) (.int .i64 kk)).setCell (p := ⟨w.heap.size, 1, none⟩) (show w.heap.size < w0.heap.size by omega) (.int .i64 ff)).setCell (p := ⟨w.heap.size, 2, none⟩) (show w.heap.size < w0.heap.size by omega) (.slice X b.length cx))
  have W6 := (((W5.out.put (p := ⟨w.heap.size, 0, none⟩) (Nat.le_refl _) (.int .i64 kk)).put (p := ⟨w.heap.size, 1, none⟩) (Nat.le_refl _) (.int .i64 ff)).put (p := ⟨w.heap.size, 2, none⟩) (Nat.le_refl _) (.slice X b.length cx))
  have es : ∀ (u : World) (p : Addr) (v : Value), (u.setCell p v).heap.size = u.heap.size := fun u p v => by simp [World.setCell]
  exact bodyPost_ret (v := .agg #[.int .i64 kk, .int .i64 ff, .slice X b.length cx]) (by simp [results, Tryd.results56, go_sem, x0, x1, x2]) rfl ⟨kk, ff, b, X, cx, (a1 + 1), rfl, HF.out.1, HF.out.2.1, (X6.mono (by omega)).upto (by simp only [es]; omega) (Nat.le_refl _), HF.out.2.2.1, HF.out.2.2.2, S6, A6.out, W6⟩
end Go.Proofs.YtepcikghhnfacaaDoor
