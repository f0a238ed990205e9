import Derived.Test.YtncnibkojneejaaGreatDoorJa9
import Derived.Test.YtncnibkojneejaaGreatDoorFA7R

/- A drawn chunk that may be bent, its numbers in their ranges. -/
namespace Go.Proofs.YtncnibkojneejaaGreatDoor
open Go.RowKit Go.Deep

def CkW (k : Nat) (w : World) (g : Nat) (A : Option Addr) (l : List Int) (c at_ : Nat) (e : Ending) (w' : World) : Prop :=
  ∃ (kk ff : Int) (b : List Int) (X : Option Addr) (cx at' : Nat), e = .returned (ckV kk ff X b.length cx) ∧ ((-1 ≤ kk ∧ kk ≤ 256) ∧ (-1 ≤ ff ∧ ff ≤ 256)) ∧ Bytes b ∧ b.length ≤ 200 ∧ Xb w.heap.size w'.heap.size w' X b ∧ b.length ≤ cx ∧ (cx : Int) ≤ 9223372036854775807 ∧ Src w' g A l c at' ∧ at' ≤ at_ + k ∧ Win g (g + 1) w w'
set_option maxHeartbeats 4000000 in
theorem l4Bent_w (g : Nat) (A : Option Addr) (l : List Int) (c at_ : Nat) (w : World) (h : Src w g A l c at_) (ha : (at_ : Int) ≤ 500000000) :
    Calls Tryz.prog 56 #[.pointer (some ⟨g, 0, none⟩)] w (CkW 300 w g A l c at_) := by
  have hg := h.lt
  have S0 := h.below (bal (Below.refl w.heap.size w) (.cells #[.int .i64 0, .int .i64 0, .slice none 0 0] 37))
  have R0 := Blk.new w 37 #[.int .i64 0, .int .i64 0, .slice none 0 0]
  have W0 : Win g (g + 1) w (w.alloc (.cells #[.int .i64 0, .int .i64 0, .slice none 0 0] 37)) := Win.of_below (bal (Below.refl _ _) _)
  obtain ⟨w0, hw0⟩ : ∃ w0, w.alloc (.cells #[.int .i64 0, .int .i64 0, .slice none 0 0] 37) = w0 := ⟨_, rfl⟩
  rw [hw0] at S0 R0 W0
  have HW := hidH hw0
  clear hw0 h
  go_enter Tryz.func56, Tryz.ntmps56
  have hs0 : w0.heap.size = w.heap.size + 1 := by have := HW.out; rw [← this]; simp
  go_wp2_with fail
  rw [HW.out]
  refine (l4Draw_ok _ _ _ _ _ _ S0 (by omega)).mono ?_
  rintro e w1 ⟨kk, ff, b, X, cx, a1, rfl, hok, hb, hX, hcx, hcm, S1, ha1, V1⟩
  have hbl : b.length ≤ 200 := by have := hok.2.2; omega
  have HK := hidH (show (-1 ≤ kk ∧ kk ≤ 256) ∧ (-1 ≤ ff ∧ ff ≤ 256) by have := hok.1; have := hok.2.1; omega)
  clear hok
  have W1 := W0.trans V1
  have R1 := V1.blk R0 (.inr (by omega))
  have hw1 := V1.size
  clear S0 V1 W0 R0 HW
  unfold ckV
  have C1 := Blk.new w1 37 #[.int .i64 kk, .int .i64 ff, .slice X b.length cx]
  have R1' := R1.alloc (.cells #[.int .i64 kk, .int .i64 ff, .slice X b.length cx] 37)
  have S1' := S1.below (bal (Below.refl _ _) (.cells #[.int .i64 kk, .int .i64 ff, .slice X b.length cx] 37))
  have X1 := hX.below (bal (Below.refl _ _) (.cells #[.int .i64 kk, .int .i64 ff, .slice X b.length cx] 37))
  have W1' := W1.trans (Win.of_below (bal (Below.refl w1.heap.size w1) (.cells #[.int .i64 kk, .int .i64 ff, .slice X b.length cx] 37)))
  clear S1 R1 hX W1
  have HC := hidH C1
  have HR := hidH R1'
  have HX := hidH X1
  have HWW := hidH W1'
  have HF := hidH (And.intro hb (And.intro hbl (And.intro hcx hcm)))
  clear C1 R1' X1 W1' hb hbl hcx hcm
  have HS := hidH S1'
  clear S1'
  go_wp2_with fail
  refine (next_any g A l c a1 16 _ HS.out (by omega)).mono ?_
  rintro e w2 ⟨y, rfl, y0, y1, S2, V2, hs2⟩
  have hs2' : w2.heap.size = w1.heap.size + 1 := by rw [hs2]; simp
  have C2 := V2.blk HC.out (.inr (by omega))
  have R2 := V2.blk HR.out (.inr (by omega))
  have X2 := HX.out.win V2 (.inr (by omega))
  have W2 := HWW.out.trans V2
  clear hs2 y0 y1 V2 HC HR HX HWW HS
  by_cases hy : y = 0
  ·
    subst hy
    go_wp2_with fail
    refine (pick_any g A l c (a1 + 1) (w1.heap.size + 1) [-1, 256] _ (S2.below (bal (Below.refl _ _) _)) (by omega) (by rw [← hs2']; exact Ns.of_blk (t := 2) (Blk.new w2 _ _)) (by simp) (by simp) (by omega)).mono ?_
    rintro e w3 ⟨v, a3, rfl, hv, ha3, S3, V3⟩
    have C3 := V3.blk (C2.alloc _) (.inr (by omega))
    have R3 := V3.blk (R2.alloc _) (.inr (by omega))
    have X3 := (X2.below (bal (Below.refl _ _) _)).win V3 (.inr (by omega))
    have W3 := (W2.trans (Win.of_below (bal (Below.refl _ _) _))).trans V3
    have HV := hidH (show -1 ≤ v ∧ v ≤ 256 by simp at hv; omega)
    clear S2 C2 R2 X2 W2 V3 hv
    obtain ⟨p0, p1, p2, pz⟩ := (⟨C3.cell 0, C3.cell 1, C3.cell 2, C3.lt⟩ : _ ∧ _ ∧ _ ∧ _)
    have f0 := C3.frozen 0
    have f1 := C3.frozen 1
    have f2 := C3.frozen 2
    have x0 := R3.cell 0
    have x1 := R3.cell 1
    have x2 := R3.cell 2
    have e0 := R3.frozen 0
    have e1 := R3.frozen 1
    have e2 := R3.frozen 2
    simp only [List.getElem?_toArray, List.getElem?_cons_succ, List.getElem?_cons_zero] at p0 p1 p2 x0 x1 x2
    have hrs : w.heap.size < w3.heap.size := R3.lt
    have X5 := hidH X3
    have S5 := hidH S3
    have W5 := hidH W3
    have A5 : a3 ≤ at_ + 300 := by omega
    have A6 := hidH A5
    clear X3 S3 W3 C3 R3 A5 ha1 ha3
    go_wp2
    have S6 := ((((S5.out.far (p := ⟨w1.heap.size, 0, none⟩) (show g < w1.heap.size by omega) (.int .i64 v)).far (p := ⟨w.heap.size, 0, none⟩) hg (.int .i64 v)).far (p := ⟨w.heap.size, 1, none⟩) hg (.int .i64 ff)).far (p := ⟨w.heap.size, 2, none⟩) hg (.slice X b.length cx))
    have X6 := ((((X5.out.setFar' (p := ⟨w1.heap.size, 0, none⟩) (Nat.le_refl _) (.int .i64 v)).setCell (p := ⟨w.heap.size, 0, none⟩) (show w.heap.size < w0.heap.size by omega) (.int .i64 v)).setCell (p := ⟨w.heap.size, 1, none⟩) (show w.heap.size < w0.heap.size by omega) (.int .i64 ff)).setCell (p := ⟨w.heap.size, 2, none⟩) (show w.heap.size < w0.heap.size by omega) (.slice X b.length cx))
    have W6 := ((((W5.out.put (p := ⟨w1.heap.size, 0, none⟩) (show w.heap.size ≤ w1.heap.size by omega) (.int .i64 v)).put (p := ⟨w.heap.size, 0, none⟩) (Nat.le_refl _) (.int .i64 v)).put (p := ⟨w.heap.size, 1, none⟩) (Nat.le_refl _) (.int .i64 ff)).put (p := ⟨w.heap.size, 2, none⟩) (Nat.le_refl _) (.slice X b.length cx))
    have es : ∀ (u : World) (p : Addr) (v : Value), (u.setCell p v).heap.size = u.heap.size := fun u p v => by simp [World.setCell]
    exact bodyPost_ret (v := .agg #[.int .i64 v, .int .i64 ff, .slice X b.length cx]) (by simp [results, Tryz.results56, go_sem, x0, x1, x2]) rfl ⟨v, ff, b, X, cx, a3, rfl, ⟨HV.out, HK.out.2⟩, HF.out.1, HF.out.2.1, (X6.mono (by omega)).upto (by simp only [es]; omega) (Nat.le_refl _), HF.out.2.2.1, HF.out.2.2.2, S6, A6.out, W6⟩
  have n0 := ne_beq hy
  by_cases hy : y = 1
  ·
    subst hy
    go_wp2_with fail
    refine (pick_any g A l c (a1 + 1) (w1.heap.size + 1) [-1, 256] _ (S2.below (bal (Below.refl _ _) _)) (by omega) (by rw [← hs2']; exact Ns.of_blk (t := 2) (Blk.new w2 _ _)) (by simp) (by simp) (by omega)).mono ?_
    rintro e w3 ⟨v, a3, rfl, hv, ha3, S3, V3⟩
    have C3 := V3.blk (C2.alloc _) (.inr (by omega))
    have R3 := V3.blk (R2.alloc _) (.inr (by omega))
    have X3 := (X2.below (bal (Below.refl _ _) _)).win V3 (.inr (by omega))
    have W3 := (W2.trans (Win.of_below (bal (Below.refl _ _) _))).trans V3
    have HV := hidH (show -1 ≤ v ∧ v ≤ 256 by simp at hv; omega)
    clear S2 C2 R2 X2 W2 V3 hv
    obtain ⟨p0, p1, p2, pz⟩ := (⟨C3.cell 0, C3.cell 1, C3.cell 2, C3.lt⟩ : _ ∧ _ ∧ _ ∧ _)
    have f0 := C3.frozen 0
    have f1 := C3.frozen 1
    have f2 := C3.frozen 2
    have x0 := R3.cell 0
    have x1 := R3.cell 1
    have x2 := R3.cell 2
    have e0 := R3.frozen 0
    have e1 := R3.frozen 1
    have e2 := R3.frozen 2
    simp only [List.getElem?_toArray, List.getElem?_cons_succ, List.getElem?_cons_zero] at p0 p1 p2 x0 x1 x2
    have hrs : w.heap.size < w3.heap.size := R3.lt
    have X5 := hidH X3
    have S5 := hidH S3
    have W5 := hidH W3
    have A5 : a3 ≤ at_ + 300 := by omega
    have A6 := hidH A5
    clear X3 S3 W3 C3 R3 A5 ha1 ha3
    go_wp2
    have S6 := ((((S5.out.far (p := ⟨w1.heap.size, 1, none⟩) (show g < w1.heap.size by omega) (.int .i64 v)).far (p := ⟨w.heap.size, 0, none⟩) hg (.int .i64 kk)).far (p := ⟨w.heap.size, 1, none⟩) hg (.int .i64 v)).far (p := ⟨w.heap.size, 2, none⟩) hg (.slice X b.length cx))
    have X6 := ((((X5.out.setFar' (p := ⟨w1.heap.size, 1, none⟩) (Nat.le_refl _) (.int .i64 v)).setCell (p := ⟨w.heap.size, 0, none⟩) (show w.heap.size < w0.heap.size by omega) (.int .i64 kk)).setCell (p := ⟨w.heap.size, 1, none⟩) (show w.heap.size < w0.heap.size by omega) (.int .i64 v)).setCell (p := ⟨w.heap.size, 2, none⟩) (show w.heap.size < w0.heap.size by omega) (.slice X b.length cx))
    have W6 := ((((W5.out.put (p := ⟨w1.heap.size, 1, none⟩) (show w.heap.size ≤ w1.heap.size by omega) (.int .i64 v)).put (p := ⟨w.heap.size, 0, none⟩) (Nat.le_refl _) (.int .i64 kk)).put (p := ⟨w.heap.size, 1, none⟩) (Nat.le_refl _) (.int .i64 v)).put (p := ⟨w.heap.size, 2, none⟩) (Nat.le_refl _) (.slice X b.length cx))
    have es : ∀ (u : World) (p : Addr) (v : Value), (u.setCell p v).heap.size = u.heap.size := fun u p v => by simp [World.setCell]
    exact bodyPost_ret (v := .agg #[.int .i64 kk, .int .i64 v, .slice X b.length cx]) (by simp [results, Tryz.results56, go_sem, x0, x1, x2]) rfl ⟨kk, v, b, X, cx, a3, rfl, ⟨HK.out.1, HV.out⟩, HF.out.1, HF.out.2.1, (X6.mono (by omega)).upto (by simp only [es]; omega) (Nat.le_refl _), HF.out.2.2.1, HF.out.2.2.2, S6, A6.out, W6⟩
  have n1 := ne_beq hy
  by_cases hy : y = 2
  ·
    subst hy
    go_wp2_with fail
    refine (pick_any g A l c (a1 + 1) (w1.heap.size + 1) [160, 161] _ (S2.below (bal (Below.refl _ _) _)) (by omega) (by rw [← hs2']; exact Ns.of_blk (t := 2) (Blk.new w2 _ _)) (by simp) (by simp) (by omega)).mono ?_
    rintro e w3 ⟨v, a3, rfl, hv, ha3, S3, V3⟩
    obtain ⟨N, rfl, hN⟩ : ∃ N : Nat, v = N ∧ N ≤ 161 := by
      simp at hv
      rcases hv with rfl | rfl
      · exact ⟨160, rfl, by omega⟩
      · exact ⟨161, rfl, by omega⟩
    have C3 := V3.blk (C2.alloc _) (.inr (by omega))
    have R3 := V3.blk (R2.alloc _) (.inr (by omega))
    have W3 := (W2.trans (Win.of_below (bal (Below.refl _ _) _))).trans V3
    have z3 : w1.heap.size < w3.heap.size := C3.lt
    clear S2 C2 R2 X2 W2 V3 hv
    go_wp2_with fail
    refine (some_any N _ _ _ _ _ _ S3 (by omega) (by omega)).mono ?_
    rintro e w4 ⟨v4, d4, a4, rfl, hd4, hl4, O4, S4, ha4, V4⟩
    obtain ⟨A4, c4, rfl, X4, hc4, hm4⟩ := own_xb O4
    have C4 := V4.blk C3 (.inr (by omega))
    have R4 := V4.blk R3 (.inr (by omega))
    have W4 := W3.trans V4
    have HF := hidH (And.intro hd4 (And.intro (show d4.length ≤ 200 by omega) (And.intro hc4 hm4)))
    clear S3 C3 R3 W3 V4 O4 hd4 hl4 hc4 hm4
    obtain ⟨p0, p1, p2, pz⟩ := (⟨C4.cell 0, C4.cell 1, C4.cell 2, C4.lt⟩ : _ ∧ _ ∧ _ ∧ _)
    have f0 := C4.frozen 0
    have f1 := C4.frozen 1
    have f2 := C4.frozen 2
    have x0 := R4.cell 0
    have x1 := R4.cell 1
    have x2 := R4.cell 2
    have e0 := R4.frozen 0
    have e1 := R4.frozen 1
    have e2 := R4.frozen 2
    simp only [List.getElem?_toArray, List.getElem?_cons_succ, List.getElem?_cons_zero] at p0 p1 p2 x0 x1 x2
    have hrs : w.heap.size < w4.heap.size := R4.lt
    have X5 := hidH X4
    have S5 := hidH S4
    have W5 := hidH W4
    have A5 : a4 ≤ at_ + 300 := by omega
    have A6 := hidH A5
    clear X4 S4 W4 C4 R4 A5 ha1 ha4
    go_wp2
    have S6 := ((((S5.out.far (p := ⟨w1.heap.size, 2, none⟩) (show g < w1.heap.size by omega) (.slice A4 d4.length c4)).far (p := ⟨w.heap.size, 0, none⟩) hg (.int .i64 kk)).far (p := ⟨w.heap.size, 1, none⟩) hg (.int .i64 ff)).far (p := ⟨w.heap.size, 2, none⟩) hg (.slice A4 d4.length c4))
    have X6 := ((((X5.out.setCell (p := ⟨w1.heap.size, 2, none⟩) z3 (.slice A4 d4.length c4)).setCell (p := ⟨w.heap.size, 0, none⟩) (show w.heap.size < w3.heap.size by omega) (.int .i64 kk)).setCell (p := ⟨w.heap.size, 1, none⟩) (show w.heap.size < w3.heap.size by omega) (.int .i64 ff)).setCell (p := ⟨w.heap.size, 2, none⟩) (show w.heap.size < w3.heap.size by omega) (.slice A4 d4.length c4))
    have W6 := ((((W5.out.put (p := ⟨w1.heap.size, 2, none⟩) (show w.heap.size ≤ w1.heap.size by omega) (.slice A4 d4.length c4)).put (p := ⟨w.heap.size, 0, none⟩) (Nat.le_refl _) (.int .i64 kk)).put (p := ⟨w.heap.size, 1, none⟩) (Nat.le_refl _) (.int .i64 ff)).put (p := ⟨w.heap.size, 2, none⟩) (Nat.le_refl _) (.slice A4 d4.length c4))
    have es : ∀ (u : World) (p : Addr) (v : Value), (u.setCell p v).heap.size = u.heap.size := fun u p v => by simp [World.setCell]
    exact bodyPost_ret (v := .agg #[.int .i64 kk, .int .i64 ff, .slice A4 d4.length c4]) (by simp [results, Tryz.results56, go_sem, x0, x1, x2]) rfl ⟨kk, ff, d4, A4, c4, a4, rfl, HK.out, HF.out.1, HF.out.2.1, (X6.mono (by omega)).upto (by simp only [es]; omega) (Nat.le_refl _), HF.out.2.2.1, HF.out.2.2.2, S6, A6.out, W6⟩
  have n2 := ne_beq hy
  obtain ⟨p0, p1, p2, pz⟩ := (⟨C2.cell 0, C2.cell 1, C2.cell 2, C2.lt⟩ : _ ∧ _ ∧ _ ∧ _)
  have f0 := C2.frozen 0
  have f1 := C2.frozen 1
  have f2 := C2.frozen 2
  have x0 := R2.cell 0
  have x1 := R2.cell 1
  have x2 := R2.cell 2
  have e0 := R2.frozen 0
  have e1 := R2.frozen 1
  have e2 := R2.frozen 2
  simp only [List.getElem?_toArray, List.getElem?_cons_succ, List.getElem?_cons_zero] at p0 p1 p2 x0 x1 x2
  have hrs : w.heap.size < w2.heap.size := R2.lt
  have X5 := hidH X2
  have S5 := hidH S2
  have W5 := hidH W2
  have A5 : (a1 + 1) ≤ at_ + 300 := by omega
  have A6 := hidH A5
  clear X2 S2 W2 C2 R2 A5 ha1
  go_wp2
  have S6 := (((S5.out.far (p := ⟨w.heap.size, 0, none⟩) hg (.int .i64 kk)).far (p := ⟨w.heap.size, 1, none⟩) hg (.int .i64 ff)).far (p := ⟨w.heap.size, 2, none⟩) hg (.slice X b.length cx))
  have X6 := (((X5.out.setCell (p := ⟨w.heap.size, 0, none⟩) (show w.heap.size < w0.heap.size by omega) (.int .i64 kk)).setCell (p := ⟨w.heap.size, 1, none⟩) (show w.heap.size < w0.heap.size by omega) (.int .i64 ff)).setCell (p := ⟨w.heap.size, 2, none⟩) (show w.heap.size < w0.heap.size by omega) (.slice X b.length cx))
  have W6 := (((W5.out.put (p := ⟨w.heap.size, 0, none⟩) (Nat.le_refl _) (.int .i64 kk)).put (p := ⟨w.heap.size, 1, none⟩) (Nat.le_refl _) (.int .i64 ff)).put (p := ⟨w.heap.size, 2, none⟩) (Nat.le_refl _) (.slice X b.length cx))
  have es : ∀ (u : World) (p : Addr) (v : Value), (u.setCell p v).heap.size = u.heap.size := fun u p v => by simp [World.setCell]
  exact bodyPost_ret (v := .agg #[.int .i64 kk, .int .i64 ff, .slice X b.length cx]) (by simp [results, Tryz.results56, go_sem, x0, x1, x2]) rfl ⟨kk, ff, b, X, cx, (a1 + 1), rfl, HK.out, HF.out.1, HF.out.2.1, (X6.mono (by omega)).upto (by simp only [es]; omega) (Nat.le_refl _), HF.out.2.2.1, HF.out.2.2.2, S6, A6.out, W6⟩
end Go.Proofs.YtncnibkojneejaaGreatDoor

/- Chapter 7: the drawn lists of chunks that may be bent. -/
namespace Go.Proofs.YtncnibkojneejaaGreatDoor
open Go.RowKit Go.Deep

def CkP (x : ChunkM) : Prop := (-1 ≤ x.Kind ∧ x.Kind ≤ 256) ∧ (-1 ≤ x.Flags ∧ x.Flags ≤ 256) ∧ Bytes x.Body ∧ x.Body.length ≤ 200
theorem CkG.p {x : ChunkM} (h : CkG x) : CkP x := by
  obtain ⟨⟨⟨h1, h2⟩, ⟨h3, h4⟩, h5⟩, h6⟩ := h
  exact ⟨⟨by omega, by omega⟩, ⟨by omega, by omega⟩, h6, by omega⟩
theorem ckP_wf : ∀ {r : List ChunkM}, (∀ x ∈ r, CkP x) → WfV.WfA (r.flatMap ChunkM.vs)
  | [], _ => trivial
  | x :: r, h => by
    rw [List.flatMap_cons]
    obtain ⟨⟨h1, h2⟩, ⟨h3, h4⟩, h5, _⟩ := h x (by simp)
    exact ⟨⟨by omega, by omega⟩, ⟨by omega, by omega⟩, h5, ckP_wf (fun y hy => h y (by simp [hy]))⟩
theorem ckP_tot : ∀ {r : List ChunkM}, (∀ x ∈ r, CkP x) → tot.totL (r.flatMap ChunkM.vs) ≤ 200 * r.length
  | [], _ => by simp [tot.totL]
  | x :: r, h => by
    rw [List.flatMap_cons, totL_append]
    have h1 := ckP_tot (fun y hy => h y (List.mem_cons_of_mem x hy))
    have h2 := (h x (by simp)).2.2.2
    simp only [ChunkM.vs, tot.totL, tot, List.length_cons]
    omega
set_option maxRecDepth 100000 in
set_option maxHeartbeats 4000000 in
theorem l7Bent_any (g : Nat) (A : Option Addr) (l : List Int) (c at_ : Nat) (w : World) (h : Src w g A l c at_) (ha : (at_ : Int) ≤ 400000000) :
    Calls Tryz.prog 38 #[.pointer (some ⟨g, 0, none⟩)] w (CsRes CkP 2000 9 w g A l c at_) := by
  have HG := hidH h.lt
  have HD := hidH (l7Draw_any g A l c at_ w h (by omega))
  have HA := hidH ha
  clear h ha
  go_enter Tryz.func38, Tryz.ntmps38
  go_wp2_with fail
  refine HD.out.mono ?_
  rintro e w1 ⟨v, q, r, a1, rfl, hq, hrl, hr, ho, hk, S1, ha1, W1⟩
  have HO := hidH ho
  have HK := hidH hk
  have HQ := hidH (And.intro hq (fun x hx => (hr x hx).p))
  have HWW := hidH W1
  have HB := hidH (And.intro hrl ha1)
  clear HD ho hk hq hr W1 hrl ha1
  go_wp2_with fail
  refine (next_any g A l c a1 14 w1 S1 (by have := HA.out; have := HB.out.2; omega)).mono ?_
  rintro e w2 ⟨y, rfl, hy0, hy1, S2, V2, hs2⟩
  have HO2 := hidH (own_keptT HO.out V2 HG.out)
  have HK2 := hidH (HK.out.turn (Nat.le_of_eq hs2.symm) (B8.of_win V2 S1.blk (by decide)))
  have HW2 := hidH (HWW.out.trans V2)
  have HS2 := hidH S2
  clear S1 V2 hs2 hy0 hy1
  by_cases h0 : y = 0
  · have b0 : (y == 0) = true := by simp [h0]
    have HBE := hidH (l4Bent_w g A l c (a1 + 1) w2 S2 (by have := HA.out; have := HB.out.2; omega))
    clear h0 S2
    go_wp2_with fail
    refine HBE.out.mono ?_
    rintro e w5 ⟨k, f, b, X, cx, a5, rfl, hok, hby, hbl, hX, hc5, hm5, S5, ha5, V5⟩
    have ub := B8.of_win V5 HS2.out.blk (by decide)
    obtain ⟨lo, hi, hlo, hkt⟩ := RT.of_xb hX V5.size hc5 hm5 [.int k, .int f]
    have HO5 := hidH (own_keptT HO2.out V5 HG.out)
    have HK5 := hidH ((HK2.out.turn V5.size ub).snoc (x := ckE ⟨k, f, b⟩ (.slice X b.length cx) lo hi) hkt (Nat.le_trans HW2.out.size hlo) (fun y hy => Nat.le_trans (HK2.out.top y hy) hlo))
    have HS5 := hidH S5
    have HW5 := hidH (HW2.out.trans V5)
    have HDD := hidH (show CkP ⟨k, f, b⟩ from ⟨hok.1, hok.2, hby, hbl⟩)
    have HA5 := hidH ha5
    have ba := bal (Below.refl w5.heap.size w5) (.cells #[.int .i64 k, .int .i64 f, .slice X b.length cx] 37)
    have HBA := hidH ba
    have KB := hidH (Blk.new w5 37 #[.int .i64 k, .int .i64 f, .slice X b.length cx])
    unfold ckV
    clear S5 V5 ub hkt hlo hok hby hbl hX hc5 hm5 ha5 ba HBE
    go_wp2_with (at_builtin; go_loud (refine wpList_append_Ck rfl _ _ rfl w.heap.size _ r.length (flatR q) rfl (own_below0 HO5.out HBA.out) w5.heap.size _ k f X b.length cx rfl KB.out (by have := HB.out.1; omega) (Nat.le_trans HW5.out.size HBA.out.size) ?_))
    intro v6 w6 o6 hg6
    have r5 := own_below0 HO5.out HBA.out
    have HS6 := hidH ((HS5.out.below HBA.out).grown hg6 (fun k hk => Nat.lt_of_lt_of_le HG.out (r5.lt k hk).1))
    have HW6 := hidH (Win.row (HW5.out.trans (Win.of_below HBA.out)) hg6 (fun k hk => (r5.lt k hk).1))
    have HK6 := hidH (HK5.out.turn (Nat.le_trans HBA.out.size hg6.size) ((B8.of_below HBA.out).trans (B8.of_grown hg6 r5 (by decide))))
    have HO6 := hidH (show w6.ownsRow w.heap.size 37 3 v6 (r ++ [(⟨k, f, b⟩ : ChunkM)]).length (flatR (q ++ [ckE ⟨k, f, b⟩ (.slice X b.length cx) lo hi])) by rw [List.length_append, flatR_app]; exact o6)
    clear o6 hg6 r5
    go_wp2
    go_ret
    refine ⟨_, _, r ++ [(⟨k, f, b⟩ : ChunkM)], a5, rfl, HQ.out.1.snoc _ _ _ _, by rw [List.length_append]; have := HB.out.1; simp; omega, fun x hx => ?_, HO6.out, HK6.out, HS6.out, (by have := HB.out.2; have := HA5.out; omega), HW6.out⟩
    rcases List.mem_append.1 hx with hx | hx
    · exact HQ.out.2 x hx
    · simp at hx; subst hx; exact HDD.out
  · have b0 : (y == 0) = false := by simp [h0]
    by_cases h1 : y = 1
    · have b1 : (y == 1) = true := by simp [h1]
      clear h0 h1
      go_wp2_with fail
      refine (pick_any g A l c (a1 + 1) w2.heap.size [7, 8, 9] _ (S2.below (bal (Below.refl _ _) _)) (by have := HA.out; have := HB.out.2; omega) (Ns.of_blk (t := 2) (Blk.new w2 _ _)) (by simp) (by simp) (by have := S2.lt; omega)).mono ?_
      rintro e w3 ⟨y4, a4, rfl, hy4, ha4, S4, V4⟩
      obtain ⟨N, rfl, hN⟩ : ∃ N : Nat, y4 = N ∧ N ≤ 9 := by
        simp at hy4
        exact ⟨y4.toNat, by omega, by omega⟩
      have W4 : Win g (g + 1) w2 w3 := (Win.of_below (bal (Below.refl _ _) _)).trans V4
      have ub := B8.of_win W4 HS2.out.blk (by decide)
      have HO3 := hidH (own_keptT HO2.out W4 HG.out)
      have HK3 := hidH (HK2.out.turn W4.size ub)
      have HW3 := hidH (HW2.out.trans W4)
      have HS3 := hidH S4
      have HA3 := hidH (show a4 ≤ a1 + 2 by omega)
      have HNN := hidH hN
      clear S2 V4 hy4 ha4 S4 W4 ub
      go_wp2_with fail
      go_loopw [3] (fun v wr => ∃ (q : List RowE) (r : List ChunkM) (a3 : Nat), r.length ≤ 9 ∧ RowCk q r ∧ (∀ x ∈ r, CkP x) ∧ wr.ownsRow w.heap.size 37 3 v r.length (flatR q) ∧ RTs w.heap.size wr q ∧ Src wr g A l c a3 ∧ a3 ≤ at_ + 162 + 100 * r.length ∧ Win g (g + 1) w wr) (fun v _ => 10 - (match v with | .slice _ n _ => n | _ => 0))
      case atStart => exact ⟨q, r, a4, by have := HB.out.1; omega, HQ.out.1, HQ.out.2, HO3.out, HK3.out, HS3.out, by have := HB.out.2; have := HA3.out; omega, HW3.out⟩
      case round =>
        obtain ⟨q5, r5, a3, hl5, hq5, hr5, ho5, hk5, S5, ha5, W5⟩ := hrel
        obtain ⟨AU, cu, rfl⟩ := own_lenT ho5
        have HQ5 := hidH (And.intro hq5 hr5)
        have HO5 := hidH ho5
        have HK5 := hidH hk5
        have HW5 := hidH W5
        have HB5 := hidH (And.intro hl5 ha5)
        by_cases hz : r5.length < N
        · have hz1 : (r5.length : Int) < (N : Int) := by omega
          have HZ := hidH hz
          clear hq5 hr5 ho5 hk5 W5 ha5 hl5 hz
          go_wp2_with fail
          refine (pick_any g A l c a3 wr.heap.size [0, 70] _ (S5.below (bal (Below.refl _ _) _)) (by have := HA.out; have := HB5.out; omega) (Ns.of_blk (t := 2) (Blk.new wr _ _)) (by simp) (by simp) (by have := S5.lt; omega)).mono ?_
          rintro e w6 ⟨y6, a6, rfl, hy6, ha6, S6, V6⟩
          obtain ⟨L, rfl, hL⟩ : ∃ L : Nat, y6 = L ∧ L ≤ 70 := by
            simp at hy6
            exact ⟨y6.toNat, by omega, by omega⟩
          have W6 : Win g (g + 1) wr w6 := (Win.of_below (bal (Below.refl _ _) _)).trans V6
          have ub6 := B8.of_win W6 S5.blk (by decide)
          have HO6 := hidH (own_keptT HO5.out W6 HG.out)
          have HK6 := hidH (HK5.out.turn W6.size ub6)
          have HW6 := hidH (HW5.out.trans W6)
          have HA6 := hidH (show a6 ≤ a3 + 1 by omega)
          clear V6 hy6 ha6 S5 W6 ub6
          go_wp2_with fail
          have HS6 := hidH S6
          refine (some_any L _ _ _ _ _ _ S6 (by omega) (by have := HA.out; have := HB5.out; have := HA6.out; omega)).mono ?_
          rintro e w7 ⟨v7, d7, a7, rfl, hd7, hl7, O7, S7, ha7, V7⟩
          obtain ⟨A7, c7, rfl, X7, hc7, hm7⟩ := own_xb O7
          have ub7 := B8.of_win V7 HS6.out.blk (by decide)
          obtain ⟨lo, hi, hlo, hkt⟩ := RT.of_xb X7 V7.size hc7 hm7 [.int 4, .int 0]
          have HO7 := hidH (own_keptT HO6.out V7 HG.out)
          have HK7 := hidH ((HK6.out.turn V7.size ub7).snoc (x := ckE ⟨4, 0, d7⟩ (.slice A7 d7.length c7) lo hi) hkt (Nat.le_trans HW6.out.size hlo) (fun y hy => Nat.le_trans (HK6.out.top y hy) hlo))
          have HS7 := hidH S7
          have HW7 := hidH (HW6.out.trans V7)
          have HDD := hidH (show CkP ⟨4, 0, d7⟩ from ⟨⟨by show (-1 : Int) ≤ 4; decide, by show (4 : Int) ≤ 256; decide⟩, ⟨by show (-1 : Int) ≤ 0; decide, by show (0 : Int) ≤ 256; decide⟩, hd7, by show d7.length ≤ 200; omega⟩)
          have HA7 := hidH (show a7 ≤ a3 + 90 by have := HA6.out; omega)
          have ba := bal (Below.refl w7.heap.size w7) (.cells #[.int .i64 4, .int .i64 0, .slice A7 d7.length c7] 37)
          have HBA := hidH ba
          have KB := hidH (Blk.new w7 37 #[.int .i64 4, .int .i64 0, .slice A7 d7.length c7])
          clear S6 O7 S7 V7 ub7 hkt hlo hd7 hl7 hL X7 hc7 hm7 ha7 ba HO5 HO6
          obtain ⟨UU, hUU⟩ : ∃ UU, Value.slice AU r5.length cu = UU := ⟨_, rfl⟩
          rw [hUU] at HO7 ⊢
          clear hUU
          go_wp2_with (at_builtin; go_loud (refine wpList_append_Ck rfl _ _ rfl w.heap.size _ r5.length (flatR q5) rfl (own_below0 HO7.out HBA.out) w7.heap.size _ 4 0 A7 d7.length c7 rfl KB.out (by have := HB5.out.1; omega) (Nat.le_trans HW7.out.size HBA.out.size) ?_))
          intro v8 w8 o8 hg8
          have r8 := own_below0 HO7.out HBA.out
          have HS8 := hidH ((HS7.out.below HBA.out).grown hg8 (fun k hk => Nat.lt_of_lt_of_le HG.out (r8.lt k hk).1))
          have HW8 := hidH (Win.row (HW7.out.trans (Win.of_below HBA.out)) hg8 (fun k hk => (r8.lt k hk).1))
          have HK8 := hidH (HK7.out.turn (Nat.le_trans HBA.out.size hg8.size) ((B8.of_below HBA.out).trans (B8.of_grown hg8 r8 (by decide))))
          have HO8 := hidH (show w8.ownsRow w.heap.size 37 3 v8 (r5 ++ [(⟨4, 0, d7⟩ : ChunkM)]).length (flatR (q5 ++ [ckE ⟨4, 0, d7⟩ (.slice A7 d7.length c7) lo hi])) by rw [List.length_append, flatR_app]; exact o8)
          clear o8 hg8 r8
          go_wp2
          go_roundw
          case rel =>
            refine ⟨_, r5 ++ [(⟨4, 0, d7⟩ : ChunkM)], a7, by rw [List.length_append]; have := HZ.out; have := HNN.out; simp; omega, HQ5.out.1.snoc _ _ _ _, fun x hx => ?_, HO8.out, HK8.out, HS8.out, by rw [List.length_append]; have := HB5.out.2; have := HA7.out; simp; omega, HW8.out⟩
            rcases List.mem_append.1 hx with hx | hx
            · exact HQ5.out.2 x hx
            · simp at hx; subst hx; exact HDD.out
          case measure =>
            obtain ⟨A9, c9, rfl⟩ := own_lenT HO8.out
            have := HB5.out.1
            have := HZ.out
            have := HNN.out
            simp
            omega
        · have hz1 : ¬ (r5.length : Int) < (N : Int) := by omega
          have HS5 := hidH S5
          clear hq5 hr5 ho5 hk5 S5 W5 ha5 hl5 hz
          go_wp2
          go_ret
          exact ⟨_, q5, r5, a3, rfl, HQ5.out.1, HB5.out.1, HQ5.out.2, HO5.out, HK5.out, HS5.out, by have := HB5.out; omega, HW5.out⟩
    · have b1 : (y == 1) = false := by simp [h1]
      clear h0 h1 S2
      go_wp2
      go_ret
      exact ⟨_, q, r, a1 + 1, rfl, HQ.out.1, by have := HB.out.1; omega, HQ.out.2, HO2.out, HK2.out, HS2.out, by have := HB.out.2; omega, HW2.out⟩
end Go.Proofs.YtncnibkojneejaaGreatDoor

/- Chapter 7: DrawMacText. -/
namespace Go.Proofs.YtncnibkojneejaaGreatDoor
open Go.RowKit Go.Deep

/-- A drawn list, in a box of its own: what the law opens. -/
theorem CsRes.own {w w' : World} {v : Value} {q : List RowE} {r : List ChunkM} {B : Nat} (hB : B ≤ w.heap.size) (h : RowCk q r) (ho : w'.ownsRow w.heap.size 37 3 v r.length (flatR q)) (hk : RTs w.heap.size w' q) : OwV B w'.heap.size w' (st_Chunk r) v :=
  (RowCk.own h ho (Nat.le_refl _) hk).mono hB (Nat.le_refl _) (Nat.le_refl _)
/-- A key's number and a list come back. -/
def MtRes (w : World) (e : Ending) (w' : World) : Prop :=
  ∃ (id : Int) (v : Value) (r : List ChunkM), e = .returned (.tuple #[.int .i64 id, v]) ∧ (-1 ≤ id ∧ id ≤ 100) ∧ r.length ≤ 9 ∧ (∀ x ∈ r, CkP x) ∧ OwV w.heap.size w'.heap.size w' (st_Chunk r) v ∧ Below w.heap.size w w'
set_option maxRecDepth 100000 in
set_option maxHeartbeats 4000000 in
theorem drawMt_any (A : Option Addr) (l : List Int) (c : Nat) (w : World) (hA : Bs w A l) (hl : Bytes l) (hm : (l.length : Int) ≤ 1048576) :
    Calls Tryz.prog 16 #[.slice A l.length c] w (MtRes w) := by
  have HS := hidH (source_any A l c w hA hl hm)
  clear hA
  go_enter Tryz.func16, Tryz.ntmps16
  go_wp2_with fail
  refine HS.out.mono ?_
  rintro e w1 ⟨rfl, S1, b1⟩
  have HB1 := hidH b1
  have HLT := hidH S1.lt
  clear HS b1
  obtain ⟨g, hg⟩ : ∃ g, w.heap.size = g := ⟨_, rfl⟩
  rw [hg] at S1 HLT
  have HG := hidH hg
  rw [hg]
  clear hg
  go_wp2_with fail
  refine (pick_any g A l c 0 w1.heap.size [0, 5, 99, 100, -1, 3] _ (S1.below (bal (Below.refl _ _) _)) (by omega) (Ns.of_blk (t := 2) (Blk.new w1 _ _)) (by simp) (by simp) (by have := S1.lt; omega)).mono ?_
  rintro e w2 ⟨y, a2, rfl, hy, ha2, S2, V2⟩
  have HY := hidH (show -1 ≤ y ∧ y ≤ 100 by simp at hy; omega)
  have W2 : Win g (g + 1) w1 w2 := (Win.of_below (bal (Below.refl _ _) _)).trans V2
  have HB2 := hidH (show Below w.heap.size w w2 from HB1.out.trans ((W2.below (Nat.le_of_lt HLT.out)).mono (by have := HG.out; omega)))
  have HLB := hidH (l7Bent_any g A l c a2 w2 S2 (by omega))
  have HLT2 := hidH S2.lt
  clear S1 V2 hy W2 ha2 S2
  go_wp2_with fail
  refine HLB.out.mono ?_
  rintro e w3 ⟨v, q, r, a3, rfl, hq, hrl, hr, ho, hk, S3, ha3, W3⟩
  have HB3 := hidH (show Below w.heap.size w w3 from HB2.out.trans ((W3.below (Nat.le_of_lt HLT2.out)).mono (by have := HG.out; omega)))
  have HV := hidH (CsRes.own HB2.out.size hq ho hk)
  have HR := hidH (And.intro hrl hr)
  clear HLB hq hrl hr ho hk S3 ha3 W3
  go_wp2
  refine bodyPost_ret (v := .tuple #[.int .i64 y, v]) (by simp [results, Tryz.results16, go_sem]) rfl ?_
  exact ⟨y, v, r, rfl, HY.out, HR.out.1, HR.out.2, HV.out, HB3.out⟩
end Go.Proofs.YtncnibkojneejaaGreatDoor

/- Chapter 7: DrawProtectChunks. -/
namespace Go.Proofs.YtncnibkojneejaaGreatDoor
open Go.RowKit Go.Deep

set_option maxHeartbeats 1000000 in
theorem later_any (A : Option Addr) (l : List Int) (c : Nat) (w : World) (hA : Bs w A l) (hl : Bytes l) (hm : (l.length : Int) ≤ 1048576) :
    Calls Tryz.prog 17 #[.slice A l.length c, .int .i64 1] w fun e w' => e = .returned (.pointer (some ⟨w.heap.size, 0, none⟩)) ∧ Src w' w.heap.size A l c 12 ∧ Below w.heap.size w w' := by
  go_enter Tryz.func17, Tryz.ntmps17
  go_wp2
  go_ret
  refine ⟨rfl, ⟨Blk.new _ _ _, hl, ?_, hm⟩, bal (Below.refl _ _) _⟩
  rcases hA with h | ⟨b, off, h1, h2, h3⟩
  · exact .inl h
  · exact .inr ⟨b, off, h1, h2, fun j hj => ((bal (Below.refl _ _) _).cell (p := ⟨b, off + j, none⟩) h2).trans (h3 j hj)⟩
/-- A key's number, a key and a list come back. -/
def PcRes (w : World) (e : Ending) (w' : World) : Prop :=
  ∃ (id : Int) (key : List Int) (vk v : Value) (r : List ChunkM), e = .returned (.tuple #[.int .i64 id, vk, v]) ∧ (-1 ≤ id ∧ id ≤ 100) ∧ (Bytes key ∧ key.length ≤ 201) ∧ r.length ≤ 9 ∧ (∀ x ∈ r, CkP x) ∧ OwV w.heap.size w'.heap.size w' (.bs key) vk ∧ OwV w.heap.size w'.heap.size w' (st_Chunk r) v ∧ Below w.heap.size w w'
set_option maxRecDepth 100000 in
set_option maxHeartbeats 4000000 in
theorem drawPc_any (A : Option Addr) (l : List Int) (c : Nat) (w : World) (hA : Bs w A l) (hl : Bytes l) (hm : (l.length : Int) ≤ 1048576) :
    Calls Tryz.prog 5 #[.slice A l.length c] w (PcRes w) := by
  have HS := hidH (drawMt_any A l c w hA hl hm)
  have HA := hidH hA
  have HL := hidH (And.intro hl hm)
  clear hA hl hm
  go_enter Tryz.func5, Tryz.ntmps5
  go_wp2_with fail
  refine HS.out.mono ?_
  rintro e w1 ⟨id, v, r, rfl, hid, hrl, hr, hv, b1⟩
  have HB1 := hidH b1
  have HR := hidH (And.intro hid (And.intro hrl hr))
  have HV := hidH hv
  have HT := hidH (later_any A l c w1 (bs_below HA.out b1) HL.out.1 HL.out.2)
  clear HS hid hrl hr hv b1
  go_wp2_with fail
  refine HT.out.mono ?_
  rintro e w2 ⟨rfl, S2, b2⟩
  have HB2 := hidH (HB1.out.trans (b2.mono HB1.out.size))
  have HV2 := hidH (HV.out.below b2)
  obtain ⟨g, hg⟩ : ∃ g, w1.heap.size = g := ⟨_, rfl⟩
  have HLT := hidH S2.lt
  rw [hg] at S2 HLT
  rw [hg]
  have HG := hidH hg
  clear HT b2 hg
  go_wp2_with fail
  refine (pick_any g A l c 12 w2.heap.size [0, 9, 60, 80, 200, 201] _ (S2.below (bal (Below.refl _ _) _)) (by omega) (Ns.of_blk (t := 2) (Blk.new w2 _ _)) (by simp) (by simp) (by have := S2.lt; omega)).mono ?_
  rintro e w3 ⟨y4, a3, rfl, hy4, ha3, S3, V3⟩
  obtain ⟨L, rfl, hL⟩ : ∃ L : Nat, y4 = L ∧ L ≤ 201 := by
    simp at hy4
    exact ⟨y4.toNat, by omega, by omega⟩
  have W3 : Win g (g + 1) w2 w3 := (Win.of_below (bal (Below.refl _ _) _)).trans V3
  have HW3 := hidH W3
  clear S2 V3 hy4 W3
  go_wp2_with fail
  refine (some_any L _ _ _ _ _ _ S3 (by omega) (by omega)).mono ?_
  rintro e w4 ⟨v5, d5, a5, rfl, hd5, hl5, O5, S5, ha5, V5⟩
  obtain ⟨A5, c5, e5, ob5, k5, m5⟩ := own_ob O5
  subst e5
  have HW := hidH (HW3.out.trans V5)
  have HB4 := hidH (show Below w.heap.size w w4 from HB2.out.trans ((HW.out.below (Nat.le_of_lt HLT.out)).mono (by have := HG.out; have := HB1.out.size; omega)))
  have HK := hidH ((ob5.owv (Nat.le_refl _) ⟨k5, m5⟩).mono (B' := w.heap.size) (Nat.le_trans HB2.out.size HW3.out.size) (Nat.le_refl _) (Nat.le_refl _))
  have HV4 := hidH ((HV2.out.win HW.out (.inl (by have := HG.out; omega))).mono (Nat.le_refl _) (by have := HW.out.size; have := HLT.out; have := HG.out; omega) (Nat.le_refl _))
  have HD := hidH (And.intro hd5 (show d5.length ≤ 201 by omega))
  clear S3 O5 ob5 k5 m5 S5 V5 hd5 hl5 ha5 ha3 hL
  go_wp2
  refine bodyPost_ret (v := .tuple #[.int .i64 id, .slice A5 d5.length c5, v]) (by simp [results, Tryz.results5, go_sem]) rfl ?_
  exact ⟨id, d5, _, v, r, rfl, HR.out.1, HD.out, HR.out.2.1, HR.out.2.2, HK.out, HV4.out, HB4.out⟩
end Go.Proofs.YtncnibkojneejaaGreatDoor

/- Rows of structs: what is appended may be a slice of a slice (at an offset, or nil). -/
namespace Go.Proofs.YtncnibkojneejaaGreatDoor
open Go.RowKit Go.Deep

/-- m structs of W cells, from an offset on: what a slice of a row reads. -/
def CellsAt (w : World) (A : Option Addr) (m W : Nat) (ys : List Value) : Prop :=
  ys.length = m * W ∧ ((A = none ∧ m = 0) ∨ ∃ q off, A = some ⟨q, off, none⟩ ∧ q < w.heap.size ∧ ∀ j, j < m * W → w.cell? ⟨q, off + j, none⟩ = ys[j]?)
theorem CellsAt.below {w w' : World} {A : Option Addr} {m W : Nat} {ys : List Value} (h : CellsAt w A m W ys) (hb : Below w.heap.size w w') : CellsAt w' A m W ys := by
  obtain ⟨h1, h2 | ⟨q, off, h3, h4, h5⟩⟩ := h
  · exact ⟨h1, .inl h2⟩
  · exact ⟨h1, .inr ⟨q, off, h3, Nat.lt_of_lt_of_le h4 hb.size, fun j hj => (hb.cell (p := ⟨q, off + j, none⟩) h4).trans (h5 j hj)⟩⟩
/-- The front of a row. -/
theorem CellsAt.front {w : World} {B W n k : Nat} {e : TypeId} {A : Option Addr} {c : Nat} {xs : List Value} (h : w.ownsRow B e W (.slice A n c) n xs) (hk : k ≤ n) : CellsAt w A k W (xs.take (k * W)) := by
  obtain ⟨A', c', e', h2⟩ := own_cellsT h
  simp only [Value.slice.injEq] at e'
  obtain ⟨rfl, _, rfl⟩ := e'
  have hl := h.1
  have hkw := Nat.mul_le_mul_right W hk
  refine ⟨by rw [List.length_take, hl]; omega, ?_⟩
  rcases Nat.eq_zero_or_pos (n * W) with hz | hz
  · rcases h with ⟨_, ⟨h3, h4⟩ | ⟨g, cap, cur, h3, h4, h5, h6⟩⟩
    · simp only [Value.slice.injEq] at h3
      exact .inl ⟨h3.1, by omega⟩
    · simp only [Value.slice.injEq] at h3
      exact .inr ⟨g, 0, h3.1, (Array.getElem?_eq_some_iff.1 h5).1, fun j hj => by omega⟩
  · obtain ⟨g, hA, _, hg, hc⟩ := h2 0 hz
    refine .inr ⟨g, 0, hA, hg, fun j hj => ?_⟩
    rw [Nat.zero_add, hc j (by omega), List.getElem?_take]
    rw [if_pos hj]
/-- The rest of a row: the slice from k on. -/
theorem CellsAt.rest {w : World} {B W n k : Nat} {e : TypeId} {A : Option Addr} {c : Nat} {xs : List Value} (h : w.ownsRow B e W (.slice A n c) n xs) (hk : k ≤ n) (A2 : Option Addr) (h0 : A = none → A2 = none) (h1 : ∀ g, A = some ⟨g, 0, none⟩ → A2 = some ⟨g, k * W, none⟩) : CellsAt w A2 (n - k) W (xs.drop (k * W)) := by
  obtain ⟨A', c', e', h2⟩ := own_cellsT h
  simp only [Value.slice.injEq] at e'
  obtain ⟨rfl, _, rfl⟩ := e'
  have hl := h.1
  have hkw := Nat.mul_le_mul_right W hk
  refine ⟨by rw [List.length_drop, hl, Nat.sub_mul], ?_⟩
  rcases h with ⟨_, ⟨h3, h4⟩ | ⟨g, cap, cur, h3, h4, h5, h6⟩⟩
  · simp only [Value.slice.injEq] at h3
    exact .inl ⟨h0 h3.1, by omega⟩
  · simp only [Value.slice.injEq] at h3
    refine .inr ⟨g, k * W, h1 g h3.1, (Array.getElem?_eq_some_iff.1 h5).1, fun j hj => ?_⟩
    rw [Nat.sub_mul] at hj
    obtain ⟨g2, hA, _, _, hc⟩ := h2 0 (by omega)
    rw [h3.1] at hA
    simp only [Option.some.injEq, Addr.mk.injEq] at hA
    rw [hA.1, hc (k * W + j) (by omega), List.getElem?_drop]
/-- A part of a row of structs appended to a row of structs. -/
theorem wpList_append_cells {w : World} {ops : Array Oper} {rest : List Oper} {o : Oper} {a : Act} {Q : Exit → Act → World → Prop} (hgd : o.guard = none) (s x : Operand) {T e : TypeId} {W by_ : Nat} {z : Value}
    (hT : Tryz.prog.underlying T = some (.slice e)) (hinfo : (Tryz.prog.info? e).map (fun i => (i.zero, i.size, i.bytes)) = some (some z, W, by_)) (hz : z.cells.size = W) (hW : 0 < W) (hby : by_ ≤ 1000)
    (ho : o.op = .call { callee := .builtin .append, args := #[s, x], argTypes := #[T, T] })
    (base : Nat) (v : Value) (n : Nat) (xs : List Value) (hs : a.eval s = v) (hown : w.ownsRow base e W v n xs)
    (A : Option Addr) (m c : Nat) (ys : List Value) (hx : a.eval x = .slice A m c) (hown2 : CellsAt w A m W ys) (hc0 : A = none → c = 0) (h1c : ∀ u ∈ ys, u.oneCell' = true) (hm : n + m ≤ 100000) (hbase : base ≤ w.heap.size)
    (h : ∀ v' w', w'.ownsRow base e W v' (n + m) (xs ++ ys) → w.grownBy w' v.ownBlock → (v'.ownBlock = v.ownBlock ∨ v'.ownBlock = some w.heap.size) → wpList Tryz.prog ops Q rest (a.put o.dst v') w') : wpList Tryz.prog ops Q (o :: rest) a w := by
  obtain ⟨i0, hi, hzz⟩ := Option.map_eq_some_iff.1 hinfo
  simp only [Prod.mk.injEq] at hzz
  obtain ⟨hl2, ⟨rfl, h0⟩ | ⟨q, off, rfl, h4, h5⟩⟩ := hown2
  · have hy : ys = [] := List.eq_nil_of_length_eq_zero (by rw [hl2, h0]; omega)
    have hc := hc0 rfl
    subst h0 hy hc
    refine wpList_plain hgd fun K hK => ?_
    have hrun := run_append_of_nil (P := Tryz.prog) w base T o.type e i0 W hT hi v n xs hown 0
    unfold Oper.wp
    simp [execOp, ho, resolve, invoke, builtin, hs, hx, hrun, Result.andThen]
    exact hK _ _ (h v w (by simpa using hown) (World.grownBy.refl w _) (.inl rfl))
  · obtain ⟨hz0, hz1, hz2⟩ := hzz
    refine wpList_append_own_at w hgd s x T ho base e i0 z W by_ hT hi hz0 hz1 hz2 hz hW v n xs hs hown ⟨q, off, none⟩ m c ys hx hl2
      (fun j u hu => ?_) h1c (by unfold maxLen; omega) (by have := Nat.mul_le_mul hm hby; omega) hbase (fun v' w' h1 h2 _ h4 => h v' w' h1 h2 h4)
    have e : (⟨q, off, none⟩ : Addr).add j = ⟨q, off + j, none⟩ := by unfold Addr.add; split <;> simp_all
    rw [e]
    exact (h5 j (by rw [← hl2]; exact (List.getElem?_eq_some_iff.1 hu).1)).trans hu
end Go.Proofs.YtncnibkojneejaaGreatDoor

/- Chapter 7: a list of chunks read, copied as a row, its first body replaced. -/
namespace Go.Proofs.YtncnibkojneejaaGreatDoor
open Go.RowKit Go.Deep

theorem RdL.of_at7 {w : World} : ∀ {xs : List V} {g o : Nat}, (∀ k x, xs[k]? = some x → ∃ u, w.cell? ⟨g, o + k, none⟩ = some u ∧ Rd w x u) → RdL w xs g o
  | [], _, _, _ => by unfold RdL; trivial
  | x :: xs, g, o, h => by
    unfold RdL
    refine ⟨by simpa using h 0 x rfl, RdL.of_at7 (fun k y hy => ?_)⟩
    have := h (k + 1) y (by simpa using hy)
    rwa [show o + (k + 1) = o + 1 + k by omega] at this
theorem fldAR0 (a b c : Int) (w : World) : (Instr.field 33 (.agg #[.int .i64 a, .int .i64 b, .int .i64 c]) 0).run Tryz.prog w = .ok (.int .i64 a) w := by kernel_rfl
theorem chs_leaf {r : List ChunkM} {x : V} (h : x ∈ r.flatMap ChunkM.vs) : (∃ n, x = .int n) ∨ ∃ l, x = .bs l := by
  obtain ⟨y, _, hy⟩ := List.mem_flatMap.1 h
  simp only [ChunkM.vs, List.mem_cons, List.not_mem_nil, or_false] at hy
  rcases hy with rfl | rfl | rfl
  · exact .inl ⟨_, rfl⟩
  · exact .inl ⟨_, rfl⟩
  · exact .inr ⟨_, rfl⟩
theorem chs_len (r : List ChunkM) : (r.flatMap ChunkM.vs).length = r.length * 3 := by
  induction r with
  | nil => rfl
  | cons y r ih => rw [List.flatMap_cons, List.length_append, ih, List.length_cons]; simp only [ChunkM.vs, List.length_cons, List.length_nil]; omega
/-- The cells of a list of chunks. -/
theorem rd_cells {w : World} {rr : List ChunkM} {A : Option Addr} {c : Nat} (h : Rd w (st_Chunk rr) (.slice A rr.length c)) (h0 : 0 < rr.length) :
    ∃ (g o : Nat) (ys : List Value), A = some ⟨g, o, none⟩ ∧ g < w.heap.size ∧ CellsAt w A rr.length 3 ys ∧ (∀ k x, (rr.flatMap ChunkM.vs)[k]? = some x → ∃ u, ys[k]? = some u ∧ w.cell? ⟨g, o + k, none⟩ = some u ∧ Rd w x u) ∧ ∀ u ∈ ys, u.oneCell' = true := by
  obtain ⟨A', c', e, _, h⟩ := Rd.st_out h
  injection e with e1 _ e3
  subst e1 e3
  rcases h with ⟨h1, _⟩ | ⟨g, o, rfl, hg, hR⟩
  · omega
  have hget : ∀ k x, (rr.flatMap ChunkM.vs)[k]? = some x → ∃ u, w.cell? ⟨g, o + k, none⟩ = some u ∧ Rd w x u := fun k x hx => by
    obtain ⟨hk, e⟩ := List.getElem?_eq_some_iff.1 hx
    obtain ⟨u, h1, h2⟩ := RdL.at hR k hk
    exact ⟨u, h1, by rw [e] at h2; exact h2⟩
  have hl := chs_len rr
  refine ⟨g, o, (List.range (rr.length * 3)).map (fun k => (w.cell? ⟨g, o + k, none⟩).getD undef), rfl, hg, ⟨by simp, .inr ⟨g, o, rfl, hg, fun j hj => ?_⟩⟩, fun k x hx => ?_, fun u hu => ?_⟩
  · obtain ⟨u, h1, _⟩ := hget j _ (List.getElem?_eq_getElem (show j < (rr.flatMap ChunkM.vs).length by omega))
    simp [hj, h1]
  · obtain ⟨u, h1, h2⟩ := hget k x hx
    have hk := (List.getElem?_eq_some_iff.1 hx).1
    exact ⟨u, by simp [show k < rr.length * 3 by omega, h1], h1, h2⟩
  · obtain ⟨k, hk, rfl⟩ := List.mem_map.1 hu
    have hk := List.mem_range.1 hk
    have hkx : k < (rr.flatMap ChunkM.vs).length := by omega
    obtain ⟨u, h1, h2⟩ := hget k _ (List.getElem?_eq_getElem hkx)
    rw [h1]
    show u.oneCell' = true
    rcases chs_leaf (List.getElem_mem hkx) with ⟨n, e⟩ | ⟨m, e⟩
    · rw [e] at h2; rw [h2.int_out]; rfl
    · rw [e] at h2; obtain ⟨A2, c2, e2⟩ := h2.bs_sh; rw [e2]; rfl
/-- The same list with another first body. -/
theorem rd_bad {w w' : World} {B gb cb n : Nat} {x : ChunkM} {r : List ChunkM} {ys : List Value} {A : Option Addr} {c : Nat} {tb : List Int} {k f : Int} (hn : (x :: r).length = n) (hx : x.Kind = k ∧ x.Flags = f)
    (hy : ∀ (i : Nat) (y : V), ((x :: r).flatMap ChunkM.vs)[i]? = some y → ∃ u, ys[i]? = some u ∧ Rd w y u) (hb : Below w.heap.size w w') (ho : w'.ownsRow B 37 3 (.slice (some ⟨gb, 0, none⟩) n cb) n (ys.set 2 (.slice A tb.length c))) (hA : Bs w' A tb) (hc : Caps tb.length c) :
    Rd w' (st_Chunk (⟨k, f, tb⟩ :: r)) (.slice (some ⟨gb, 0, none⟩) n cb) := by
  have hn2 : (⟨k, f, tb⟩ :: r : List ChunkM).length = n := by rw [← hn]; rfl
  have hl := chs_len (⟨k, f, tb⟩ :: r)
  have hlt : gb < w'.heap.size := (ho.lt gb rfl).2
  have hcap : n ≤ cb ∧ (cb : Int) ≤ 9223372036854775807 := by
    obtain ⟨_, ⟨e, _⟩ | ⟨g', cap', cur, e, _, _, h5, h6, _⟩⟩ := ho
    · cases e
    · injection e with _ _ e3
      unfold maxLen at h6
      subst e3
      exact ⟨h5, by omega⟩
  unfold st_Chunk Rd
  refine ⟨_, cb, by rw [hn2], ⟨by rw [hn2]; exact hcap.1, hcap.2⟩, .inr ⟨gb, 0, rfl, hlt, RdL.of_at7 (fun j y hj => ?_)⟩⟩
  have hjl := (List.getElem?_eq_some_iff.1 hj).1
  rw [Nat.zero_add, ho.cellAt j (by rw [← hn2]; omega), List.getElem?_set]
  by_cases h2 : 2 = j
  · subst h2
    have e : y = .bs tb := by simpa [ChunkM.vs] using hj.symm
    have hlen : 2 < ys.length := by
      obtain ⟨u, hu, _⟩ := hy 2 (.bs x.Body) rfl
      exact (List.getElem?_eq_some_iff.1 hu).1
    rw [if_pos rfl, if_pos hlen, e]
    exact ⟨_, rfl, Rd.bs_mk hA hc⟩
  · rw [if_neg h2]
    have e : ((x :: r).flatMap ChunkM.vs)[j]? = some y := by
      rw [← hj, List.flatMap_cons, List.flatMap_cons]
      simp only [ChunkM.vs, hx.1, hx.2]
      rcases j with _ | _ | _ | j
      · rfl
      · rfl
      · exact absurd rfl h2
      · rfl
    obtain ⟨u, h3, h4⟩ := hy j y e
    exact ⟨u, h3, Rd.below hb _ h4⟩
end Go.Proofs.YtncnibkojneejaaGreatDoor
