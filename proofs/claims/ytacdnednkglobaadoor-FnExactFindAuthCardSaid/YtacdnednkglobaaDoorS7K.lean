/- Chapter 7: the program's authResult, FindAuth. -/
import Derived.Test.YtacdnednkglobaaDoorS7J
namespace Go.Proofs.YtacdnednkglobaaDoor
open Go.RowKit Go.Deep

/-- The cell of the library's own variable errors.errorType. -/
def ErrT (w : World) : Prop := w.cell? ⟨1, 0, none⟩ = some (.iface 187 (.agg #[.pointer (some ⟨2, 132, none⟩)]))
theorem ErrT.lt {w : World} (h : ErrT w) : 1 < w.heap.size := World.block_lt_of_cell? _ _ h
theorem ErrT.below {w w' : World} (h : ErrT w) (hb : Below w.heap.size w w') : ErrT w' := (hb.cell (p := ⟨1, 0, none⟩) h.lt).trans h
set_option maxRecDepth 100000 in
set_option maxHeartbeats 4000000 in
theorem ar_nil (id : Int) (A : Option Addr) (n c : Nat) (fr : Int) (w : World) : Calls Tryd.prog 67 #[tagV id A n c fr, .nilIface] w (Res w [.int 0, .int id, .int fr]) := by
  unfold tagV
  have K1 := ((Blk.new w 130 #[.int .i64 id, .slice A n c, .int .i64 fr]).alloc (.cells #[.int .i64 0, .int .i64 0, .int .i64 0] 77)).alloc (.cells #[.int .i64 0] 158)
  have R1 := (Blk.new (w.alloc (.cells #[.int .i64 id, .slice A n c, .int .i64 fr] 130)) 77 #[.int .i64 0, .int .i64 0, .int .i64 0]).alloc (.cells #[.int .i64 0] 158)
  have b1 := bal (bal (bal (Below.refl w.heap.size w) (.cells #[.int .i64 id, .slice A n c, .int .i64 fr] 130)) (.cells #[.int .i64 0, .int .i64 0, .int .i64 0] 77)) (.cells #[.int .i64 0] 158)
  rw [World.size_alloc] at R1
  obtain ⟨w1, hw1⟩ : ∃ w1, ((w.alloc (.cells #[.int .i64 id, .slice A n c, .int .i64 fr] 130)).alloc (.cells #[.int .i64 0, .int .i64 0, .int .i64 0] 77)).alloc (.cells #[.int .i64 0] 158) = w1 := ⟨_, rfl⟩
  rw [hw1] at K1 R1 b1
  have z0 := K1.cell 0
  have z2 := K1.cell 2
  have x0 := R1.cell 0
  have x1 := R1.cell 1
  have x2 := R1.cell 2
  have f0 := R1.frozen 0
  have f1 := R1.frozen 1
  have f2 := R1.frozen 2
  simp only [List.getElem?_toArray, List.getElem?_cons_succ, List.getElem?_cons_zero] at z0 z2 x0 x1 x2
  have hk := K1.lt
  have hr := R1.lt
  have HB := hidH b1
  have HW := hidH hw1
  clear K1 R1 b1 hw1
  go_enter Tryd.func67, Tryd.ntmps67
  go_wp2_with fail
  rw [HW.out]
  refine (as_nil _ _).mono ?_
  rintro e w2 ⟨rfl, rfl⟩
  go_wp2
  exact bodyPost_ret (v := .agg #[.int .i64 0, .int .i64 id, .int .i64 fr]) (by simp [results, Tryd.results67, go_sem, x0, x1, x2]) rfl (ar_res 0 id fr (bst (bst (bst HB.out (Nat.le_succ _) _) (Nat.le_succ _) _) (Nat.le_succ _) _))
set_option maxRecDepth 100000 in
set_option maxHeartbeats 4000000 in
theorem ar_err (id : Int) (A : Option Addr) (n c : Nat) (fr code : Int) (w : World) (hg : ErrT w) : Calls Tryd.prog 67 #[tagV id A n c fr, errU code] w (Res w [.int code, .int 0, .int 0]) := by
  unfold tagV errU
  have R1 := (Blk.new (w.alloc (.cells #[.int .i64 id, .slice A n c, .int .i64 fr] 130)) 77 #[.int .i64 0, .int .i64 0, .int .i64 0]).alloc (.cells #[.int .i64 0] 158)
  have U1 := Blk.new ((w.alloc (.cells #[.int .i64 id, .slice A n c, .int .i64 fr] 130)).alloc (.cells #[.int .i64 0, .int .i64 0, .int .i64 0] 77)) 158 #[.int .i64 0]
  have b1 := bal (bal (bal (Below.refl w.heap.size w) (.cells #[.int .i64 id, .slice A n c, .int .i64 fr] 130)) (.cells #[.int .i64 0, .int .i64 0, .int .i64 0] 77)) (.cells #[.int .i64 0] 158)
  rw [World.size_alloc] at R1
  rw [World.size_alloc, World.size_alloc] at U1
  obtain ⟨w1, hw1⟩ : ∃ w1, ((w.alloc (.cells #[.int .i64 id, .slice A n c, .int .i64 fr] 130)).alloc (.cells #[.int .i64 0, .int .i64 0, .int .i64 0] 77)).alloc (.cells #[.int .i64 0] 158) = w1 := ⟨_, rfl⟩
  rw [hw1] at R1 U1 b1
  have HH := hidH (as_hit code 0 (w.heap.size + 1 + 1) w1 (hg.below b1) U1 (by omega))
  have HR := hidH R1
  have HB := hidH b1
  have HW := hidH hw1
  have HU := hidH U1.lt
  clear R1 U1 b1 hw1 hg
  go_enter Tryd.func67, Tryd.ntmps67
  go_wp2_with fail
  rw [HW.out]
  refine HH.out.mono ?_
  rintro e w2 ⟨rfl, U2, hw2⟩
  have R2 := hw2.blk HR.out (.inl (by omega))
  have HB2 := hidH (HB.out.trans ((hw2.below (by have := HU.out; omega)).mono (by omega)))
  have y0 := U2.cell 0
  have x0 := R2.cell 0
  have x1 := R2.cell 1
  have x2 := R2.cell 2
  have f0 := R2.frozen 0
  have f1 := R2.frozen 1
  have f2 := R2.frozen 2
  simp only [List.getElem?_toArray, List.getElem?_cons_succ, List.getElem?_cons_zero] at y0 x0 x1 x2
  have hu := U2.lt
  have hr := R2.lt
  clear U2 R2 hw2 HH
  go_wp2
  exact bodyPost_ret (v := .agg #[.int .i64 code, .int .i64 0, .int .i64 0]) (by simp [results, Tryd.results67, go_sem, x0, x1, x2]) rfl (ar_res code 0 0 (bst (bst (bst HB2.out (Nat.le_succ _) _) (Nat.le_succ _) _) (Nat.le_succ _) _))
theorem faL_err : ∀ {r : List ChunkM} {i : Nat}, (faL r i).Code ≠ 0 → faL r i = ⟨(faL r i).Code, 0, 0⟩
  | [], _, _ => rfl
  | x :: r, i, h => by
    unfold faL at h ⊢
    split
    · next hk =>
      rw [if_pos hk] at h
      split
      · next ht => rw [if_pos ht] at h; exact absurd rfl h
      · rfl
    · next hk => rw [if_neg hk] at h; exact faL_err h
set_option maxRecDepth 100000 in
set_option maxHeartbeats 4000000 in
theorem fa_impl (r : List ChunkM) (v : Value) (u : World) (ty : TypeId) (pv : Value) (hE : u.cell? ⟨0, 0, none⟩ = some (.iface ty pv)) (hg : ErrT u) (h : Rd u (st_Chunk r) v) (hcb : ∀ x ∈ r, Bytes x.Body) : Calls Tryd.prog 33 #[v] u (Res u (faR r).vs) := by
  have h0lt := World.block_lt_of_cell? _ _ hE
  have R0 := Blk.new u 77 #[.int .i64 0, .int .i64 0, .int .i64 0]
  have b0 := bal (Below.refl u.heap.size u) (.cells #[.int .i64 0, .int .i64 0, .int .i64 0] 77)
  obtain ⟨w0, hw0⟩ : ∃ w0, u.alloc (.cells #[.int .i64 0, .int .i64 0, .int .i64 0] 77) = w0 := ⟨_, rfl⟩
  rw [hw0] at R0 b0
  have HFT := hidH (findTag_any r v w0 ty pv ((b0.cell (p := ⟨0, 0, none⟩) h0lt).trans hE) (Rd.below b0 _ h) hcb)
  have HG := hidH (hg.below b0)
  have HW := hidH hw0
  have HR := hidH R0
  have HB := hidH b0
  unfold FtR at HFT
  clear hw0 R0 b0 h hcb h0lt hE hg
  go_enter Tryd.func33, Tryd.ntmps33
  go_wp2_with fail
  rw [HW.out]
  refine HFT.out.mono ?_
  rintro e w1 ⟨hh, b1⟩
  have HB1 := hidH (btr HB.out b1)
  have HR1 := hidH (HR.out.below b1)
  have HG1 := hidH (HG.out.below b1)
  clear b1 HFT
  rcases hh with ⟨hne, id, A, n, c, fr, rfl⟩ | ⟨h0, A, c, j, f, l, rfl, _, _, _, _⟩
  · have hv : (faR r).vs = [.int (faR r).Code, .int 0, .int 0] := by
      unfold faR at hne ⊢
      split at hne
      · next hc => rw [if_pos hc]; rw [faL_err hne]; rfl
      · next hc => rw [if_neg hc]; rfl
    have HV := hidH hv
    obtain ⟨C, hC⟩ : ∃ C, (faR r).Code = C := ⟨_, rfl⟩
    rw [hC] at HV ⊢
    have ba := bal (Below.refl w1.heap.size w1) (.cells #[.int .i64 id, .slice A n c, .int .i64 fr] 130)
    have KT := Blk.new w1 130 #[.int .i64 id, .slice A n c, .int .i64 fr]
    have HAR := hidH (ar_err id A n c fr C _ (HG1.out.below ba))
    have HB2 := hidH (btr HB1.out ba)
    have HR2 := hidH (HR1.out.below ba)
    obtain ⟨w2, hw2⟩ : ∃ w2, w1.alloc (.cells #[.int .i64 id, .slice A n c, .int .i64 fr] 130) = w2 := ⟨_, rfl⟩
    rw [hw2] at KT HAR HB2 HR2
    have z0 := KT.cell 0
    have z1 := KT.cell 1
    have z2 := KT.cell 2
    simp only [List.getElem?_toArray, List.getElem?_cons_succ, List.getElem?_cons_zero] at z0 z1 z2
    have hk := KT.lt
    have HW2 := hidH hw2
    clear KT ba hw2 hv hne hC
    unfold tagV at HAR ⊢
    unfold errU at HAR ⊢
    go_wp2_with fail
    rw [HW2.out]
    go_wp2_with fail
    refine HAR.out.mono ?_
    rintro e w3 ⟨vs, rfl, o3, b3⟩
    obtain rfl := shape_AuthResult o3.rd
    have HB3 := hidH (btr HB2.out b3)
    have R3 := HR2.out.below b3
    have x0 := R3.cell 0
    have x1 := R3.cell 1
    have x2 := R3.cell 2
    have f0 := R3.frozen 0
    have f1 := R3.frozen 1
    have f2 := R3.frozen 2
    simp only [List.getElem?_toArray, List.getElem?_cons_succ, List.getElem?_cons_zero] at x0 x1 x2
    have hr := R3.lt
    clear o3 b3 R3 HAR z0 z1 z2
    go_wp2
    exact bodyPost_ret (v := .agg #[.int .i64 C, .int .i64 0, .int .i64 0]) (by simp [results, Tryd.results33, go_sem, x0, x1, x2]) rfl (by rw [HV.out]; exact ar_res C 0 0 (bst (bst (bst HB3.out (Nat.le_refl _) _) (Nat.le_refl _) _) (Nat.le_refl _) _))
  · have hv : (faR r).vs = [.int 0, .int (faR r).KeyId, .int (faR r).From] := by
      show [V.int (faR r).Code, V.int (faR r).KeyId, V.int (faR r).From] = _
      rw [h0]
    have HV := hidH hv
    obtain ⟨id, hid⟩ : ∃ id, (faR r).KeyId = id := ⟨_, rfl⟩
    obtain ⟨fr, hfr⟩ : ∃ fr, (faR r).From = fr := ⟨_, rfl⟩
    rw [hid, hfr] at HV ⊢
    have ba := bal (Below.refl w1.heap.size w1) (.cells #[.int .i64 id, .slice A 32 c, .int .i64 fr] 130)
    have KT := Blk.new w1 130 #[.int .i64 id, .slice A 32 c, .int .i64 fr]
    have HB2 := hidH (btr HB1.out ba)
    have HR2 := hidH (HR1.out.below ba)
    obtain ⟨w2, hw2⟩ : ∃ w2, w1.alloc (.cells #[.int .i64 id, .slice A 32 c, .int .i64 fr] 130) = w2 := ⟨_, rfl⟩
    rw [hw2] at KT HB2 HR2
    have HAR := hidH (ar_nil id A 32 c fr w2)
    have z0 := KT.cell 0
    have z1 := KT.cell 1
    have z2 := KT.cell 2
    simp only [List.getElem?_toArray, List.getElem?_cons_succ, List.getElem?_cons_zero] at z0 z1 z2
    have hk := KT.lt
    have HW2 := hidH hw2
    clear KT ba hw2 hv h0 hid hfr
    unfold tagV at HAR ⊢
    go_wp2_with fail
    rw [HW2.out]
    go_wp2_with fail
    refine HAR.out.mono ?_
    rintro e w3 ⟨vs, rfl, o3, b3⟩
    obtain rfl := shape_AuthResult o3.rd
    have HB3 := hidH (btr HB2.out b3)
    have R3 := HR2.out.below b3
    have x0 := R3.cell 0
    have x1 := R3.cell 1
    have x2 := R3.cell 2
    have f0 := R3.frozen 0
    have f1 := R3.frozen 1
    have f2 := R3.frozen 2
    simp only [List.getElem?_toArray, List.getElem?_cons_succ, List.getElem?_cons_zero] at x0 x1 x2
    have hr := R3.lt
    clear o3 b3 R3 HAR z0 z1 z2
    go_wp2
    exact bodyPost_ret (v := .agg #[.int .i64 0, .int .i64 id, .int .i64 fr]) (by simp [results, Tryd.results33, go_sem, x0, x1, x2]) rfl (by rw [HV.out]; exact ar_res 0 id fr (bst (bst (bst HB3.out (Nat.le_refl _) _) (Nat.le_refl _) _) (Nat.le_refl _) _))
theorem fa_implW (r : List ChunkM) (v : Value) (u : World) (ty : TypeId) (pv : Value) (hE : u.cell? ⟨0, 0, none⟩ = some (.iface ty pv)) (hg : ErrT u) (h : Rd u (st_Chunk r) v) (hw : WfV (st_Chunk r)) (_ : tot (st_Chunk r) ≤ 1048576) : Calls Tryd.prog 33 #[v] u (Res u (faR r).vs) := fa_impl r v u ty pv hE hg h (st_Chunk_bytes hw)
theorem fa_specW (r : List ChunkM) (v : Value) (u : World) (h : Rd u (st_Chunk r) v) (hw : WfV (st_Chunk r)) (_ : tot (st_Chunk r) ≤ 1048576) : Calls Tryd.prog 31 #[v] u (Res u (faR r).vs) := fa_spec r v u h (st_Chunk_bytes hw)
end Go.Proofs.YtacdnednkglobaaDoor
