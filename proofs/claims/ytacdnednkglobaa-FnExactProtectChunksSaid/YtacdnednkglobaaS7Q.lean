/- Chapter 7: ProtectChunks, the model's. -/
import Derived.Test.YtacdnednkglobaaS7P
namespace Go.Proofs.Ytacdnednkglobaa
open Go.RowKit Go.Deep

/-- A ChunksResult by value. -/
theorem cs_res {w W : World} {R B : Nat} {r : List ChunkM} {v : Value} (x : Int) (hO : OwV B W.heap.size W (st_Chunk r) v) (hB : R + 1 ≤ B) (hR : w.heap.size ≤ R) (hb : Below w.heap.size w W) (u0 u1 : Value) :
    Res w [.int x, st_Chunk r] (.returned (.agg #[.int .i64 x, v])) ((W.setCell ⟨R, 0, none⟩ u0).setCell ⟨R, 1, none⟩ u1) := by
  have e : ((W.setCell ⟨R, 0, none⟩ u0).setCell ⟨R, 1, none⟩ u1).heap.size = W.heap.size := by simp [World.setCell]
  refine ⟨[.int .i64 x, v], rfl, ?_, bst (bst hb hR _) hR _⟩
  have ho := ((hO.win (set_win W R 0 u0) (.inr (by omega))).win (set_win _ R 1 u1) (.inr (by omega))).mono (B' := w.heap.size) (C' := W.heap.size) (by omega) (Nat.le_refl _) (by rw [e]; exact Nat.le_refl _)
  rw [e]
  exact OwN.int x (OwN.cons' ho (OwN.nil (B := w.heap.size) (C := w.heap.size) (by rw [e]; exact hb.size)) (Nat.le_refl _) hb.size)
theorem cs_code {w W : World} {R : Nat} (x : Int) (hR : w.heap.size ≤ R) (hb : Below w.heap.size w W) (u0 u1 : Value) :
    Res w [.int x, st_Chunk []] (.returned (.agg #[.int .i64 x, .slice none 0 0])) ((W.setCell ⟨R, 0, none⟩ u0).setCell ⟨R, 1, none⟩ u1) := by
  have e : ((W.setCell ⟨R, 0, none⟩ u0).setCell ⟨R, 1, none⟩ u1).heap.size = W.heap.size := by simp [World.setCell]
  refine ⟨[.int .i64 x, .slice none 0 0], rfl, OwN.int x ?_, bst (bst hb hR _) hR _⟩
  exact OwN.cons' (B := w.heap.size) (C := w.heap.size) ⟨Nat.le_refl _, by unfold st_Chunk Ow; exact ⟨none, 0, rfl, ⟨Nat.le_refl _, by simp⟩, .inl ⟨rfl, rfl⟩⟩⟩ (OwN.nil (by rw [e]; exact hb.size)) (Nat.le_refl _) (by rw [e]; exact hb.size)
theorem pcR_fault {id : Int} {key : List Int} {r : List ChunkM} (h1 : key.length ≤ 200) (h : mtF id r ≠ 0) : (pcR id key r).vs = [.int (mtF id r), st_Chunk []] := by simp [pcR, pcF, h1, h, ChunksResultM.vs]
theorem pcR_many {id : Int} {key : List Int} {r : List ChunkM} (h1 : ¬ key.length ≤ 200) : (pcR id key r).vs = [.int 2, st_Chunk []] := by simp [pcR, pcF, h1, ChunksResultM.vs]
theorem pcR_ok {id : Int} {key : List Int} {r : List ChunkM} (h1 : key.length ≤ 200) (h : mtF id r = 0) : (pcR id key r).vs = [.int 0, st_Chunk (pcL id key r)] := by simp [pcR, pcF, h1, h, ChunksResultM.vs]
theorem mtR_vs (id : Int) (r : List ChunkM) : ∃ l, (mtR id r).vs = [.int (mtF id r), .bs l] := by
  by_cases h : mtF id r = 0
  · exact ⟨txtL id r, by rw [mtR_ok h, h]; rfl⟩
  · exact ⟨[], by rw [mtR_no h]; rfl⟩
theorem fldBR7 (c : Int) (A : Option Addr) (n cp : Nat) (w : World) : (Instr.field 27 (.agg #[.int .i64 c, .slice A n cp]) 0).run Try.prog w = .ok (.int .i64 c) w := by kernel_rfl
set_option maxRecDepth 100000 in
set_option maxHeartbeats 4000000 in
theorem pc_spec (id : Int) (key : List Int) (vk : Value) (r : List ChunkM) (v : Value) (u : World) (hw : WfV (.int id)) (hk : Rd u (.bs key) vk) (hkb : WfV (.bs key)) (_ : tot (.bs key) ≤ 1048576) (h : Rd u (st_Chunk r) v) (hcb : WfV (st_Chunk r)) (ht : tot (st_Chunk r) ≤ 1048576) :
    Calls Try.prog 17 #[.int .i64 id, vk, v] u (Res u (pcR id key r).vs) := by
  have R0 := Blk.new u 37 #[.int .i64 0, .slice none 0 0]
  have b0 := bal (Below.refl u.heap.size u) (.cells #[.int .i64 0, .slice none 0 0] 37)
  obtain ⟨w0, hw0⟩ : ∃ w0, u.alloc (.cells #[.int .i64 0, .slice none 0 0] 37) = w0 := ⟨_, rfl⟩
  have hs0 : w0.heap.size = u.heap.size + 1 := by rw [← hw0]; simp
  rw [hw0] at R0 b0
  have HI := hidH (fun (w : World) (hb : Below u.heap.size u w) => Rd.below hb _ h)
  have HK := hidH (fun (w : World) (hb : Below u.heap.size u w) => Rd.below hb _ hk)
  have HW := hidH hw0
  have HS := hidH hs0
  have HR := hidH R0
  have HB := hidH b0
  have HKB := hidH hkb
  have HCB := hidH (st_Chunk_bytes hcb)
  have HMT := hidH (mt_spec id r v w0 hw (HI.out _ b0) hcb ht)
  obtain ⟨PK, ck, rfl⟩ := hk.bs_sh
  have hkm := rdB_len hk
  obtain ⟨x0, x1, xz⟩ := R0.two
  have f0 := R0.frozen 0
  have f1 := R0.frozen 1
  clear hw0 hs0 R0 b0 h hk hkb hcb ht hw
  by_cases h200 : key.length ≤ 200
  · have h2I : ¬ (200 : Int) < (key.length : Int) := by omega
    have H200 := hidH h200
    obtain ⟨l0, hl0⟩ := mtR_vs id r
    rw [hl0] at HMT
    obtain ⟨F, hF⟩ : ∃ F, mtF id r = F := ⟨_, rfl⟩
    rw [hF] at HMT
    clear h200 x0 x1 xz f0 f1 hl0
    go_enter Try.func17, Try.ntmps17
    go_wp2_with fail
    rw [HW.out]
    refine HMT.out.mono ?_
    rintro e w1 ⟨vs, rfl, O1, b1⟩
    obtain ⟨A1, c1, rfl⟩ := shape_BytesResult O1.rd
    have hfl := fldBR7 F A1 l0.length c1 w1
    have HB1 := hidH (btr HB.out b1)
    have HR1 := hidH (HR.out.below b1)
    have HZ1 := hidH b1.size
    clear O1 b1 HMT
    by_cases hz : F = 0
    · have q : (F != 0) = false := by rw [bne_eq_false_iff_eq]; exact hz
      have H0 := hidH (hF.trans hz)
      have HP := hidH (l7Protect_any id key r PK ck v w1 (rdB (HK.out _ HB1.out)) (HI.out _ HB1.out) (mtF_zero H0.out).1.1 (by have := (mtF_zero H0.out).1.2; omega) HKB.out (by have := H200.out; omega) (cmsF_ok (csF_zero (mtF_zero H0.out).2.1).2) HCB.out (by have := (csF_zero (mtF_zero H0.out).2.1).1; omega))
      have HM := hidH (pcR_ok H200.out H0.out)
      obtain ⟨z, hzz⟩ : ∃ z, pcL id key r = z := ⟨_, rfl⟩
      rw [hzz] at HP HM
      clear hz hF hzz
      go_wp2_with fail
      refine HP.out.mono ?_
      rintro e w2 ⟨v2, rfl, O2, b2⟩
      obtain ⟨A2, c2, rfl⟩ := st_Chunk_sh O2.rd
      have HB2 := hidH (btr HB1.out b2)
      have R2 := HR1.out.below b2
      obtain ⟨x0, x1, xz⟩ := R2.two
      have f0 := R2.frozen 0
      have f1 := R2.frozen 1
      have HO := hidH O2
      clear O2 b2 R2 HP hfl
      go_wp2
      exact bodyPost_ret (v := .agg #[.int .i64 0, .slice A2 z.length c2]) (by simp [results, Try.results17, go_sem, x0, x1]) rfl (by rw [HM.out]; exact cs_res 0 HO.out (by have := HS.out; have := HZ1.out; omega) (Nat.le_refl _) HB2.out _ _)
    · have q : (F != 0) = true := by rw [bne_iff_ne]; exact hz
      have HM := hidH (show (pcR id key r).vs = [.int F, st_Chunk []] by rw [pcR_fault H200.out (by rw [hF]; exact hz), hF])
      obtain ⟨x0, x1, xz⟩ := HR1.out.two
      have f0 := HR1.out.frozen 0
      have f1 := HR1.out.frozen 1
      clear hz hF
      go_wp2
      exact bodyPost_ret (v := .agg #[.int .i64 F, .slice none 0 0]) (by simp [results, Try.results17, go_sem, x0, x1]) rfl (by rw [HM.out]; exact cs_code F (Nat.le_refl _) HB1.out _ _)
  · have h2I : (200 : Int) < (key.length : Int) := by omega
    have HM := hidH (pcR_many (id := id) (r := r) h200)
    obtain ⟨y0, y1, yz⟩ := (Blk.new u 37 #[.int .i64 2, .slice none 0 0]).two
    have HBB := hidH (bal (Below.refl u.heap.size u) (.cells #[.int .i64 2, .slice none 0 0] 37))
    clear h200 HMT x0 x1 xz f0 f1
    go_enter Try.func17, Try.ntmps17
    go_wp2
    exact bodyPost_ret (v := .agg #[.int .i64 2, .slice none 0 0]) (by simp [results, Try.results17, go_sem, y0, y1]) rfl (by
      rw [HM.out]
      refine ⟨[.int .i64 2, .slice none 0 0], rfl, OwN.int 2 ?_, HBB.out⟩
      exact OwN.cons' (B := u.heap.size) (C := u.heap.size) ⟨Nat.le_refl _, by unfold st_Chunk Ow; exact ⟨none, 0, rfl, ⟨Nat.le_refl _, by simp⟩, .inl ⟨rfl, rfl⟩⟩⟩ (OwN.nil HBB.out.size) (Nat.le_refl _) HBB.out.size)
end Go.Proofs.Ytacdnednkglobaa
