import Derived.Test.YtncnibkojneejaaGreatDoorJb2
import Derived.Test.YtncnibkojneejaaGreatDoorJb8
import Derived.Test.YtncnibkojneejaaGreatDoorJa4
import Derived.Test.YtncnibkojneejaaGreatDoorJa8
import Derived.Test.YtncnibkojneejaaGreatDoorJa7
import Derived.WalkLawsBesides

/- Chapter 7: ProtectChunks, the model's. -/
namespace Go.Proofs.YtncnibkojneejaaGreatDoor
open Go.RowKit Go.Deep

/-- A ChunksResult by value. -/
theorem cs_res {w W : World} {R B : Nat} {r : List ChunkM} {v : Value} (x : Int) (hO : OwV B W.heap.size W (st_Chunk r) v) (hB : R + 1 ≤ B) (hR : w.heap.size ≤ R) (hb : Below w.heap.size w W) (u0 u1 : Value) :
    Res w [.int x, st_Chunk r] (.returned (.agg #[.int .i64 x, v])) ((W.setCell ⟨R, 0, none⟩ u0).setCell ⟨R, 1, none⟩ u1) := by
  have e : ((W.setCell ⟨R, 0, none⟩ u0).setCell ⟨R, 1, none⟩ u1).heap.size = W.heap.size := by simp [World.setCell]
  refine ⟨[.int .i64 x, v], rfl, ?_, bst (bst hb hR _) hR _⟩
  have ho := ((hO.win (set_win W R 0 u0) (.inr (by omega))).win (set_win _ R 1 u1) (.inr (by omega))).mono (B' := w.heap.size) (C' := W.heap.size) (by omega) (Nat.le_refl _) (by rw [e]; exact Nat.le_refl _)
  rw [e]
  exact OwN.int x (OwN.cons' ho (OwN.nil (B := w.heap.size) (C := w.heap.size) (by rw [e]; exact hb.size)) (Nat.le_refl _) hb.size)
theorem cs_code {w W : World} {R : Nat} (x : Int) (hR : w.heap.size ≤ R) (hb : Below w.heap.size w W) (u0 u1 : Value) :
    Res w [.int x, st_Chunk []] (.returned (.agg #[.int .i64 x, .slice none 0 0])) ((W.setCell ⟨R, 0, none⟩ u0).setCell ⟨R, 1, none⟩ u1) := by
  have e : ((W.setCell ⟨R, 0, none⟩ u0).setCell ⟨R, 1, none⟩ u1).heap.size = W.heap.size := by simp [World.setCell]
  refine ⟨[.int .i64 x, .slice none 0 0], rfl, OwN.int x ?_, bst (bst hb hR _) hR _⟩
  exact OwN.cons' (B := w.heap.size) (C := w.heap.size) ⟨Nat.le_refl _, by unfold st_Chunk Ow; exact ⟨none, 0, rfl, ⟨Nat.le_refl _, by simp⟩, .inl ⟨rfl, rfl⟩⟩⟩ (OwN.nil (by rw [e]; exact hb.size)) (Nat.le_refl _) (by rw [e]; exact hb.size)
theorem pcR_fault {id : Int} {key : List Int} {r : List ChunkM} (h1 : key.length ≤ 200) (h : mtF id r ≠ 0) : (pcR id key r).vs = [.int (mtF id r), st_Chunk []] := by simp [pcR, pcF, h1, h, ChunksResultM.vs]
theorem pcR_many {id : Int} {key : List Int} {r : List ChunkM} (h1 : ¬ key.length ≤ 200) : (pcR id key r).vs = [.int 2, st_Chunk []] := by simp [pcR, pcF, h1, ChunksResultM.vs]
theorem pcR_ok {id : Int} {key : List Int} {r : List ChunkM} (h1 : key.length ≤ 200) (h : mtF id r = 0) : (pcR id key r).vs = [.int 0, st_Chunk (pcL id key r)] := by simp [pcR, pcF, h1, h, ChunksResultM.vs]
theorem mtR_vs (id : Int) (r : List ChunkM) : ∃ l, (mtR id r).vs = [.int (mtF id r), .bs l] := by
  by_cases h : mtF id r = 0
  · exact ⟨txtL id r, by rw [mtR_ok h, h]; rfl⟩
  · exact ⟨[], by rw [mtR_no h]; rfl⟩
theorem fldBR7 (c : Int) (A : Option Addr) (n cp : Nat) (w : World) : (Instr.field 48 (.agg #[.int .i64 c, .slice A n cp]) 0).run Tryz.prog w = .ok (.int .i64 c) w := by kernel_rfl
set_option maxRecDepth 100000 in
set_option maxHeartbeats 4000000 in
theorem pc_spec (id : Int) (key : List Int) (vk : Value) (r : List ChunkM) (v : Value) (u : World) (hw : WfV (.int id)) (hk : Rd u (.bs key) vk) (hkb : WfV (.bs key)) (_ : tot (.bs key) ≤ 1048576) (h : Rd u (st_Chunk r) v) (hcb : WfV (st_Chunk r)) (ht : tot (st_Chunk r) ≤ 1048576) :
    Calls Tryz.prog 9 #[.int .i64 id, vk, v] u (Res u (pcR id key r).vs) := by
  have R0 := Blk.new u 28 #[.int .i64 0, .slice none 0 0]
  have b0 := bal (Below.refl u.heap.size u) (.cells #[.int .i64 0, .slice none 0 0] 28)
  obtain ⟨w0, hw0⟩ : ∃ w0, u.alloc (.cells #[.int .i64 0, .slice none 0 0] 28) = w0 := ⟨_, rfl⟩
  have hs0 : w0.heap.size = u.heap.size + 1 := by rw [← hw0]; simp
  rw [hw0] at R0 b0
  have HI := hidH (fun (w : World) (hb : Below u.heap.size u w) => Rd.below hb _ h)
  have HK := hidH (fun (w : World) (hb : Below u.heap.size u w) => Rd.below hb _ hk)
  have HW := hidH hw0
  have HS := hidH hs0
  have HR := hidH R0
  have HB := hidH b0
  have HKB := hidH hkb
  have HCB := hidH (st_Chunk_bytes hcb)
  have HMT := hidH (mt_spec id r v w0 hw (HI.out _ b0) hcb ht)
  obtain ⟨PK, ck, rfl⟩ := hk.bs_sh
  have hkm := rdB_len hk
  obtain ⟨x0, x1, xz⟩ := R0.two
  have f0 := R0.frozen 0
  have f1 := R0.frozen 1
  clear hw0 hs0 R0 b0 h hk hkb hcb ht hw
  by_cases h200 : key.length ≤ 200
  · have h2I : ¬ (200 : Int) < (key.length : Int) := by omega
    have H200 := hidH h200
    obtain ⟨l0, hl0⟩ := mtR_vs id r
    rw [hl0] at HMT
    obtain ⟨F, hF⟩ : ∃ F, mtF id r = F := ⟨_, rfl⟩
    rw [hF] at HMT
    clear h200 x0 x1 xz f0 f1 hl0
    go_enter Tryz.func9, Tryz.ntmps9
    go_wp2_with fail
    rw [HW.out]
    refine HMT.out.mono ?_
    rintro e w1 ⟨vs, rfl, O1, b1⟩
    obtain ⟨A1, c1, rfl⟩ := shape_BytesResult O1.rd
    have hfl := fldBR7 F A1 l0.length c1 w1
    have HB1 := hidH (btr HB.out b1)
    have HR1 := hidH (HR.out.below b1)
    have HZ1 := hidH b1.size
    clear O1 b1 HMT
    by_cases hz : F = 0
    · have q : (F != 0) = false := by rw [bne_eq_false_iff_eq]; exact hz
      have H0 := hidH (hF.trans hz)
      have HP := hidH (l7Protect_any id key r PK ck v w1 (rdB (HK.out _ HB1.out)) (HI.out _ HB1.out) (mtF_zero H0.out).1.1 (by have := (mtF_zero H0.out).1.2; omega) HKB.out (by have := H200.out; omega) (cmsF_ok (csF_zero (mtF_zero H0.out).2.1).2) HCB.out (by have := (csF_zero (mtF_zero H0.out).2.1).1; omega))
      have HM := hidH (pcR_ok H200.out H0.out)
      obtain ⟨z, hzz⟩ : ∃ z, pcL id key r = z := ⟨_, rfl⟩
      rw [hzz] at HP HM
      clear hz hF hzz
      go_wp2_with fail
      refine HP.out.mono ?_
      rintro e w2 ⟨v2, rfl, O2, b2⟩
      obtain ⟨A2, c2, rfl⟩ := st_Chunk_sh O2.rd
      have HB2 := hidH (btr HB1.out b2)
      have R2 := HR1.out.below b2
      obtain ⟨x0, x1, xz⟩ := R2.two
      have f0 := R2.frozen 0
      have f1 := R2.frozen 1
      have HO := hidH O2
      clear O2 b2 R2 HP hfl
      go_wp2
      exact bodyPost_ret (v := .agg #[.int .i64 0, .slice A2 z.length c2]) (by simp [results, Tryz.results9, go_sem, x0, x1]) rfl (by rw [HM.out]; exact cs_res 0 HO.out (by have := HS.out; have := HZ1.out; omega) (Nat.le_refl _) HB2.out _ _)
    · have q : (F != 0) = true := by rw [bne_iff_ne]; exact hz
      have HM := hidH (show (pcR id key r).vs = [.int F, st_Chunk []] by rw [pcR_fault H200.out (by rw [hF]; exact hz), hF])
      obtain ⟨x0, x1, xz⟩ := HR1.out.two
      have f0 := HR1.out.frozen 0
      have f1 := HR1.out.frozen 1
      clear hz hF
      go_wp2
      exact bodyPost_ret (v := .agg #[.int .i64 F, .slice none 0 0]) (by simp [results, Tryz.results9, go_sem, x0, x1]) rfl (by rw [HM.out]; exact cs_code F (Nat.le_refl _) HB1.out _ _)
  · have h2I : (200 : Int) < (key.length : Int) := by omega
    have HM := hidH (pcR_many (id := id) (r := r) h200)
    obtain ⟨y0, y1, yz⟩ := (Blk.new u 28 #[.int .i64 2, .slice none 0 0]).two
    have HBB := hidH (bal (Below.refl u.heap.size u) (.cells #[.int .i64 2, .slice none 0 0] 28))
    clear h200 HMT x0 x1 xz f0 f1
    go_enter Tryz.func9, Tryz.ntmps9
    go_wp2
    exact bodyPost_ret (v := .agg #[.int .i64 2, .slice none 0 0]) (by simp [results, Tryz.results9, go_sem, y0, y1]) rfl (by
      rw [HM.out]
      refine ⟨[.int .i64 2, .slice none 0 0], rfl, OwN.int 2 ?_, HBB.out⟩
      exact OwN.cons' (B := u.heap.size) (C := u.heap.size) ⟨Nat.le_refl _, by unfold st_Chunk Ow; exact ⟨none, 0, rfl, ⟨Nat.le_refl _, by simp⟩, .inl ⟨rfl, rfl⟩⟩⟩ (OwN.nil HBB.out.size) (Nat.le_refl _) HBB.out.size)
end Go.Proofs.YtncnibkojneejaaGreatDoor

/- Chapter 7: ProtectChunks, the program's. -/
namespace Go.Proofs.YtncnibkojneejaaGreatDoor
open Go.RowKit Go.Deep

set_option maxRecDepth 100000 in
set_option maxHeartbeats 4000000 in
theorem pc_impl (id : Int) (key : List Int) (vk : Value) (r : List ChunkM) (v : Value) (u : World) (hw : WfV (.int id)) (hk : Rd u (.bs key) vk) (hkb : WfV (.bs key)) (_ : tot (.bs key) ≤ 1048576) (h : Rd u (st_Chunk r) v) (hcb : WfV (st_Chunk r)) (ht : tot (st_Chunk r) ≤ 1048576) :
    Calls Tryz.prog 6 #[.int .i64 id, vk, v] u (Res u (pcR id key r).vs) := by
  have R0 := Blk.new u 28 #[.int .i64 0, .slice none 0 0]
  have b0 := bal (Below.refl u.heap.size u) (.cells #[.int .i64 0, .slice none 0 0] 28)
  obtain ⟨w0, hw0⟩ : ∃ w0, u.alloc (.cells #[.int .i64 0, .slice none 0 0] 28) = w0 := ⟨_, rfl⟩
  have hs0 : w0.heap.size = u.heap.size + 1 := by rw [← hw0]; simp
  rw [hw0] at R0 b0
  have HI := hidH (fun (w : World) (hb : Below u.heap.size u w) => Rd.below hb _ h)
  have HW := hidH hw0
  have HS := hidH hs0
  have HR := hidH R0
  have HB := hidH b0
  have HDG := hidH (fun (h200 : key.length ≤ 200) => digestOf_any id key vk r v w0 hw (Rd.below b0 _ hk) hkb h200 (HI.out _ b0) hcb ht)
  obtain ⟨PK, ck, rfl⟩ := hk.bs_sh
  have hkm := rdB_len hk
  obtain ⟨AR, cr, rfl⟩ := st_Chunk_sh h
  clear hw0 hs0 R0 b0 h hk hkb hcb ht hw
  by_cases h200 : key.length ≤ 200
  · have h2I : ¬ (200 : Int) < (key.length : Int) := by omega
    have H200 := hidH h200
    replace HDG := hidH (HDG.out h200)
    unfold DgR at HDG
    clear h200
    by_cases hz : mtF id r = 0
    · have H0 := hidH hz
      have hd : dgL id key r = hmL key (txtL id r) := by rw [dgL, if_pos hz]
      have hpl : pcL id key r = tagC id (hmL key (txtL id r)) :: r := rfl
      have hd32 := hmL_len key (txtL id r)
      rw [hd, hz] at HDG
      obtain ⟨D, hD⟩ : ∃ D, hmL key (txtL id r) = D := ⟨_, rfl⟩
      rw [hD] at HDG hd32 hpl
      have HM := hidH (pcR_ok H200.out H0.out)
      rw [hpl] at HM
      have HD32 := hidH hd32
      have HID := hidH (mtF_zero H0.out).1
      have HN := hidH (csF_zero (mtF_zero H0.out).2.1).1
      have HC := hidH (cmsF_ok (csF_zero (mtF_zero H0.out).2.1).2)
      have hnI : (r.length : Int) ≤ 7 := by have := HN.out; omega
      clear hz hd hpl hd32 hD
      go_enter Tryz.func6, Tryz.ntmps6
      go_wp2_with fail
      rw [HW.out]
      refine HDG.out.mono ?_
      rintro e w1 ⟨A1, c1, rfl, s1, b1⟩
      have ba := bal (Below.refl w1.heap.size w1) (.cells #[.int .i64 0, .slice A1 D.length c1] 48)
      have KT := Blk.new w1 48 #[.int .i64 0, .slice A1 D.length c1]
      have SD := bs_below s1 ba
      obtain ⟨w2, hw2⟩ : ∃ w2, w1.alloc (.cells #[.int .i64 0, .slice A1 D.length c1] 48) = w2 := ⟨_, rfl⟩
      rw [hw2] at ba KT SD
      have HW2 := hidH hw2
      have HT := hidH (tagChunk_any id D A1 c1 w2 SD HID.out.1 (by have := HID.out; omega) (by rw [HD32.out]; omega))
      have HB2 := hidH (btr (btr HB.out b1) ba)
      have HR2 := hidH ((HR.out.below b1).below ba)
      have HZ2 := hidH (show u.heap.size + 1 ≤ w2.heap.size by have := HS.out; have := b1.size; have := ba.size; omega)
      obtain ⟨y0, y1, yz⟩ := KT.two
      have hlt := KT.lt
      clear s1 b1 ba KT SD hw2 HDG
      go_wp2_with fail
      rw [HW2.out]
      go_wp2_with fail
      refine HT.out.mono ?_
      rintro e w3 ⟨A3, c3, rfl, o3, b3⟩
      obtain ⟨lo, hi, hlo, hkt⟩ := RT.of_row o3 b3.size [.int 15, .int 0]
      have ba := bal (Below.refl w3.heap.size w3) (.cells #[.int .i64 15, .int .i64 0, .slice A3 (tagB id D).length c3] 37)
      have HO4 := hidH (show (w3.alloc (.cells #[.int .i64 15, .int .i64 0, .slice A3 (tagB id D).length c3] 37)).ownsRow (u.heap.size + 1) 37 3 (.slice (some ⟨w3.heap.size, 0, none⟩) 1 1) 1 (flatR [ckE (tagC id D) (.slice A3 (tagB id D).length c3) lo hi]) from
        own_monoT (World.ownsRow_lit w3 #[.int .i64 15, .int .i64 0, .slice A3 (tagB id D).length c3] 1 (Nat.le_refl _) (by unfold maxLen; omega) rfl) (Nat.le_trans HZ2.out b3.size))
      have HT4 := hidH ((RTs.nil (u.heap.size + 1) _).snoc (x := ckE (tagC id D) (.slice A3 (tagB id D).length c3) lo hi) (hkt.turn ba.size (B8.of_below ba)) (Nat.le_trans HZ2.out hlo) (fun y hy => by simp at hy))
      have HB4 := hidH (btr (btr HB2.out b3) ba)
      have HR4 := hidH ((HR2.out.below b3).below ba)
      have HQ4 := hidH (RowCk.nil.snoc (tagC id D) (.slice A3 (tagB id D).length c3) lo hi)
      obtain ⟨w4, hw4⟩ : ∃ w4, w3.alloc (.cells #[.int .i64 15, .int .i64 0, .slice A3 (tagB id D).length c3] 37) = w4 := ⟨_, rfl⟩
      rw [hw4] at HO4 HT4 HB4 HR4
      have HW4 := hidH hw4
      have HTN := hidH (tagB_len id D)
      unfold ckV
      clear o3 b3 hlo hkt ba hw4 HT y0 y1 yz hlt
      go_wp2_with fail
      rw [HW4.out]
      go_loopw [8, 32] (fun v i wr => ∃ (j : Nat) (q : List RowE), j ≤ r.length ∧ i = .int .i64 j ∧ RowCk q ((tagC id D :: r).take (j + 1)) ∧ wr.ownsRow (u.heap.size + 1) 37 3 v (j + 1) (flatR q) ∧ RTs (u.heap.size + 1) wr q ∧ Blk wr u.heap.size 28 #[.int .i64 0, .slice none 0 0] ∧ Below u.heap.size u wr) (fun _ i _ => r.length - (intOf i).toNat)
      case atStart => exact ⟨0, _, by omega, rfl, HQ4.out, HO4.out, HT4.out, HR4.out, HB4.out⟩
      case round =>
        obtain ⟨j, q, hj, rfl, hq, ho, hk, hR, hB⟩ := hrel
        have hj0 : (0 : Int) ≤ (j : Int) := by omega
        by_cases hlt : j < r.length
        · have hj1 : (j : Int) < (r.length : Int) := by omega
          obtain ⟨g, o, c', B, cB, e, CK, hbl⟩ := chunk_at (HI.out _ hB) hlt
          injection e with e1 e2 e3
          subst e1 e3
          have hok := HC.out r[j] (List.getElem_mem hlt)
          have p0 := CK.c0
          have p1 := CK.c1
          have p2 := CK.c2
          have hg := CK.lt
          have ba := bal (Below.refl wr.heap.size wr) (.cells #[.int .i64 r[j].Kind, .int .i64 r[j].Flags, .slice B r[j].Body.length cB] 37)
          have KC := Blk.new wr 37 #[.int .i64 r[j].Kind, .int .i64 r[j].Flags, .slice B r[j].Body.length cB]
          have hcl := clone_any B r[j].Body cB _ (bs_below CK.body ba) (by have := hok.2.2; omega)
          obtain ⟨w5, hw5⟩ : ∃ w5, wr.alloc (.cells #[.int .i64 r[j].Kind, .int .i64 r[j].Flags, .slice B r[j].Body.length cB] 37) = w5 := ⟨_, rfl⟩
          rw [hw5] at ba KC hcl
          have HCL := hidH hcl
          have HO5 := hidH (own_below0 ho ba)
          have HT5 := hidH (hk.turn ba.size (B8.of_below ba))
          have HR5 := hidH (hR.below ba)
          have HB5 := hidH (btr hB ba)
          have HZ5 := hidH (show u.heap.size + 1 ≤ wr.heap.size ∧ wr.heap.size < w5.heap.size from ⟨hR.lt, KC.lt⟩)
          have HQ := hidH hq
          have HW5 := hidH hw5
          have KK := hidH KC
          have HLT := hidH hlt
          have z0 := KC.cell 0
          have z1 := KC.cell 1
          have zz := KC.cell 2
          simp only [List.getElem?_toArray, List.getElem?_cons_succ, List.getElem?_cons_zero] at z0 z1 zz
          have HOB := hidH (fun k hk' => (ho.lt k hk').2)
          have hl5 := KC.lt
          clear CK hok hbl hq ho hk hR hB ba KC hcl hw5
          go_wp2_with fail
          rw [HW5.out]
          go_wp2_with fail
          refine HCL.out.mono ?_
          rintro e w6 ⟨v6, rfl, o6, b6⟩
          obtain ⟨A6, c6, rfl⟩ := own_lenT o6
          have K6 := KK.out.below b6
          have y0 := K6.cell 0
          have y1 := K6.cell 1
          have y2 := K6.cell 2
          have f2 := K6.frozen 2
          simp only [List.getElem?_toArray, List.getElem?_cons_succ, List.getElem?_cons_zero] at y0 y1 y2
          have hl6 := K6.lt
          obtain ⟨lo2, hi2, hlo2, hkt2⟩ := RT.of_row o6 b6.size [.int r[j].Kind, .int r[j].Flags]
          have hws := set_win w6 wr.heap.size 2 (.slice A6 r[j].Body.length c6)
          have hu6 : B8 w6 (w6.setCell ⟨wr.heap.size, 2, none⟩ (.slice A6 r[j].Body.length c6)) := B8.of_win hws K6 (by decide)
          have hs6 : (w6.setCell ⟨wr.heap.size, 2, none⟩ (.slice A6 r[j].Body.length c6)).heap.size = w6.heap.size := by simp [World.setCell]
          have ba := bal (Below.refl (w6.setCell ⟨wr.heap.size, 2, none⟩ (.slice A6 r[j].Body.length c6)).heap.size (w6.setCell ⟨wr.heap.size, 2, none⟩ (.slice A6 r[j].Body.length c6))) (.cells #[.int .i64 r[j].Kind, .int .i64 r[j].Flags, .slice A6 r[j].Body.length c6] 37)
          have KB := hidH (show Blk ((w6.setCell ⟨wr.heap.size, 2, none⟩ (.slice A6 r[j].Body.length c6)).alloc (.cells #[.int .i64 r[j].Kind, .int .i64 r[j].Flags, .slice A6 r[j].Body.length c6] 37)) w6.heap.size 37 #[.int .i64 r[j].Kind, .int .i64 r[j].Flags, .slice A6 r[j].Body.length c6] from
            hs6 ▸ Blk.new (w6.setCell ⟨wr.heap.size, 2, none⟩ (.slice A6 r[j].Body.length c6)) 37 #[.int .i64 r[j].Kind, .int .i64 r[j].Flags, .slice A6 r[j].Body.length c6])
          have HO7 := hidH (own_below0 (own_set (own_below0 HO5.out b6) (g := wr.heap.size) (fun k hk' => Nat.ne_of_lt (HOB.out k hk')) 2 (.slice A6 r[j].Body.length c6)) ba)
          have HR7 := hidH (((HR5.out.below b6).far (p := ⟨wr.heap.size, 2, none⟩) (by show wr.heap.size ≠ u.heap.size; have := HZ5.out.1; omega) (.slice A6 r[j].Body.length c6)).below ba)
          have HB7 := hidH (btr (bst (btr HB5.out b6) (p := ⟨wr.heap.size, 2, none⟩) (by show u.heap.size ≤ wr.heap.size; have := HZ5.out.1; omega) (.slice A6 r[j].Body.length c6)) ba)
          have hu7 := hu6.trans (B8.of_below ba)
          have hz7 : w6.heap.size ≤ ((w6.setCell ⟨wr.heap.size, 2, none⟩ (.slice A6 r[j].Body.length c6)).alloc (.cells #[.int .i64 r[j].Kind, .int .i64 r[j].Flags, .slice A6 r[j].Body.length c6] 37)).heap.size := by have := ba.size; omega
          have HT7 := hidH (((HT5.out.turn b6.size (B8.of_below b6)).snoc (x := ckE r[j] (.slice A6 r[j].Body.length c6) lo2 hi2) hkt2 (by have := HZ5.out; show u.heap.size + 1 ≤ lo2; omega) (fun y hy => Nat.le_trans (HT5.out.top y hy) hlo2)).turn hz7 hu7)
          have hsz7 : u.heap.size + 1 ≤ ((w6.setCell ⟨wr.heap.size, 2, none⟩ (.slice A6 r[j].Body.length c6)).alloc (.cells #[.int .i64 r[j].Kind, .int .i64 r[j].Flags, .slice A6 r[j].Body.length c6] 37)).heap.size := by have := HZ5.out; have := b6.size; omega
          have hj9 : j + 1 ≤ 90000 := by have := HN.out; omega
          clear o6 b6 K6 hkt2 hws hu6 hu7 hs6 ba z0 z1 zz HCL
          go_wp2_with (at_builtin; go_loud (refine wpList_append_Ck rfl _ _ rfl (u.heap.size + 1) _ (j + 1) (flatR q) rfl HO7.out w6.heap.size _ r[j].Kind r[j].Flags A6 r[j].Body.length c6 rfl KB.out hj9 hsz7 ?_))
          intro v8 w8 o8 g8
          have HB8 := hidH (show Below u.heap.size u w8 from HB7.out.grown g8 (by omega) (fun x hx => Nat.le_trans (Nat.le_succ _) (HO7.out.lt x hx).1))
          have HR8 := hidH (show Blk w8 u.heap.size 28 #[.int .i64 0, .slice none 0 0] from (g8.block _ HR7.out.lt (fun q => by have := (HO7.out.lt _ q.symm).1; omega)).trans HR7.out)
          have HT8 := hidH (HT7.out.turn g8.size (B8.of_grown g8 HO7.out (by decide)))
          have HO8 := hidH (show w8.ownsRow (u.heap.size + 1) 37 3 v8 (j + 1 + 1) (flatR (q ++ [ckE r[j] (.slice A6 r[j].Body.length c6) lo2 hi2])) by rw [flatR_app]; exact o8)
          have HQ8 := hidH (show RowCk (q ++ [ckE r[j] (.slice A6 r[j].Body.length c6) lo2 hi2]) ((tagC id D :: r).take (j + 1 + 1)) from HQ.out.take (r := tagC id D :: r) (j := j + 1) (by simpa using HLT.out) _ _ _)
          clear o8 g8 hsz7 hz7 hlo2
          go_wp2
          go_roundw
          case rel => exact ⟨j + 1, _, HLT.out, by go_num, HQ8.out, HO8.out, HT8.out, HR8.out, HB8.out⟩
          case measure => simp [intOf]; omega
        · obtain rfl : j = r.length := by omega
          rw [List.take_of_length_le (by simp)] at hq
          have HO := hidH (RowCk.own (r := tagC id D :: r) hq ho (Nat.le_refl _) hk)
          obtain ⟨A8, c8, rfl⟩ := own_lenT ho
          obtain ⟨x0, x1, xz⟩ := hR.two
          have f0 := hR.frozen 0
          have f1 := hR.frozen 1
          have HBW := hidH hB
          clear hq ho hk hR hB hlt hj
          go_wp2
          exact bodyPost_ret (v := .agg #[.int .i64 0, .slice A8 (r.length + 1) c8]) (by simp [results, Tryz.results6, go_sem, x0, x1]) rfl (by rw [HM.out]; exact cs_res 0 HO.out (Nat.le_refl _) (Nat.le_refl _) HBW.out _ _)
    · have hd : dgL id key r = [] := by rw [dgL, if_neg hz]
      have HM := hidH (pcR_fault H200.out hz)
      rw [hd] at HDG
      obtain ⟨F, hF⟩ : ∃ F, mtF id r = F := ⟨_, rfl⟩
      rw [hF] at HDG hz HM
      have q : (F != 0) = true := by rw [bne_iff_ne]; exact hz
      clear hd hF hz
      go_enter Tryz.func6, Tryz.ntmps6
      go_wp2_with fail
      rw [HW.out]
      refine HDG.out.mono ?_
      rintro e w1 ⟨A1, c1, rfl, _, b1⟩
      have ba := bal (Below.refl w1.heap.size w1) (.cells #[.int .i64 F, .slice A1 0 c1] 48)
      have KT := hidH (Blk.new w1 48 #[.int .i64 F, .slice A1 0 c1])
      have HB1 := hidH (btr (btr HB.out b1) ba)
      have HR1 := hidH ((HR.out.below b1).below ba)
      obtain ⟨y0, y1, yz⟩ := KT.out.two
      have hlt := KT.out.lt
      obtain ⟨x0, x1, xz⟩ := HR1.out.two
      have f0 := HR1.out.frozen 0
      have f1 := HR1.out.frozen 1
      clear b1 ba HDG
      go_wp2
      exact bodyPost_ret (v := .agg #[.int .i64 F, .slice none 0 0]) (by simp [results, Tryz.results6, go_sem, x0, x1]) rfl (by rw [HM.out]; exact cs_code F (Nat.le_refl _) HB1.out _ _)
  · have h2I : (200 : Int) < (key.length : Int) := by omega
    have HM := hidH (pcR_many (id := id) (r := r) h200)
    obtain ⟨y0, y1, yz⟩ := (Blk.new u 28 #[.int .i64 2, .slice none 0 0]).two
    have HBB := hidH (bal (Below.refl u.heap.size u) (.cells #[.int .i64 2, .slice none 0 0] 28))
    clear h200 HDG
    go_enter Tryz.func6, Tryz.ntmps6
    go_wp2
    exact bodyPost_ret (v := .agg #[.int .i64 2, .slice none 0 0]) (by simp [results, Tryz.results6, go_sem, y0, y1]) rfl (by
      rw [HM.out]
      refine ⟨[.int .i64 2, .slice none 0 0], rfl, OwN.int 2 ?_, HBB.out⟩
      exact OwN.cons' (B := u.heap.size) (C := u.heap.size) ⟨Nat.le_refl _, by unfold st_Chunk Ow; exact ⟨none, 0, rfl, ⟨Nat.le_refl _, by simp⟩, .inl ⟨rfl, rfl⟩⟩⟩ (OwN.nil HBB.out.size) (Nat.le_refl _) HBB.out.size)
end Go.Proofs.YtncnibkojneejaaGreatDoor

/- The model's l1PairAt. -/
namespace Go.Proofs.YtncnibkojneejaaGreatDoor
open Go.RowKit Go.Deep

set_option maxHeartbeats 1000000 in
theorem l1PairAt_any (b off n c : Nat) (k : Nat) (p q : Int) (w : World) (hc : k + 2 ≤ n) (hm : (n : Int) ≤ 9223372036854775807)
    (hp : w.cell? ⟨b, off + k, none⟩ = some (.int .u8 p)) (hq : w.cell? ⟨b, off + (k + 1), none⟩ = some (.int .u8 q))
    (p0 : 0 ≤ p) (p1 : p ≤ 255) (q0 : 0 ≤ q) (q1 : q ≤ 255) :
    Calls Tryz.prog 37 #[.slice (some ⟨b, off, none⟩) n c, .int .i64 k] w fun e w' => e = .returned (.int .i64 (p * 256 + q)) ∧ ∃ m, w.drewN m = w' := by
  have i1 : IntKind.i64.wrap ((k : Int) + 1) = (k : Int) + 1 := IntWalk.i64_in _ (by omega)
  have t1 : ((k : Int) + 1).toNat = k + 1 := by omega
  have b0 : (k : Int) < (n : Int) := by omega
  have b1 : (k : Int) + 1 < (n : Int) := by omega
  have g1 : 0 ≤ (k : Int) + 1 := by omega
  go_enter Tryz.func37, Tryz.ntmps37
  go_wp2
  go_quiet (fail)
  go_wp2
  go_ret
  exact ⟨rfl, _, rfl⟩
end Go.Proofs.YtncnibkojneejaaGreatDoor

/- Chapter 7: the model's FindAuth. -/
namespace Go.Proofs.YtncnibkojneejaaGreatDoor
open Go.RowKit Go.Deep

/-- An AuthResult by value. -/
theorem ar_res {w W : World} (a b c : Int) (hb : Below w.heap.size w W) : Res w [.int a, .int b, .int c] (.returned (.agg #[.int .i64 a, .int .i64 b, .int .i64 c])) W :=
  ⟨[.int .i64 a, .int .i64 b, .int .i64 c], rfl, OwN.int a (OwN.int b (OwN.int c (OwN.nil (Nat.le_refl _)))), hb⟩
theorem faL_skip {r : List ChunkM} {j : Nat} (h : ∀ x ∈ r.take j, x.Kind ≠ 15) : faL r 0 = faL (r.drop j) j := by rw [faL_step r 0 j h, Nat.zero_add]
theorem faL_hit {r : List ChunkM} {j : Nat} {x : ChunkM} (h : ∀ x ∈ r.take j, x.Kind ≠ 15) (hx : r[j]? = some x) (hk : x.Kind = 15) : faL r 0 = if isTag x then ⟨0, pairAt x.Body 0, (j : Int) + 1⟩ else ⟨5, 0, 0⟩ := by
  obtain ⟨hj, rfl⟩ := List.getElem?_eq_some_iff.1 hx
  rw [faL_skip h, List.drop_eq_getElem_cons hj, faL, if_pos hk]
theorem faL_none {r : List ChunkM} (h : ∀ x ∈ r, x.Kind ≠ 15) : faL r 0 = ⟨4, 0, 0⟩ := by
  rw [faL_skip (j := r.length) (by rw [List.take_length]; exact h), List.drop_length]; rfl
theorem take_next {r : List ChunkM} {j : Nat} {y : ChunkM} (h : ∀ x ∈ r.take j, x.Kind ≠ 15) (hy : r[j]? = some y) (hk : y.Kind ≠ 15) : ∀ x ∈ r.take (j + 1), x.Kind ≠ 15 := fun x hx => by
  rw [List.take_add_one, hy] at hx
  rcases List.mem_append.1 hx with hx | hx
  · exact h x hx
  · simp at hx; rw [hx]; exact hk
theorem pairAt_rd {w : World} {A : Option Addr} {l : List Int} {c : Nat} (h : Bs w A l) (hb : Bytes l) (hl : 2 ≤ l.length) (hm : (l.length : Int) ≤ 9223372036854775807) :
    Calls Tryz.prog 37 #[.slice A l.length c, .int .i64 0] w fun e w' => e = .returned (.int .i64 (pairAt l 0)) ∧ ∃ m, w.drewN m = w' := by
  rcases h with h | ⟨b, off, rfl, _, h3⟩
  · rw [h] at hl; simp at hl
  · have h0 := h3 0 (by omega)
    have h1 := h3 1 (by omega)
    exact l1PairAt_any b off l.length c 0 _ _ w (by omega) hm h0 h1 (hb.get 0).1 (hb.get 0).2 (hb.get 1).1 (hb.get 1).2
set_option maxRecDepth 100000 in
set_option maxHeartbeats 4000000 in
theorem fa_spec (r : List ChunkM) (v : Value) (u : World) (h : Rd u (st_Chunk r) v) (hcb : ∀ x ∈ r, Bytes x.Body) : Calls Tryz.prog 12 #[v] u (Res u (faR r).vs) := by
  have R0 := Blk.new u 33 #[.int .i64 0, .int .i64 0, .int .i64 0]
  have b0 := bal (Below.refl u.heap.size u) (.cells #[.int .i64 0, .int .i64 0, .int .i64 0] 33)
  obtain ⟨w0, hw0⟩ : ∃ w0, u.alloc (.cells #[.int .i64 0, .int .i64 0, .int .i64 0] 33) = w0 := ⟨_, rfl⟩
  rw [hw0] at R0 b0
  have HI := hidH (fun (w : World) (hb : Below u.heap.size u w) => Rd.below hb _ h)
  have HW := hidH hw0
  have HR := hidH R0
  have HB := hidH b0
  have HCB := hidH hcb
  have HCF := hidH (l7Chunks_any r v 8 w0 (HI.out _ b0) (by omega))
  obtain ⟨AR, cr, rfl⟩ := st_Chunk_sh h
  have hm : (r.length : Int) ≤ 9223372036854775807 := Rd.st_len h
  clear hw0 R0 b0 h hcb
  obtain ⟨F, hF⟩ : ∃ F, csF 8 r = F := ⟨_, rfl⟩
  rw [hF] at HCF
  go_enter Tryz.func12, Tryz.ntmps12
  go_wp2_with fail
  rw [HW.out]
  refine HCF.out.mono ?_
  rintro e w1 ⟨rfl, b1⟩
  have HB1 := hidH (btr HB.out b1)
  have HR1 := hidH (HR.out.below b1)
  clear b1 HCF
  by_cases hz : F = 0
  · have q : (F != 0) = false := by rw [bne_eq_false_iff_eq]; exact hz
    have HM := hidH (show faR r = faL r 0 by rw [faR, if_pos (hF.trans hz)])
    have HN := hidH (csF_zero (hF.trans hz)).1
    have hnI : (r.length : Int) ≤ 8 := by have := HN.out; omega
    clear hz hF hm
    go_wp2_with fail
    go_loopw [4] (fun i wr => ∃ j : Nat, j ≤ r.length ∧ i = .int .i64 j ∧ (∀ x ∈ r.take j, x.Kind ≠ 15) ∧ Blk wr u.heap.size 33 #[.int .i64 0, .int .i64 0, .int .i64 0] ∧ Below u.heap.size u wr) (fun i _ => r.length - (intOf i).toNat)
    case atStart => exact ⟨0, by omega, rfl, fun x hx => by simp at hx, HR1.out, HB1.out⟩
    case round =>
      obtain ⟨j, hj, rfl, hk, hR, hB⟩ := hrel
      by_cases hlt : j < r.length
      · have hj0 : (0 : Int) ≤ (j : Int) := by omega
        have hj1 : (j : Int) < (r.length : Int) := by omega
        obtain ⟨k, f, l, g, o, c', B, cB, hx, e, CK, hbl⟩ := chunk_x (HI.out _ hB) hlt
        injection e with e1 e2 e3
        subst e1 e3
        have p0 := CK.c0
        have p1 := CK.c1
        have p2 := CK.c2
        have hg := CK.lt
        have ba := bal (Below.refl wr.heap.size wr) (.cells #[.int .i64 k, .int .i64 f, .slice B l.length cB] 37)
        have KC := Blk.new wr 37 #[.int .i64 k, .int .i64 f, .slice B l.length cB]
        obtain ⟨w5, hw5⟩ : ∃ w5, wr.alloc (.cells #[.int .i64 k, .int .i64 f, .slice B l.length cB] 37) = w5 := ⟨_, rfl⟩
        rw [hw5] at ba KC
        have HBS := hidH (bs_below CK.body ba)
        have HBY := hidH (HCB.out _ (List.mem_of_getElem? hx))
        have HK := hidH hk
        have HR5 := hidH (hR.below ba)
        have HB5 := hidH (btr hB ba)
        have HW5 := hidH hw5
        have HKC := hidH KC
        have HLT := hidH hlt
        have HHIT := hidH (fun (q : k = 15) => faL_hit hk hx q)
        have HNXT := hidH (fun (q : k ≠ 15) => take_next hk hx q)
        clear CK hk hR hB ba KC hw5 hx
        by_cases hkd : k = 15
        · have HE := hidH (HM.out.trans (HHIT.out hkd))
          subst hkd
          have z0 := HKC.out.cell 0
          have z1 := HKC.out.cell 1
          have z2 := HKC.out.cell 2
          simp only [List.getElem?_toArray, List.getElem?_cons_succ, List.getElem?_cons_zero] at z0 z1 z2
          have hl5 := HKC.out.lt
          have HT5 := hidH (fun (q : isTag ⟨15, f, l⟩ = false) => show (faR r).vs = [.int 5, .int 0, .int 0] by rw [HE.out, q]; rfl)
          clear HNXT HHIT
          by_cases hf : f = 0
          · subst hf
            by_cases hl : l.length = 34
            · have ql : ((l.length : Int) != 34) = false := by rw [bne_eq_false_iff_eq]; omega
              have HPA := hidH (fun (w : World) (h : Bs w B l) => pairAt_rd (c := cB) h HBY.out (by omega) hbl)
              have HTT := hidH (show isTag ⟨15, 0, l⟩ = decide (pairAt l 0 ≤ 99) by simp [isTag, hl])
              obtain ⟨P, hP⟩ : ∃ P, pairAt l 0 = P := ⟨_, rfl⟩
              rw [hP] at HPA HTT
              have HPP := hidH hP
              clear hl hP hbl
              go_wp2_with fail
              rw [HW5.out]
              go_wp2_with fail
              refine (HPA.out _ HBS.out).mono ?_
              rintro e w6 ⟨rfl, m, rfl⟩
              have x0 := HR5.out.cell 0
              have x1 := HR5.out.cell 1
              have x2 := HR5.out.cell 2
              have f0 := HR5.out.frozen 0
              have f1 := HR5.out.frozen 1
              have f2 := HR5.out.frozen 2
              simp only [List.getElem?_toArray, List.getElem?_cons_succ, List.getElem?_cons_zero] at x0 x1 x2
              have hrl := HR5.out.lt
              have HB6 := hidH (below_drewN HB5.out m)
              have HBS6 := hidH (show Bs (w5.drewN m) B l from HBS.out)
              by_cases h99 : (99 : Int) < P
              · have HE5 := hidH (HT5.out (by rw [HTT.out]; exact decide_eq_false (by omega)))
                go_wp2
                exact bodyPost_ret (v := .agg #[.int .i64 5, .int .i64 0, .int .i64 0]) (by simp [results, Tryz.results12, go_sem, x0, x1, x2]) rfl (by rw [HE5.out]; exact ar_res 5 0 0 (bst (bst (bst HB6.out (Nat.le_refl _) _) (Nat.le_refl _) _) (Nat.le_refl _) _))
              · have h99' : P ≤ 99 := by omega
                have HE5 := hidH (show (faR r).vs = [.int 0, .int P, .int ((j : Int) + 1)] by
                  have h1 := HE.out
                  rw [HTT.out, decide_eq_true h99', if_pos rfl] at h1
                  rw [h1]
                  show [V.int 0, V.int (pairAt l 0), V.int ((j : Int) + 1)] = _
                  rw [HPP.out])
                clear h99
                go_wp2_with fail
                refine (HPA.out _ HBS6.out).mono ?_
                rintro e w7 ⟨rfl, m7, rfl⟩
                have HB7 := hidH (below_drewN HB5.out (m + m7))
                go_wp2
                exact bodyPost_ret (v := .agg #[.int .i64 0, .int .i64 P, .int .i64 ((j : Int) + 1)]) (by simp [results, Tryz.results12, go_sem, x0, x1, x2]) rfl (by rw [HE5.out]; exact ar_res 0 P _ (bst (bst (bst HB7.out (Nat.le_refl _) _) (Nat.le_refl _) _) (Nat.le_refl _) _))
            · have ql : ((l.length : Int) != 34) = true := by rw [bne_iff_ne]; omega
              have HE5 := hidH (HT5.out (by simp [isTag, hl]))
              have hR6 : Blk (wr.alloc (.cells #[.int .i64 15, .int .i64 0, .slice B l.length cB] 37)) u.heap.size 33 #[.int .i64 0, .int .i64 0, .int .i64 0] := by rw [HW5.out]; exact HR5.out
              have HB6 := hidH (show Below u.heap.size u (wr.alloc (.cells #[.int .i64 15, .int .i64 0, .slice B l.length cB] 37)) by rw [HW5.out]; exact HB5.out)
              clear z0 z1 z2 hl5
              have x0 := hR6.cell 0
              have x1 := hR6.cell 1
              have x2 := hR6.cell 2
              have f0 := hR6.frozen 0
              have f1 := hR6.frozen 1
              have f2 := hR6.frozen 2
              simp only [List.getElem?_toArray, List.getElem?_cons_succ, List.getElem?_cons_zero] at x0 x1 x2
              have hrl := hR6.lt
              clear hl
              go_wp2
              exact bodyPost_ret (v := .agg #[.int .i64 5, .int .i64 0, .int .i64 0]) (by simp [results, Tryz.results12, go_sem, x0, x1, x2]) rfl (by rw [HE5.out]; exact ar_res 5 0 0 (bst (bst (bst HB6.out (Nat.le_refl _) _) (Nat.le_refl _) _) (Nat.le_refl _) _))
          · have qf : (f != 0) = true := by rw [bne_iff_ne]; exact hf
            have HE5 := hidH (HT5.out (by simp [isTag, hf]))
            have hR6 : Blk (wr.alloc (.cells #[.int .i64 15, .int .i64 f, .slice B l.length cB] 37)) u.heap.size 33 #[.int .i64 0, .int .i64 0, .int .i64 0] := by rw [HW5.out]; exact HR5.out
            have HB6 := hidH (show Below u.heap.size u (wr.alloc (.cells #[.int .i64 15, .int .i64 f, .slice B l.length cB] 37)) by rw [HW5.out]; exact HB5.out)
            clear z0 z1 z2 hl5
            have x0 := hR6.cell 0
            have x1 := hR6.cell 1
            have x2 := hR6.cell 2
            have f0 := hR6.frozen 0
            have f1 := hR6.frozen 1
            have f2 := hR6.frozen 2
            simp only [List.getElem?_toArray, List.getElem?_cons_succ, List.getElem?_cons_zero] at x0 x1 x2
            have hrl := hR6.lt
            clear hf
            go_wp2
            exact bodyPost_ret (v := .agg #[.int .i64 5, .int .i64 0, .int .i64 0]) (by simp [results, Tryz.results12, go_sem, x0, x1, x2]) rfl (by rw [HE5.out]; exact ar_res 5 0 0 (bst (bst (bst HB6.out (Nat.le_refl _) _) (Nat.le_refl _) _) (Nat.le_refl _) _))
        · have qk : (k != 15) = true := by rw [bne_iff_ne]; exact hkd
          have HN2 := hidH (HNXT.out hkd)
          have z0 := HKC.out.cell 0
          simp only [List.getElem?_toArray, List.getElem?_cons_zero] at z0
          have hl5 := HKC.out.lt
          clear hkd HNXT HHIT
          go_wp2_with fail
          rw [HW5.out]
          go_wp2_with fail
          go_roundw
          case rel => exact ⟨j + 1, by omega, by go_num, HN2.out, HR5.out, HB5.out⟩
          case measure => simp [intOf]; omega
      · obtain rfl : j = r.length := by omega
        rw [List.take_length] at hk
        have HE := hidH (show (faR r).vs = [.int 4, .int 0, .int 0] by rw [HM.out, faL_none hk]; rfl)
        have x0 := hR.cell 0
        have x1 := hR.cell 1
        have x2 := hR.cell 2
        have f0 := hR.frozen 0
        have f1 := hR.frozen 1
        have f2 := hR.frozen 2
        simp only [List.getElem?_toArray, List.getElem?_cons_succ, List.getElem?_cons_zero] at x0 x1 x2
        have hrl := hR.lt
        have HBW := hidH hB
        clear hk hR hB hlt hj
        go_wp2
        exact bodyPost_ret (v := .agg #[.int .i64 4, .int .i64 0, .int .i64 0]) (by simp [results, Tryz.results12, go_sem, x0, x1, x2]) rfl (by rw [HE.out]; exact ar_res 4 0 0 (bst (bst (bst HBW.out (Nat.le_refl _) _) (Nat.le_refl _) _) (Nat.le_refl _) _))
  · have q : (F != 0) = true := by rw [bne_iff_ne]; exact hz
    have HM := hidH (show (faR r).vs = [.int F, .int 0, .int 0] by rw [faR, if_neg (by rw [hF]; exact hz), hF]; rfl)
    have x0 := HR1.out.cell 0
    have x1 := HR1.out.cell 1
    have x2 := HR1.out.cell 2
    have f0 := HR1.out.frozen 0
    have f1 := HR1.out.frozen 1
    have f2 := HR1.out.frozen 2
    simp only [List.getElem?_toArray, List.getElem?_cons_succ, List.getElem?_cons_zero] at x0 x1 x2
    have hrl := HR1.out.lt
    clear hz hF
    go_wp2
    exact bodyPost_ret (v := .agg #[.int .i64 F, .int .i64 0, .int .i64 0]) (by simp [results, Tryz.results12, go_sem, x0, x1, x2]) rfl (by rw [HM.out]; exact ar_res F 0 0 (bst (bst (bst HB1.out (Nat.le_refl _) _) (Nat.le_refl _) _) (Nat.le_refl _) _))
end Go.Proofs.YtncnibkojneejaaGreatDoor

/- The program's byteReader: take, number, pair, word. -/
namespace Go.Proofs.YtncnibkojneejaaGreatDoor
open Go.RowKit Go.Deep

/-- A reader in block r: what is left to read is l. -/
def RdB (w : World) (r : Nat) (l : List Int) : Prop :=
  ∃ A c, Blk w r 105 #[.slice A l.length c] ∧ Bs w A l ∧ l.length ≤ c ∧ (c : Int) ≤ 9223372036854775807 ∧ ∀ a, A = some a → a.block < r
theorem RdB.below {w w' : World} {r : Nat} {l : List Int} (h : RdB w r l) (hb : Below w.heap.size w w') : RdB w' r l := by
  obtain ⟨A, c, h1, h2, h3⟩ := h
  exact ⟨A, c, h1.below hb, bs_below h2 hb, h3⟩
theorem RdB.lt {w : World} {r : Nat} {l : List Int} (h : RdB w r l) : r < w.heap.size := by
  obtain ⟨A, c, h1, _⟩ := h
  exact h1.lt
theorem win_all {B C B' C' : Nat} {w w' : World} (h : Win B C w w') (hB : B' ≤ B) (hC : C ≤ C') : Win B' C' w w' :=
  ⟨h.os, h.tape, h.output, h.size, fun k hk ho => h.block k hk (by omega), h.frozen⟩
/-- The text's own panic. -/
def PanE (E : Value) : Ending := .panicked [{ v := E, recovered := false }]
set_option maxHeartbeats 1000000 in
theorem take_ok (r n : Nat) (l : List Int) (w : World) (h : RdB w r l) (hn : n ≤ l.length) :
    Calls Tryz.prog 98 #[.pointer (some ⟨r, 0, none⟩), .int .i64 (n : Int)] w fun e w' => ∃ A c, e = .returned (.slice A n c) ∧ Bs w' A (l.take n) ∧ n ≤ c ∧ (∀ a, A = some a → a.block < r) ∧ RdB w' r (l.drop n) ∧ Win r (r + 1) w w' ∧ w'.heap.size = w.heap.size := by
  obtain ⟨A, c, K, hA, hc, hcm, hf⟩ := h
  have c0 := K.cell 0
  have f0 := K.frozen 0
  have hlt := K.lt
  simp only [List.getElem?_toArray, List.getElem?_cons_zero] at c0
  have s1 := fun u => cut_h A l.length c n (n : Int) rfl (by omega) u
  have s2 := fun u => cut_l A l.length c n (n : Int) rfl hn u
  have HK := hidH K
  have HA := hidH (And.intro hA (And.intro hc (And.intro hcm hf)))
  have hnI : (n : Int) ≤ (l.length : Int) := by omega
  have hn0 : ¬ ((n : Int) < 0) := by omega
  have hlm : (l.length : Int) ≤ 9223372036854775807 := by omega
  have HN := hidH hn
  clear K hA hc hcm hf hn
  go_enter Tryz.func98, Tryz.ntmps98
  go_wp2
  go_ret
  have W := win_set w r 0 (.slice (cutA A n c) (l.length - n) (c - n))
  have hf := HA.out.2.2.2
  have hAw : Bs (w.setCell ⟨r, 0, none⟩ (.slice (cutA A n c) (l.length - n) (c - n))) A l := bs_win HA.out.1 W (fun b off e => .inl (hf _ e))
  refine ⟨A, c, rfl, cutA_take hAw HN.out, by have := HN.out; have := HA.out.2.1; omega, hf, ⟨cutA A n c, c - n, ?_, cutA_drop hAw HN.out HA.out.2.1, ?_, ?_, ?_⟩, W, by simp [World.setCell]⟩
  · have h1 := heap_setCell_same w r 0 _ _ (.slice (cutA A n c) (l.length - n) (c - n)) HK.out
    unfold Blk
    rw [h1, List.length_drop]
    rfl
  · rw [List.length_drop]; have := HA.out.2.1; omega
  · have := HA.out.2.2.1; omega
  · intro a ha
    unfold cutA at ha
    split at ha
    · exact hf a ha
    · obtain ⟨a', e, rfl⟩ := Option.map_eq_some_iff.1 ha
      have := hf a' e
      unfold Addr.add
      split <;> simpa using this
set_option maxHeartbeats 1000000 in
theorem take_bad (r : Nat) (n : Int) (l : List Int) (w : World) (ty : TypeId) (pv : Value) (h : RdB w r l) (hn : n < 0 ∨ (l.length : Int) < n) (hE : w.cell? ⟨1, 0, none⟩ = some (.iface ty pv)) :
    Calls Tryz.prog 98 #[.pointer (some ⟨r, 0, none⟩), .int .i64 n] w fun e w' => e = PanE (.iface ty pv) ∧ w' = w := by
  obtain ⟨A, c, K, hA, hc, hcm, hf⟩ := h
  have c0 := K.cell 0
  have hlt := K.lt
  simp only [List.getElem?_toArray, List.getElem?_cons_zero] at c0
  clear hA hc hcm hf
  unfold PanE
  rcases hn with hn | hn
  · go_enter Tryz.func98, Tryz.ntmps98
    go_wp2
    exact ⟨rfl, rfl, rfl⟩
  · have h0 : ¬ (n < 0) := by omega
    go_enter Tryz.func98, Tryz.ntmps98
    go_wp2
    exact ⟨rfl, rfl, rfl⟩
/-- The reader, the text's own error, and that what is left are bytes. -/
structure RE (w : World) (r : Nat) (ty : TypeId) (pv : Value) (l : List Int) : Prop where
  rd : RdB w r l
  e : w.cell? ⟨1, 0, none⟩ = some (.iface ty pv)
  pos : 1 < r
  by_ : Bytes l
theorem RE.below {w w' : World} {r : Nat} {ty : TypeId} {pv : Value} {l : List Int} (h : RE w r ty pv l) (hb : Below w.heap.size w w') : RE w' r ty pv l :=
  ⟨h.rd.below hb, (hb.cell (p := ⟨1, 0, none⟩) (Nat.lt_trans h.pos h.rd.lt)).trans h.e, h.pos, h.by_⟩
theorem RE.turn {w w' : World} {r : Nat} {ty : TypeId} {pv : Value} {l l' : List Int} (h : RE w r ty pv l) (hw : Win r (r + 1) w w') (hr : RdB w' r l') (hl : ∀ x ∈ l', x ∈ l) : RE w' r ty pv l' :=
  ⟨hr, (hw.cell (p := ⟨1, 0, none⟩) (Nat.lt_trans h.pos h.rd.lt) (.inl h.pos)).trans h.e, h.pos, fun x hx => h.by_ x (hl x hx)⟩
set_option maxHeartbeats 1000000 in
theorem number_ok (r : Nat) (x : Int) (l : List Int) (w : World) (ty : TypeId) (pv : Value) (h : RE w r ty pv (x :: l)) :
    Calls Tryz.prog 81 #[.pointer (some ⟨r, 0, none⟩)] w fun e w' => e = .returned (.int .i64 x) ∧ RE w' r ty pv l ∧ Win r (r + 1) w w' ∧ w'.heap.size = w.heap.size := by
  have HT := hidH (take_ok r 1 (x :: l) w h.rd (by simp))
  obtain ⟨x0, x1⟩ := h.by_ x (List.mem_cons_self)
  have HH := hidH h
  clear h
  go_enter Tryz.func81, Tryz.ntmps81
  go_wp2_with fail
  refine HT.out.mono ?_
  rintro e w1 ⟨A, c, rfl, hA, hc, hf, hr, hw, hs⟩
  rcases hA with hA | ⟨b, off, rfl, hb, hA⟩
  · simp at hA
  have a0 := hA 0 (by simp)
  simp only [List.take_succ_cons, List.take_zero, List.getD_cons_zero, Nat.add_zero] at a0
  have HR := hidH (HH.out.turn hw hr (fun y hy => by simp at hy; exact List.mem_cons_of_mem _ hy))
  have HW := hidH (And.intro hw hs)
  clear HT HH hA hc hf hr hw hs
  go_wp2
  go_ret
  exact ⟨rfl, by simpa using HR.out, HW.out⟩
set_option maxHeartbeats 1000000 in
theorem number_bad (r : Nat) (w : World) (ty : TypeId) (pv : Value) (h : RE w r ty pv []) :
    Calls Tryz.prog 81 #[.pointer (some ⟨r, 0, none⟩)] w fun e w' => e = PanE (.iface ty pv) ∧ w' = w := by
  have HT := hidH (take_bad r 1 [] w ty pv h.rd (.inr (by simp)) h.e)
  clear h
  unfold PanE at HT ⊢
  go_enter Tryz.func81, Tryz.ntmps81
  go_wp2_with fail
  refine HT.out.mono ?_
  rintro e w1 ⟨rfl, rfl⟩
  clear HT
  go_wp2
  exact ⟨rfl, rfl, rfl⟩
set_option maxHeartbeats 1000000 in
theorem pair_ok (r : Nat) (x y : Int) (l : List Int) (w : World) (ty : TypeId) (pv : Value) (h : RE w r ty pv (x :: y :: l)) :
    Calls Tryz.prog 66 #[.pointer (some ⟨r, 0, none⟩)] w fun e w' => e = .returned (.int .i64 (x * 256 + y)) ∧ RE w' r ty pv l ∧ Win r (r + 1) w w' ∧ w'.heap.size = w.heap.size := by
  have HT := hidH (number_ok r x (y :: l) w ty pv h)
  obtain ⟨x0, x1⟩ := h.by_ x (List.mem_cons_self)
  obtain ⟨y0, y1⟩ := h.by_ y (List.mem_cons_of_mem _ List.mem_cons_self)
  clear h
  go_enter Tryz.func66, Tryz.ntmps66
  go_wp2_with fail
  refine HT.out.mono ?_
  rintro e w1 ⟨rfl, hr, hw, hs⟩
  have HT2 := hidH (number_ok r y l w1 ty pv hr)
  have HW := hidH (And.intro hw hs)
  clear HT hr hw hs
  go_wp2_with fail
  refine HT2.out.mono ?_
  rintro e w2 ⟨rfl, hr, hw, hs⟩
  have HR := hidH (And.intro hr (And.intro (HW.out.1.trans hw) (hs.trans HW.out.2)))
  clear HT2 HW hr hw hs
  go_wp2
  go_ret
  exact ⟨rfl, HR.out⟩
set_option maxHeartbeats 1000000 in
theorem pair_bad (r : Nat) (l : List Int) (w : World) (ty : TypeId) (pv : Value) (h : RE w r ty pv l) (hl : l.length < 2) :
    Calls Tryz.prog 66 #[.pointer (some ⟨r, 0, none⟩)] w fun e w' => e = PanE (.iface ty pv) ∧ Win r (r + 1) w w' := by
  unfold PanE
  rcases l with _ | ⟨x, _ | ⟨y, l⟩⟩
  · have HT := hidH (number_bad r w ty pv h)
    clear h
    unfold PanE at HT
    go_enter Tryz.func66, Tryz.ntmps66
    go_wp2_with fail
    refine HT.out.mono ?_
    rintro e w1 ⟨rfl, rfl⟩
    clear HT
    go_wp2
    exact ⟨rfl, rfl, Win.refl _ _ _⟩
  · have HT := hidH (number_ok r x [] w ty pv h)
    obtain ⟨x0, x1⟩ := h.by_ x (List.mem_cons_self)
    clear h
    go_enter Tryz.func66, Tryz.ntmps66
    go_wp2_with fail
    refine HT.out.mono ?_
    rintro e w1 ⟨rfl, hr, hw, hs⟩
    have HT2 := hidH (number_bad r w1 ty pv hr)
    have HW := hidH hw
    clear HT hr hw hs
    unfold PanE at HT2
    go_wp2_with fail
    refine HT2.out.mono ?_
    rintro e w2 ⟨rfl, rfl⟩
    clear HT2
    go_wp2
    exact ⟨rfl, rfl, HW.out⟩
  · simp at hl; omega
end Go.Proofs.YtncnibkojneejaaGreatDoor
