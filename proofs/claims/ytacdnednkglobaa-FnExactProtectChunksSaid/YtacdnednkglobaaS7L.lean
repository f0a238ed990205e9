/- Chapter 7: ProtectChunks, the program's. -/
import Derived.Test.YtacdnednkglobaaS7D
import Derived.Test.YtacdnednkglobaaS7Q
namespace Go.Proofs.Ytacdnednkglobaa
open Go.RowKit Go.Deep

set_option maxRecDepth 100000 in
set_option maxHeartbeats 4000000 in
theorem pc_impl (id : Int) (key : List Int) (vk : Value) (r : List ChunkM) (v : Value) (u : World) (hw : WfV (.int id)) (hk : Rd u (.bs key) vk) (hkb : WfV (.bs key)) (_ : tot (.bs key) ≤ 1048576) (h : Rd u (st_Chunk r) v) (hcb : WfV (st_Chunk r)) (ht : tot (st_Chunk r) ≤ 1048576) :
    Calls Try.prog 19 #[.int .i64 id, vk, v] u (Res u (pcR id key r).vs) := by
  have R0 := Blk.new u 37 #[.int .i64 0, .slice none 0 0]
  have b0 := bal (Below.refl u.heap.size u) (.cells #[.int .i64 0, .slice none 0 0] 37)
  obtain ⟨w0, hw0⟩ : ∃ w0, u.alloc (.cells #[.int .i64 0, .slice none 0 0] 37) = w0 := ⟨_, rfl⟩
  have hs0 : w0.heap.size = u.heap.size + 1 := by rw [← hw0]; simp
  rw [hw0] at R0 b0
  have HI := hidH (fun (w : World) (hb : Below u.heap.size u w) => Rd.below hb _ h)
  have HW := hidH hw0
  have HS := hidH hs0
  have HR := hidH R0
  have HB := hidH b0
  have HDG := hidH (fun (h200 : key.length ≤ 200) => digestOf_any id key vk r v w0 hw (Rd.below b0 _ hk) hkb h200 (HI.out _ b0) hcb ht)
  obtain ⟨PK, ck, rfl⟩ := hk.bs_sh
  have hkm := rdB_len hk
  obtain ⟨AR, cr, rfl⟩ := st_Chunk_sh h
  clear hw0 hs0 R0 b0 h hk hkb hcb ht hw
  by_cases h200 : key.length ≤ 200
  · have h2I : ¬ (200 : Int) < (key.length : Int) := by omega
    have H200 := hidH h200
    replace HDG := hidH (HDG.out h200)
    unfold DgR at HDG
    clear h200
    by_cases hz : mtF id r = 0
    · have H0 := hidH hz
      have hd : dgL id key r = hmL key (txtL id r) := by rw [dgL, if_pos hz]
      have hpl : pcL id key r = tagC id (hmL key (txtL id r)) :: r := rfl
      have hd32 := hmL_len key (txtL id r)
      rw [hd, hz] at HDG
      obtain ⟨D, hD⟩ : ∃ D, hmL key (txtL id r) = D := ⟨_, rfl⟩
      rw [hD] at HDG hd32 hpl
      have HM := hidH (pcR_ok H200.out H0.out)
      rw [hpl] at HM
      have HD32 := hidH hd32
      have HID := hidH (mtF_zero H0.out).1
      have HN := hidH (csF_zero (mtF_zero H0.out).2.1).1
      have HC := hidH (cmsF_ok (csF_zero (mtF_zero H0.out).2.1).2)
      have hnI : (r.length : Int) ≤ 7 := by have := HN.out; omega
      clear hz hd hpl hd32 hD
      go_enter Try.func19, Try.ntmps19
      go_wp2_with fail
      rw [HW.out]
      refine HDG.out.mono ?_
      rintro e w1 ⟨A1, c1, rfl, s1, b1⟩
      have ba := bal (Below.refl w1.heap.size w1) (.cells #[.int .i64 0, .slice A1 D.length c1] 27)
      have KT := Blk.new w1 27 #[.int .i64 0, .slice A1 D.length c1]
      have SD := bs_below s1 ba
      obtain ⟨w2, hw2⟩ : ∃ w2, w1.alloc (.cells #[.int .i64 0, .slice A1 D.length c1] 27) = w2 := ⟨_, rfl⟩
      rw [hw2] at ba KT SD
      have HW2 := hidH hw2
      have HT := hidH (tagChunk_any id D A1 c1 w2 SD HID.out.1 (by have := HID.out; omega) (by rw [HD32.out]; omega))
      have HB2 := hidH (btr (btr HB.out b1) ba)
      have HR2 := hidH ((HR.out.below b1).below ba)
      have HZ2 := hidH (show u.heap.size + 1 ≤ w2.heap.size by have := HS.out; have := b1.size; have := ba.size; omega)
      obtain ⟨y0, y1, yz⟩ := KT.two
      have hlt := KT.lt
      clear s1 b1 ba KT SD hw2 HDG
      go_wp2_with fail
      rw [HW2.out]
      go_wp2_with fail
      refine HT.out.mono ?_
      rintro e w3 ⟨A3, c3, rfl, o3, b3⟩
      obtain ⟨lo, hi, hlo, hkt⟩ := RT.of_row o3 b3.size [.int 15, .int 0]
      have ba := bal (Below.refl w3.heap.size w3) (.cells #[.int .i64 15, .int .i64 0, .slice A3 (tagB id D).length c3] 51)
      have HO4 := hidH (show (w3.alloc (.cells #[.int .i64 15, .int .i64 0, .slice A3 (tagB id D).length c3] 51)).ownsRow (u.heap.size + 1) 51 3 (.slice (some ⟨w3.heap.size, 0, none⟩) 1 1) 1 (flatR [ckE (tagC id D) (.slice A3 (tagB id D).length c3) lo hi]) from
        own_monoT (World.ownsRow_lit w3 #[.int .i64 15, .int .i64 0, .slice A3 (tagB id D).length c3] 1 (Nat.le_refl _) (by unfold maxLen; omega) rfl) (Nat.le_trans HZ2.out b3.size))
      have HT4 := hidH ((RTs.nil (u.heap.size + 1) _).snoc (x := ckE (tagC id D) (.slice A3 (tagB id D).length c3) lo hi) (hkt.turn ba.size (B8.of_below ba)) (Nat.le_trans HZ2.out hlo) (fun y hy => by simp at hy))
      have HB4 := hidH (btr (btr HB2.out b3) ba)
      have HR4 := hidH ((HR2.out.below b3).below ba)
      have HQ4 := hidH (RowCk.nil.snoc (tagC id D) (.slice A3 (tagB id D).length c3) lo hi)
      obtain ⟨w4, hw4⟩ : ∃ w4, w3.alloc (.cells #[.int .i64 15, .int .i64 0, .slice A3 (tagB id D).length c3] 51) = w4 := ⟨_, rfl⟩
      rw [hw4] at HO4 HT4 HB4 HR4
      have HW4 := hidH hw4
      have HTN := hidH (tagB_len id D)
      unfold ckV
      clear o3 b3 hlo hkt ba hw4 HT y0 y1 yz hlt
      go_wp2_with fail
      rw [HW4.out]
      go_loopw [8, 32] (fun v i wr => ∃ (j : Nat) (q : List RE), j ≤ r.length ∧ i = .int .i64 j ∧ RowCk q ((tagC id D :: r).take (j + 1)) ∧ wr.ownsRow (u.heap.size + 1) 51 3 v (j + 1) (flatR q) ∧ RTs (u.heap.size + 1) wr q ∧ Blk wr u.heap.size 37 #[.int .i64 0, .slice none 0 0] ∧ Below u.heap.size u wr) (fun _ i _ => r.length - (intOf i).toNat)
      case atStart => exact ⟨0, _, by omega, rfl, HQ4.out, HO4.out, HT4.out, HR4.out, HB4.out⟩
      case round =>
        obtain ⟨j, q, hj, rfl, hq, ho, hk, hR, hB⟩ := hrel
        have hj0 : (0 : Int) ≤ (j : Int) := by omega
        by_cases hlt : j < r.length
        · have hj1 : (j : Int) < (r.length : Int) := by omega
          obtain ⟨g, o, c', B, cB, e, CK, hbl⟩ := chunk_at (HI.out _ hB) hlt
          injection e with e1 e2 e3
          subst e1 e3
          have hok := HC.out r[j] (List.getElem_mem hlt)
          have p0 := CK.c0
          have p1 := CK.c1
          have p2 := CK.c2
          have hg := CK.lt
          have ba := bal (Below.refl wr.heap.size wr) (.cells #[.int .i64 r[j].Kind, .int .i64 r[j].Flags, .slice B r[j].Body.length cB] 51)
          have KC := Blk.new wr 51 #[.int .i64 r[j].Kind, .int .i64 r[j].Flags, .slice B r[j].Body.length cB]
          have hcl := clone_any B r[j].Body cB _ (bs_below CK.body ba) (by have := hok.2.2; omega)
          obtain ⟨w5, hw5⟩ : ∃ w5, wr.alloc (.cells #[.int .i64 r[j].Kind, .int .i64 r[j].Flags, .slice B r[j].Body.length cB] 51) = w5 := ⟨_, rfl⟩
          rw [hw5] at ba KC hcl
          have HCL := hidH hcl
          have HO5 := hidH (own_below0 ho ba)
          have HT5 := hidH (hk.turn ba.size (B8.of_below ba))
          have HR5 := hidH (hR.below ba)
          have HB5 := hidH (btr hB ba)
          have HZ5 := hidH (show u.heap.size + 1 ≤ wr.heap.size ∧ wr.heap.size < w5.heap.size from ⟨hR.lt, KC.lt⟩)
          have HQ := hidH hq
          have HW5 := hidH hw5
          have KK := hidH KC
          have HLT := hidH hlt
          have z0 := KC.cell 0
          have z1 := KC.cell 1
          have zz := KC.cell 2
          simp only [List.getElem?_toArray, List.getElem?_cons_succ, List.getElem?_cons_zero] at z0 z1 zz
          have HOB := hidH (fun k hk' => (ho.lt k hk').2)
          have hl5 := KC.lt
          clear CK hok hbl hq ho hk hR hB ba KC hcl hw5
          go_wp2_with fail
          rw [HW5.out]
          go_wp2_with fail
          refine HCL.out.mono ?_
          rintro e w6 ⟨v6, rfl, o6, b6⟩
          obtain ⟨A6, c6, rfl⟩ := own_lenT o6
          have K6 := KK.out.below b6
          have y0 := K6.cell 0
          have y1 := K6.cell 1
          have y2 := K6.cell 2
          have f2 := K6.frozen 2
          simp only [List.getElem?_toArray, List.getElem?_cons_succ, List.getElem?_cons_zero] at y0 y1 y2
          have hl6 := K6.lt
          obtain ⟨lo2, hi2, hlo2, hkt2⟩ := RT.of_row o6 b6.size [.int r[j].Kind, .int r[j].Flags]
          have hws := set_win w6 wr.heap.size 2 (.slice A6 r[j].Body.length c6)
          have hu6 : B8 w6 (w6.setCell ⟨wr.heap.size, 2, none⟩ (.slice A6 r[j].Body.length c6)) := B8.of_win hws K6 (by decide)
          have hs6 : (w6.setCell ⟨wr.heap.size, 2, none⟩ (.slice A6 r[j].Body.length c6)).heap.size = w6.heap.size := by simp [World.setCell]
          have ba := bal (Below.refl (w6.setCell ⟨wr.heap.size, 2, none⟩ (.slice A6 r[j].Body.length c6)).heap.size (w6.setCell ⟨wr.heap.size, 2, none⟩ (.slice A6 r[j].Body.length c6))) (.cells #[.int .i64 r[j].Kind, .int .i64 r[j].Flags, .slice A6 r[j].Body.length c6] 51)
          have KB := hidH (show Blk ((w6.setCell ⟨wr.heap.size, 2, none⟩ (.slice A6 r[j].Body.length c6)).alloc (.cells #[.int .i64 r[j].Kind, .int .i64 r[j].Flags, .slice A6 r[j].Body.length c6] 51)) w6.heap.size 51 #[.int .i64 r[j].Kind, .int .i64 r[j].Flags, .slice A6 r[j].Body.length c6] from
            hs6 ▸ Blk.new (w6.setCell ⟨wr.heap.size, 2, none⟩ (.slice A6 r[j].Body.length c6)) 51 #[.int .i64 r[j].Kind, .int .i64 r[j].Flags, .slice A6 r[j].Body.length c6])
          have HO7 := hidH (own_below0 (own_set (own_below0 HO5.out b6) (g := wr.heap.size) (fun k hk' => Nat.ne_of_lt (HOB.out k hk')) 2 (.slice A6 r[j].Body.length c6)) ba)
          have HR7 := hidH (((HR5.out.below b6).far (p := ⟨wr.heap.size, 2, none⟩) (by show wr.heap.size ≠ u.heap.size; have := HZ5.out.1; omega) (.slice A6 r[j].Body.length c6)).below ba)
          have HB7 := hidH (btr (bst (btr HB5.out b6) (p := ⟨wr.heap.size, 2, none⟩) (by show u.heap.size ≤ wr.heap.size; have := HZ5.out.1; omega) (.slice A6 r[j].Body.length c6)) ba)
          have hu7 := hu6.trans (B8.of_below ba)
          have hz7 : w6.heap.size ≤ ((w6.setCell ⟨wr.heap.size, 2, none⟩ (.slice A6 r[j].Body.length c6)).alloc (.cells #[.int .i64 r[j].Kind, .int .i64 r[j].Flags, .slice A6 r[j].Body.length c6] 51)).heap.size := by have := ba.size; omega
          have HT7 := hidH (((HT5.out.turn b6.size (B8.of_below b6)).snoc (x := ckE r[j] (.slice A6 r[j].Body.length c6) lo2 hi2) hkt2 (by have := HZ5.out; show u.heap.size + 1 ≤ lo2; omega) (fun y hy => Nat.le_trans (HT5.out.top y hy) hlo2)).turn hz7 hu7)
          have hsz7 : u.heap.size + 1 ≤ ((w6.setCell ⟨wr.heap.size, 2, none⟩ (.slice A6 r[j].Body.length c6)).alloc (.cells #[.int .i64 r[j].Kind, .int .i64 r[j].Flags, .slice A6 r[j].Body.length c6] 51)).heap.size := by have := HZ5.out; have := b6.size; omega
          have hj9 : j + 1 ≤ 90000 := by have := HN.out; omega
          clear o6 b6 K6 hkt2 hws hu6 hu7 hs6 ba z0 z1 zz HCL
          go_wp2_with (at_builtin; go_loud (refine wpList_append_Ck rfl _ _ rfl (u.heap.size + 1) _ (j + 1) (flatR q) rfl HO7.out w6.heap.size _ r[j].Kind r[j].Flags A6 r[j].Body.length c6 rfl KB.out hj9 hsz7 ?_))
          intro v8 w8 o8 g8
          have HB8 := hidH (show Below u.heap.size u w8 from HB7.out.grown g8 (by omega) (fun x hx => Nat.le_trans (Nat.le_succ _) (HO7.out.lt x hx).1))
          have HR8 := hidH (show Blk w8 u.heap.size 37 #[.int .i64 0, .slice none 0 0] from (g8.block _ HR7.out.lt (fun q => by have := (HO7.out.lt _ q.symm).1; omega)).trans HR7.out)
          have HT8 := hidH (HT7.out.turn g8.size (B8.of_grown g8 HO7.out (by decide)))
          have HO8 := hidH (show w8.ownsRow (u.heap.size + 1) 51 3 v8 (j + 1 + 1) (flatR (q ++ [ckE r[j] (.slice A6 r[j].Body.length c6) lo2 hi2])) by rw [flatR_app]; exact o8)
          have HQ8 := hidH (show RowCk (q ++ [ckE r[j] (.slice A6 r[j].Body.length c6) lo2 hi2]) ((tagC id D :: r).take (j + 1 + 1)) from HQ.out.take (r := tagC id D :: r) (j := j + 1) (by simpa using HLT.out) _ _ _)
          clear o8 g8 hsz7 hz7 hlo2
          go_wp2
          go_roundw
          case rel => exact ⟨j + 1, _, HLT.out, by go_num, HQ8.out, HO8.out, HT8.out, HR8.out, HB8.out⟩
          case measure => simp [intOf]; omega
        · obtain rfl : j = r.length := by omega
          rw [List.take_of_length_le (by simp)] at hq
          have HO := hidH (RowCk.own (r := tagC id D :: r) hq ho (Nat.le_refl _) hk)
          obtain ⟨A8, c8, rfl⟩ := own_lenT ho
          obtain ⟨x0, x1, xz⟩ := hR.two
          have f0 := hR.frozen 0
          have f1 := hR.frozen 1
          have HBW := hidH hB
          clear hq ho hk hR hB hlt hj
          go_wp2
          exact bodyPost_ret (v := .agg #[.int .i64 0, .slice A8 (r.length + 1) c8]) (by simp [results, Try.results19, go_sem, x0, x1]) rfl (by rw [HM.out]; exact cs_res 0 HO.out (Nat.le_refl _) (Nat.le_refl _) HBW.out _ _)
    · have hd : dgL id key r = [] := by rw [dgL, if_neg hz]
      have HM := hidH (pcR_fault H200.out hz)
      rw [hd] at HDG
      obtain ⟨F, hF⟩ : ∃ F, mtF id r = F := ⟨_, rfl⟩
      rw [hF] at HDG hz HM
      have q : (F != 0) = true := by rw [bne_iff_ne]; exact hz
      clear hd hF hz
      go_enter Try.func19, Try.ntmps19
      go_wp2_with fail
      rw [HW.out]
      refine HDG.out.mono ?_
      rintro e w1 ⟨A1, c1, rfl, _, b1⟩
      have ba := bal (Below.refl w1.heap.size w1) (.cells #[.int .i64 F, .slice A1 0 c1] 27)
      have KT := hidH (Blk.new w1 27 #[.int .i64 F, .slice A1 0 c1])
      have HB1 := hidH (btr (btr HB.out b1) ba)
      have HR1 := hidH ((HR.out.below b1).below ba)
      obtain ⟨y0, y1, yz⟩ := KT.out.two
      have hlt := KT.out.lt
      obtain ⟨x0, x1, xz⟩ := HR1.out.two
      have f0 := HR1.out.frozen 0
      have f1 := HR1.out.frozen 1
      clear b1 ba HDG
      go_wp2
      exact bodyPost_ret (v := .agg #[.int .i64 F, .slice none 0 0]) (by simp [results, Try.results19, go_sem, x0, x1]) rfl (by rw [HM.out]; exact cs_code F (Nat.le_refl _) HB1.out _ _)
  · have h2I : (200 : Int) < (key.length : Int) := by omega
    have HM := hidH (pcR_many (id := id) (r := r) h200)
    obtain ⟨y0, y1, yz⟩ := (Blk.new u 37 #[.int .i64 2, .slice none 0 0]).two
    have HBB := hidH (bal (Below.refl u.heap.size u) (.cells #[.int .i64 2, .slice none 0 0] 37))
    clear h200 HDG
    go_enter Try.func19, Try.ntmps19
    go_wp2
    exact bodyPost_ret (v := .agg #[.int .i64 2, .slice none 0 0]) (by simp [results, Try.results19, go_sem, y0, y1]) rfl (by
      rw [HM.out]
      refine ⟨[.int .i64 2, .slice none 0 0], rfl, OwN.int 2 ?_, HBB.out⟩
      exact OwN.cons' (B := u.heap.size) (C := u.heap.size) ⟨Nat.le_refl _, by unfold st_Chunk Ow; exact ⟨none, 0, rfl, ⟨Nat.le_refl _, by simp⟩, .inl ⟨rfl, rfl⟩⟩⟩ (OwN.nil HBB.out.size) (Nat.le_refl _) HBB.out.size)
end Go.Proofs.Ytacdnednkglobaa
