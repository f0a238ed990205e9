/- Chapter 7: the tag chunk and the text that is signed: the model's l7Tag, l7Text, MacText. -/
import Derived.Test.YtacdnednkglobaaGreatDoorS7C
import Derived.Test.YtacdnednkglobaaGreatDoorNa1
namespace Go.Proofs.YtacdnednkglobaaGreatDoor
open Go.RowKit Go.Deep

/-- A tag chunk comes back, its body in memory of its own. -/
def TagR (w : World) (id : Int) (l : List Int) (e : Ending) (w' : World) : Prop :=
  ∃ (A : Option Addr) (c : Nat), e = .returned (ckV 15 0 A (tagB id l).length c) ∧ w'.ownsRow w.heap.size 5 1 (.slice A (tagB id l).length c) (tagB id l).length ((tagB id l).map (Value.int .u8)) ∧ Below w.heap.size w w'
theorem zer32_made : (madeCells #[Value.int .u8 0] 32) = (zer32.map (Value.int .u8)).toArray := by kernel_rfl
theorem zer32_bs (w : World) : Bs (w.alloc (.cells (madeCells #[Value.int .u8 0] 32) 5)) (some ⟨w.heap.size, 0, none⟩) zer32 := by rw [zer32_made]; exact lit_bs w 5 zer32
theorem make32 (w : World) : (Instr.makeSlice 22 (.int .i64 32) (.int .i64 32)).run Tryz.prog w = .ok (.slice (some ⟨w.heap.size, 0, none⟩) 32 32) (w.alloc (.cells (madeCells #[Value.int .u8 0] 32) 5)) :=
  run_make_row' (P := Tryz.prog) 22 5 (.int .u8 0) 1 Tryz.underlying22 infoU8 rfl .i64 .i64 32 (by omega) (by omega) w
set_option maxRecDepth 100000 in
set_option maxHeartbeats 2000000 in
theorem l7Tag_any (id : Int) (l : List Int) (A : Option Addr) (c : Nat) (w : World) (hA : Bs w A l) (h0 : 0 ≤ id) (h1 : id < 65536) (hl : l.length ≤ 1000) :
    Calls Tryz.prog 117 #[.int .i64 id, .slice A l.length c] w (TagR w id l) := by
  have K0 := Blk.new w 25 #[.int .i64 0, .int .i64 0, .slice none 0 0]
  have b0 := bal (Below.refl w.heap.size w) (.cells #[.int .i64 0, .int .i64 0, .slice none 0 0] 25)
  have SA := bs_below hA (bal (Below.refl w.heap.size w) (.cells #[.int .i64 0, .int .i64 0, .slice none 0 0] 25))
  obtain ⟨w0, hw0⟩ : ∃ w0, w.alloc (.cells #[.int .i64 0, .int .i64 0, .slice none 0 0] 25) = w0 := ⟨_, rfl⟩
  have hs0 : w0.heap.size = w.heap.size + 1 := by rw [← hw0]; simp
  rw [hw0] at K0 b0 SA
  have HW := hidH hw0
  have HS := hidH hs0
  have ba := bal (Below.refl w0.heap.size w0) (.cells #[.int .u8 (id / 256), .int .u8 (id % 256)] 5)
  have O1 : (w0.alloc (.cells #[.int .u8 (id / 256), .int .u8 (id % 256)] 5)).ownsRow w0.heap.size 5 1 (.slice (some ⟨w0.heap.size, 0, none⟩) 2 2) 2 ([id / 256, id % 256].map (Value.int .u8)) :=
    World.ownsRow_lit w0 #[.int .u8 (id / 256), .int .u8 (id % 256)] 2 (Nat.le_refl _) (by unfold maxLen; omega) rfl
  have OH := hidH O1
  have SH := hidH (bs_below SA ba)
  have KH := hidH (K0.below ba)
  have BH := hidH ba
  have B0 := hidH b0
  have hsz := ba.size
  have HL := hidH hl
  clear hw0 hs0 K0 b0 SA ba O1 hA hl
  go_enter Tryz.func117, Tryz.ntmps117
  go_wp2_with fail
  rw [HW.out]
  refine (pair_any id _ h0 h1).mono ?_
  rintro e w1 ⟨rfl, rfl⟩
  go_wp2_with (at_builtin; go_loud (refine wpList_append_bs rfl _ _ rfl w0.heap.size _ _ _ rfl OH.out A l c rfl SH.out (by have := HL.out; omega) hsz ?_))
  intro v3 w3 o3 g3
  obtain ⟨A3, c3, e3⟩ := own_lenT o3
  subst e3
  have hb3 : Below w0.heap.size w0 w3 := BH.out.grown g3 hsz (fun k hk => (OH.out.lt k hk).1)
  have K3 := KH.out
  have K4 : Blk w3 w.heap.size 25 #[.int .i64 0, .int .i64 0, .slice none 0 0] := (g3.block _ K3.lt (fun q => by have := (OH.out.lt _ q.symm).1; have := HS.out; omega)).trans K3
  have O3 := hidH (show w3.ownsRow w0.heap.size 5 1 (.slice A3 (tagB id l).length c3) (tagB id l).length ((tagB id l).map (Value.int .u8)) by
    have e : (tagB id l).length = 2 + l.length := by rw [tagB_len]; omega
    rw [e]
    simpa [tagB] using o3)
  have B3 := hidH (show Below w.heap.size w w3 from B0.out.trans (hb3.mono (by have := HS.out; omega)))
  have x0 := K4.cell 0
  have x1 := K4.cell 1
  have x2 := K4.cell 2
  have f0 := K4.frozen 0
  have f1 := K4.frozen 1
  have f2 := K4.frozen 2
  simp only [List.getElem?_toArray, List.getElem?_cons_succ, List.getElem?_cons_zero] at x0 x1 x2
  have hlt := K4.lt
  have K5 := hidH K4
  have HN := hidH (show (tagB id l).length = 2 + l.length by rw [tagB_len]; omega)
  clear K3 K4 o3 g3 hb3 OH SH KH BH hsz
  go_wp2
  exact bodyPost_ret (v := .agg #[.int .i64 15, .int .i64 0, .slice A3 (2 + l.length) c3]) (by simp [results, Tryz.results117, go_sem, x0, x1, x2]) rfl ⟨A3, c3, by rw [HN.out]; rfl, own_monoT (own_farT (own_farT (own_farT O3.out K5.out (by decide) 0 _) (K5.out.put 0 _) (by decide) 1 _) ((K5.out.put 0 _).put 1 _) (by decide) 2 _) (by have := HS.out; omega), bst (bst (bst B3.out (Nat.le_refl _) _) (Nat.le_refl _) _) (Nat.le_refl _) _⟩
set_option maxRecDepth 100000 in
set_option maxHeartbeats 4000000 in
theorem l7Text_any (id : Int) (r : List ChunkM) (v : Value) (w : World) (h : Rd w (st_Chunk r) v) (h0 : 0 ≤ id) (h1 : id < 65536) (hc : ∀ x ∈ r, cmOk x) (hn : r.length ≤ 20) :
    Calls Tryz.prog 118 #[.int .i64 id, v] w (OwnB w (txtL id r)) := by
  obtain ⟨A, c, rfl⟩ := st_Chunk_sh h
  have HI := hidH (fun (u : World) (hb : Below w.heap.size w u) => Rd.below hb _ h)
  have HC := hidH hc
  have HN := hidH hn
  have hnI : (r.length : Int) ≤ 20 := by omega
  have hmk := make32 w
  have SZ := hidH (zer32_bs w)
  have b1 := bal (Below.refl w.heap.size w) (.cells (madeCells #[Value.int .u8 0] 32) 5)
  obtain ⟨w1, hw1⟩ : ∃ w1, w.alloc (.cells (madeCells #[Value.int .u8 0] 32) 5) = w1 := ⟨_, rfl⟩
  rw [hw1] at hmk SZ b1
  have hz : zer32.length = 32 := by decide
  have HT := hidH (l7Tag_any id zer32 (some ⟨w.heap.size, 0, none⟩) 32 w1 SZ.out h0 h1 (by rw [hz]; omega))
  rw [hz] at HT
  have B1 := hidH b1
  clear h hc hn b1 hw1
  go_enter Tryz.func118, Tryz.ntmps118
  go_wp2_with fail
  refine HT.out.mono ?_
  rintro e w2 ⟨A2, c2, rfl, o2, b2⟩
  have B2 := hidH (B1.out.trans (b2.mono B1.out.size))
  obtain ⟨l2, hl2⟩ : ∃ l2, tagB id zer32 = l2 := ⟨_, rfl⟩
  have T0 := hidH (show cmL (tagC id zer32) = chL 15 0 l2 by rw [← hl2]; rfl)
  have hl34 : l2.length = 34 := by rw [← hl2, tagB_len, hz]
  rw [hl2, hl34] at o2
  rw [hl2, hl34]
  unfold ckV
  obtain ⟨A2', c2', e2, ob2, _, _⟩ := own_ob (d := l2) (by rw [hl34]; exact o2)
  injection e2 with e21 e22 e23
  subst e21 e23
  have HB2 := hidH ob2.bs
  have HL2 := hidH hl34
  have bc := bal (Below.refl w2.heap.size w2) (.cells #[.int .i64 15, .int .i64 0, .slice A2 34 c2] 25)
  have KC := Blk.new w2 25 #[.int .i64 15, .int .i64 0, .slice A2 34 c2]
  have HBC := hidH (bs_below ob2.bs bc)
  have B3 := hidH (B2.out.trans (bc.mono B2.out.size))
  obtain ⟨w3, hw3⟩ : ∃ w3, w2.alloc (.cells #[.int .i64 15, .int .i64 0, .slice A2 34 c2] 25) = w3 := ⟨_, rfl⟩
  rw [hw3] at KC HBC B3
  have HCH := hidH (l4Chunk_any w2.heap.size 0 15 0 A2 l2 c2 w3 ⟨KC.lt, by simpa using KC.cell 0, by simpa using KC.cell 1, by rw [HL2.out]; simpa using KC.cell 2, HBC.out⟩ (by omega) (by omega) (by omega) (by omega) (by rw [HL2.out]; omega))
  rw [← T0.out] at HCH
  have HW3 := hidH hw3
  clear o2 b2 hl2 hl34 ob2 e22 bc KC hw3 HT hmk
  go_wp2_with fail
  rw [HW3.out]
  refine HCH.out.mono ?_
  rintro e w4 ⟨v4, rfl, o4, b4⟩
  have B4 := hidH (show Below w.heap.size w w4 from B3.out.trans (b4.mono B3.out.size))
  have O4 := hidH (show w4.ownsRow w.heap.size 5 1 v4 (txtTo id r 0).length ((txtTo id r 0).map (Value.int .u8)) by rw [txtTo_zero]; exact own_monoT o4 B3.out.size)
  clear o4 b4 HCH HW3 HBC
  go_wp2
  go_loopw [6, 7] (fun v i wr => ∃ j : Nat, j ≤ r.length ∧ i = .int .i64 j ∧ wr.ownsRow w.heap.size 5 1 v (txtTo id r j).length ((txtTo id r j).map (Value.int .u8)) ∧ Below w.heap.size w wr) (fun _ i _ => r.length - (intOf i).toNat)
  case atStart => exact ⟨0, by omega, rfl, O4.out, B4.out⟩
  case round =>
    obtain ⟨j, hj, rfl, hown, hB⟩ := hrel
    have hsz := hB.size
    have HL := hidH (txtTo_len id r HC.out j hj)
    by_cases hlt : j < r.length
    · have hj0 : (0 : Int) ≤ (j : Int) := by omega
      have hj1 : (j : Int) < (r.length : Int) := by omega
      obtain ⟨g, o, c', B, cB, e, CK, _⟩ := chunk_at (HI.out _ hB) hlt
      injection e with e1 e2 e3
      subst e1 e3
      obtain ⟨⟨k0, k1⟩, ⟨f0, f1⟩, hbl⟩ := HC.out r[j] (List.getElem_mem hlt)
      have HCK := hidH (l4Chunk_any g (o + j * 3) _ _ B _ cB wr CK k0 k1 f0 f1 (by omega))
      have HSU := hidH (txtTo_succ id r j hlt)
      have hcl := hidH (cmL_len r[j] hbl)
      have hg := CK.lt
      have OH := hidH hown
      have HBW := hidH hB
      clear CK k0 k1 f0 f1 hbl hown hB
      go_wp2_with fail
      refine HCK.out.mono ?_
      rintro e w4 ⟨v4, rfl, O4, b4⟩
      obtain ⟨A4, c4, rfl, ob4, _, _⟩ := own_ob O4
      have S4 := hidH ob4.bs
      have O5 := hidH (own_below0 OH.out b4)
      have B5 := hidH (btr HBW.out b4)
      have hsz5 := B5.out.size
      clear O4 ob4 b4 HCK OH HBW
      go_wp2_with (at_builtin; go_loud (refine wpList_append_bs rfl _ _ rfl w.heap.size _ _ _ rfl O5.out A4 _ c4 rfl S4.out (by have h1 := HL.out; have h2 := hcl.out; unfold cmL at h2; omega) hsz5 ?_))
      intro v6 w6 o6 g6
      have B6 := hidH (B5.out.grown g6 hsz5 (fun x hx => (O5.out.lt x hx).1))
      have O6 := hidH (show w6.ownsRow w.heap.size 5 1 v6 (txtTo id r (j + 1)).length ((txtTo id r (j + 1)).map (Value.int .u8)) by
        rw [HSU.out]
        simpa [cmL] using o6)
      clear o6 g6 O5 B5 S4 hsz5
      go_wp2
      go_roundw
      case rel => exact ⟨j + 1, by omega, by go_num, O6.out, B6.out⟩
      case measure => simp [intOf]; omega
    · obtain rfl : j = r.length := by omega
      have OH := hidH hown
      have HBW := hidH hB
      clear hlt hj hown hB
      go_wp2
      go_ret
      exact ⟨_, rfl, OH.out, HBW.out⟩
/-- A BytesResult by value. -/
theorem br_res {w W : World} {R : Nat} {A : Option Addr} {l : List Int} {cp : Nat} (x : Int) (hO : Ob (R + 1) W.heap.size W A l) (hR : w.heap.size ≤ R) (hb : Below w.heap.size w W) (h1 : l.length ≤ cp) (h2 : (cp : Int) ≤ 9223372036854775807) (u0 u1 : Value) :
    Res w [.int x, .bs l] (.returned (.agg #[.int .i64 x, .slice A l.length cp])) ((W.setCell ⟨R, 0, none⟩ u0).setCell ⟨R, 1, none⟩ u1) := by
  have e : ((W.setCell ⟨R, 0, none⟩ u0).setCell ⟨R, 1, none⟩ u1).heap.size = W.heap.size := by simp [World.setCell]
  refine ⟨[.int .i64 x, .slice A l.length cp], rfl, ?_, bst (bst hb hR _) hR _⟩
  rw [e]
  have ho := ((hO.setCell (p := ⟨R, 0, none⟩) (Nat.lt_succ_self _) u0).setCell (p := ⟨R, 1, none⟩) (Nat.lt_succ_self _) u1).mono (B' := w.heap.size) (by omega)
  exact OwN.int x (OwN.cons' (ho.owv (by rw [e]; exact Nat.le_refl _) ⟨h1, h2⟩) (OwN.nil (B := w.heap.size) (C := w.heap.size) (by rw [e]; exact hb.size)) (Nat.le_refl _) hb.size)
theorem br_code {w W : World} {R : Nat} (x : Int) (hR : w.heap.size ≤ R) (hb : Below w.heap.size w W) (u0 u1 : Value) :
    Res w [.int x, .bs []] (.returned (.agg #[.int .i64 x, .slice none 0 0])) ((W.setCell ⟨R, 0, none⟩ u0).setCell ⟨R, 1, none⟩ u1) :=
  ⟨[.int .i64 x, .slice none 0 0], rfl, OwN.int x (OwN.empty _ (Nat.le_refl _)), bst (bst hb hR _) hR _⟩
set_option maxRecDepth 100000 in
set_option maxHeartbeats 4000000 in
theorem mt_spec (id : Int) (r : List ChunkM) (v : Value) (u : World) (_ : WfV (.int id)) (h : Rd u (st_Chunk r) v) (_ : WfV (st_Chunk r)) (_ : tot (st_Chunk r) ≤ 1048576) :
    Calls Tryz.prog 88 #[.int .i64 id, v] u (Res u (mtR id r).vs) := by
  have R0 := Blk.new u 131 #[.int .i64 0, .slice none 0 0]
  have b0 := bal (Below.refl u.heap.size u) (.cells #[.int .i64 0, .slice none 0 0] 131)
  obtain ⟨w0, hw0⟩ : ∃ w0, u.alloc (.cells #[.int .i64 0, .slice none 0 0] 131) = w0 := ⟨_, rfl⟩
  have hs0 : w0.heap.size = u.heap.size + 1 := by rw [← hw0]; simp
  rw [hw0] at R0 b0
  have HI := hidH (fun (w : World) (hb : Below u.heap.size u w) => Rd.below hb _ h)
  have HW := hidH hw0
  have HS := hidH hs0
  have HR := hidH R0
  have HB := hidH b0
  have HCF := hidH (l7Chunks_any r v 7 w0 (HI.out _ b0) (by omega))
  obtain ⟨x0, x1, xz⟩ := R0.two
  have f0 := R0.frozen 0
  have f1 := R0.frozen 1
  obtain ⟨b, hb⟩ : ∃ b, inB id 0 99 = b := ⟨_, rfl⟩
  clear hw0 hs0 R0 b0 h
  cases b
  · have HM := hidH (show (mtR id r).vs = [.int 3, .bs []] by simp [mtR, mtF, hb, BytesResultM.vs])
    rw [HM.out]
    obtain ⟨y0, y1, yz⟩ := (Blk.new u 131 #[.int .i64 3, .slice none 0 0]).two
    have HBB := hidH (bal (Below.refl u.heap.size u) (.cells #[.int .i64 3, .slice none 0 0] 131))
    go_enter Tryz.func88, Tryz.ntmps88
    go_wp2_with (go_at_call 104; refine (in_any _ _ _ _).mono ?_; rintro e w' ⟨rfl, rfl⟩)
    exact bodyPost_ret (v := .agg #[.int .i64 3, .slice none 0 0]) (by simp [results, Tryz.results88, go_sem, y0, y1]) rfl ⟨[.int .i64 3, .slice none 0 0], rfl, OwN.int 3 (OwN.empty _ (Nat.le_refl _)), HBB.out⟩
  · have HID := hidH (show 0 ≤ id ∧ id ≤ 99 by simpa [inB] using hb)
    clear x0 x1 xz f0 f1
    go_enter Tryz.func88, Tryz.ntmps88
    go_wp2_with (go_at_call 104; refine (in_any _ _ _ _).mono ?_; rintro e w' ⟨rfl, rfl⟩)
    rw [HW.out]
    refine HCF.out.mono ?_
    rintro e w1 ⟨rfl, b1⟩
    have HB1 := hidH (btr HB.out b1)
    have HR1 := hidH (HR.out.below b1)
    have HZ1 := hidH b1.size
    obtain ⟨F, hF⟩ : ∃ F, csF 7 r = F := ⟨_, rfl⟩
    rw [hF]
    clear b1 HCF
    by_cases hz : F = 0
    · have q : (F != 0) = false := by rw [bne_eq_false_iff_eq]; exact hz
      have H0 := hidH (hF.trans hz)
      have HTX := hidH (l7Text_any id r v w1 (HI.out _ HB1.out) HID.out.1 (by have := HID.out; omega) (cmsF_ok (csF_zero H0.out).2) (by have := (csF_zero H0.out).1; omega))
      obtain ⟨L, hL⟩ : ∃ L, txtL id r = L := ⟨_, rfl⟩
      rw [hL] at HTX
      have HLL := hidH hL
      have HIN := hidH hb
      clear hz hF hL
      go_wp2_with fail
      refine HTX.out.mono ?_
      rintro e w2 ⟨v2, rfl, O2, b2⟩
      obtain ⟨A2, c2, rfl, ob2, hc2, hm2⟩ := own_ob O2
      have HB2 := hidH (btr HB1.out b2)
      have R2 := HR1.out.below b2
      obtain ⟨x0, x1, xz⟩ := R2.two
      have f0 := R2.frozen 0
      have f1 := R2.frozen 1
      have HO := hidH (ob2.mono (B' := u.heap.size + 1) (by have := HS.out; have := HZ1.out; omega))
      have HC := hidH (And.intro hc2 hm2)
      clear O2 ob2 hc2 hm2 R2 b2 HTX
      by_cases h5 : L.length ≤ 500
      · have h5I : (L.length : Int) ≤ 500 := by omega
        have HM := hidH (show (mtR id r).vs = [.int 0, .bs L] by simp [mtR, mtF, HIN.out, H0.out, HLL.out, h5, BytesResultM.vs])
        clear h5
        go_wp2
        exact bodyPost_ret (v := .agg #[.int .i64 0, .slice A2 L.length c2]) (by simp [results, Tryz.results88, go_sem, x0, x1]) rfl (by rw [HM.out]; exact br_res 0 HO.out (Nat.le_refl _) HB2.out HC.out.1 HC.out.2 _ _)
      · have h5I : (500 : Int) < (L.length : Int) := by omega
        have HM := hidH (show (mtR id r).vs = [.int 2, .bs []] by simp [mtR, mtF, HIN.out, H0.out, HLL.out, h5, BytesResultM.vs])
        clear h5
        go_wp2
        exact bodyPost_ret (v := .agg #[.int .i64 2, .slice none 0 0]) (by simp [results, Tryz.results88, go_sem, x0, x1]) rfl (by rw [HM.out]; exact br_code 2 (Nat.le_refl _) HB2.out _ _)
    · have q : (F != 0) = true := by rw [bne_iff_ne]; exact hz
      have HM := hidH (show (mtR id r).vs = [.int F, .bs []] by simp [mtR, mtF, hb, hF, hz, BytesResultM.vs])
      have R2 := HR1.out
      obtain ⟨x0, x1, xz⟩ := R2.two
      have f0 := R2.frozen 0
      have f1 := R2.frozen 1
      clear R2 hz hF
      go_wp2
      exact bodyPost_ret (v := .agg #[.int .i64 F, .slice none 0 0]) (by simp [results, Tryz.results88, go_sem, x0, x1]) rfl (by rw [HM.out]; exact br_code F (Nat.le_refl _) HB1.out _ _)
end Go.Proofs.YtacdnednkglobaaGreatDoor
