import Derived.Test.YtncnibkojneejaaGreatDoorJa8
import Derived.Test.YtncnibkojneejaaGreatDoorJa9
import Derived.Test.YtncnibkojneejaaGreatDoorJb0
import Derived.Test.YtncnibkojneejaaGreatDoorJa7

/- Chapter 7: the tag chunk and the text that is signed: the model's l7Tag, l7Text, MacText. -/
namespace Go.Proofs.YtncnibkojneejaaGreatDoor
open Go.RowKit Go.Deep

/-- A tag chunk comes back, its body in memory of its own. -/
def TagR (w : World) (id : Int) (l : List Int) (e : Ending) (w' : World) : Prop :=
  ∃ (A : Option Addr) (c : Nat), e = .returned (ckV 15 0 A (tagB id l).length c) ∧ w'.ownsRow w.heap.size 5 1 (.slice A (tagB id l).length c) (tagB id l).length ((tagB id l).map (Value.int .u8)) ∧ Below w.heap.size w w'
theorem zer32_made : (madeCells #[Value.int .u8 0] 32) = (zer32.map (Value.int .u8)).toArray := by kernel_rfl
theorem zer32_bs (w : World) : Bs (w.alloc (.cells (madeCells #[Value.int .u8 0] 32) 5)) (some ⟨w.heap.size, 0, none⟩) zer32 := by rw [zer32_made]; exact lit_bs w 5 zer32
theorem make32 (w : World) : (Instr.makeSlice 22 (.int .i64 32) (.int .i64 32)).run Tryz.prog w = .ok (.slice (some ⟨w.heap.size, 0, none⟩) 32 32) (w.alloc (.cells (madeCells #[Value.int .u8 0] 32) 5)) :=
  run_make_row' (P := Tryz.prog) 22 5 (.int .u8 0) 1 Tryz.underlying22 infoU8 rfl .i64 .i64 32 (by omega) (by omega) w
set_option maxRecDepth 100000 in
set_option maxHeartbeats 2000000 in
theorem l7Tag_any (id : Int) (l : List Int) (A : Option Addr) (c : Nat) (w : World) (hA : Bs w A l) (h0 : 0 ≤ id) (h1 : id < 65536) (hl : l.length ≤ 1000) :
    Calls Tryz.prog 43 #[.int .i64 id, .slice A l.length c] w (TagR w id l) := by
  have K0 := Blk.new w 37 #[.int .i64 0, .int .i64 0, .slice none 0 0]
  have b0 := bal (Below.refl w.heap.size w) (.cells #[.int .i64 0, .int .i64 0, .slice none 0 0] 37)
  have SA := bs_below hA (bal (Below.refl w.heap.size w) (.cells #[.int .i64 0, .int .i64 0, .slice none 0 0] 37))
  obtain ⟨w0, hw0⟩ : ∃ w0, w.alloc (.cells #[.int .i64 0, .int .i64 0, .slice none 0 0] 37) = w0 := ⟨_, rfl⟩
  have hs0 : w0.heap.size = w.heap.size + 1 := by rw [← hw0]; simp
  rw [hw0] at K0 b0 SA
  have HW := hidH hw0
  have HS := hidH hs0
  have ba := bal (Below.refl w0.heap.size w0) (.cells #[.int .u8 (id / 256), .int .u8 (id % 256)] 5)
  have O1 : (w0.alloc (.cells #[.int .u8 (id / 256), .int .u8 (id % 256)] 5)).ownsRow w0.heap.size 5 1 (.slice (some ⟨w0.heap.size, 0, none⟩) 2 2) 2 ([id / 256, id % 256].map (Value.int .u8)) :=
    World.ownsRow_lit w0 #[.int .u8 (id / 256), .int .u8 (id % 256)] 2 (Nat.le_refl _) (by unfold maxLen; omega) rfl
  have OH := hidH O1
  have SH := hidH (bs_below SA ba)
  have KH := hidH (K0.below ba)
  have BH := hidH ba
  have B0 := hidH b0
  have hsz := ba.size
  have HL := hidH hl
  clear hw0 hs0 K0 b0 SA ba O1 hA hl
  go_enter Tryz.func43, Tryz.ntmps43
  go_wp2_with fail
  rw [HW.out]
  refine (pair_any id _ h0 h1).mono ?_
  rintro e w1 ⟨rfl, rfl⟩
  go_wp2_with (at_builtin; go_loud (refine wpList_append_bs rfl _ _ rfl w0.heap.size _ _ _ rfl OH.out A l c rfl SH.out (by have := HL.out; omega) hsz ?_))
  intro v3 w3 o3 g3
  obtain ⟨A3, c3, e3⟩ := own_lenT o3
  subst e3
  have hb3 : Below w0.heap.size w0 w3 := BH.out.grown g3 hsz (fun k hk => (OH.out.lt k hk).1)
  have K3 := KH.out
  have K4 : Blk w3 w.heap.size 37 #[.int .i64 0, .int .i64 0, .slice none 0 0] := (g3.block _ K3.lt (fun q => by have := (OH.out.lt _ q.symm).1; have := HS.out; omega)).trans K3
  have O3 := hidH (show w3.ownsRow w0.heap.size 5 1 (.slice A3 (tagB id l).length c3) (tagB id l).length ((tagB id l).map (Value.int .u8)) by
    have e : (tagB id l).length = 2 + l.length := by rw [tagB_len]; omega
    rw [e]
    simpa [tagB] using o3)
  have B3 := hidH (show Below w.heap.size w w3 from B0.out.trans (hb3.mono (by have := HS.out; omega)))
  have x0 := K4.cell 0
  have x1 := K4.cell 1
  have x2 := K4.cell 2
  have f0 := K4.frozen 0
  have f1 := K4.frozen 1
  have f2 := K4.frozen 2
  simp only [List.getElem?_toArray, List.getElem?_cons_succ, List.getElem?_cons_zero] at x0 x1 x2
  have hlt := K4.lt
  have K5 := hidH K4
  have HN := hidH (show (tagB id l).length = 2 + l.length by rw [tagB_len]; omega)
  clear K3 K4 o3 g3 hb3 OH SH KH BH hsz
  go_wp2
  exact bodyPost_ret (v := .agg #[.int .i64 15, .int .i64 0, .slice A3 (2 + l.length) c3]) (by simp [results, Tryz.results43, go_sem, x0, x1, x2]) rfl ⟨A3, c3, by rw [HN.out]; rfl, own_monoT (own_farT (own_farT (own_farT O3.out K5.out (by decide) 0 _) (K5.out.put 0 _) (by decide) 1 _) ((K5.out.put 0 _).put 1 _) (by decide) 2 _) (by have := HS.out; omega), bst (bst (bst B3.out (Nat.le_refl _) _) (Nat.le_refl _) _) (Nat.le_refl _) _⟩
set_option maxRecDepth 100000 in
set_option maxHeartbeats 4000000 in
theorem l7Text_any (id : Int) (r : List ChunkM) (v : Value) (w : World) (h : Rd w (st_Chunk r) v) (h0 : 0 ≤ id) (h1 : id < 65536) (hc : ∀ x ∈ r, cmOk x) (hn : r.length ≤ 20) :
    Calls Tryz.prog 44 #[.int .i64 id, v] w (OwnB w (txtL id r)) := by
  obtain ⟨A, c, rfl⟩ := st_Chunk_sh h
  have HI := hidH (fun (u : World) (hb : Below w.heap.size w u) => Rd.below hb _ h)
  have HC := hidH hc
  have HN := hidH hn
  have hnI : (r.length : Int) ≤ 20 := by omega
  have hmk := make32 w
  have SZ := hidH (zer32_bs w)
  have b1 := bal (Below.refl w.heap.size w) (.cells (madeCells #[Value.int .u8 0] 32) 5)
  obtain ⟨w1, hw1⟩ : ∃ w1, w.alloc (.cells (madeCells #[Value.int .u8 0] 32) 5) = w1 := ⟨_, rfl⟩
  rw [hw1] at hmk SZ b1
  have hz : zer32.length = 32 := by decide
  have HT := hidH (l7Tag_any id zer32 (some ⟨w.heap.size, 0, none⟩) 32 w1 SZ.out h0 h1 (by rw [hz]; omega))
  rw [hz] at HT
  have B1 := hidH b1
  clear h hc hn b1 hw1
  go_enter Tryz.func44, Tryz.ntmps44
  go_wp2_with fail
  refine HT.out.mono ?_
  rintro e w2 ⟨A2, c2, rfl, o2, b2⟩
  have B2 := hidH (B1.out.trans (b2.mono B1.out.size))
  obtain ⟨l2, hl2⟩ : ∃ l2, tagB id zer32 = l2 := ⟨_, rfl⟩
  have T0 := hidH (show cmL (tagC id zer32) = chL 15 0 l2 by rw [← hl2]; rfl)
  have hl34 : l2.length = 34 := by rw [← hl2, tagB_len, hz]
  rw [hl2, hl34] at o2
  rw [hl2, hl34]
  unfold ckV
  obtain ⟨A2', c2', e2, ob2, _, _⟩ := own_ob (d := l2) (by rw [hl34]; exact o2)
  injection e2 with e21 e22 e23
  subst e21 e23
  have HB2 := hidH ob2.bs
  have HL2 := hidH hl34
  have bc := bal (Below.refl w2.heap.size w2) (.cells #[.int .i64 15, .int .i64 0, .slice A2 34 c2] 37)
  have KC := Blk.new w2 37 #[.int .i64 15, .int .i64 0, .slice A2 34 c2]
  have HBC := hidH (bs_below ob2.bs bc)
  have B3 := hidH (B2.out.trans (bc.mono B2.out.size))
  obtain ⟨w3, hw3⟩ : ∃ w3, w2.alloc (.cells #[.int .i64 15, .int .i64 0, .slice A2 34 c2] 37) = w3 := ⟨_, rfl⟩
  rw [hw3] at KC HBC B3
  have HCH := hidH (l4Chunk_any w2.heap.size 0 15 0 A2 l2 c2 w3 ⟨KC.lt, by simpa using KC.cell 0, by simpa using KC.cell 1, by rw [HL2.out]; simpa using KC.cell 2, HBC.out⟩ (by omega) (by omega) (by omega) (by omega) (by rw [HL2.out]; omega))
  rw [← T0.out] at HCH
  have HW3 := hidH hw3
  clear o2 b2 hl2 hl34 ob2 e22 bc KC hw3 HT hmk
  go_wp2_with fail
  rw [HW3.out]
  refine HCH.out.mono ?_
  rintro e w4 ⟨v4, rfl, o4, b4⟩
  have B4 := hidH (show Below w.heap.size w w4 from B3.out.trans (b4.mono B3.out.size))
  have O4 := hidH (show w4.ownsRow w.heap.size 5 1 v4 (txtTo id r 0).length ((txtTo id r 0).map (Value.int .u8)) by rw [txtTo_zero]; exact own_monoT o4 B3.out.size)
  clear o4 b4 HCH HW3 HBC
  go_wp2
  go_loopw [6, 7] (fun v i wr => ∃ j : Nat, j ≤ r.length ∧ i = .int .i64 j ∧ wr.ownsRow w.heap.size 5 1 v (txtTo id r j).length ((txtTo id r j).map (Value.int .u8)) ∧ Below w.heap.size w wr) (fun _ i _ => r.length - (intOf i).toNat)
  case atStart => exact ⟨0, by omega, rfl, O4.out, B4.out⟩
  case round =>
    obtain ⟨j, hj, rfl, hown, hB⟩ := hrel
    have hsz := hB.size
    have HL := hidH (txtTo_len id r HC.out j hj)
    by_cases hlt : j < r.length
    · have hj0 : (0 : Int) ≤ (j : Int) := by omega
      have hj1 : (j : Int) < (r.length : Int) := by omega
      obtain ⟨g, o, c', B, cB, e, CK, _⟩ := chunk_at (HI.out _ hB) hlt
      injection e with e1 e2 e3
      subst e1 e3
      obtain ⟨⟨k0, k1⟩, ⟨f0, f1⟩, hbl⟩ := HC.out r[j] (List.getElem_mem hlt)
      have HCK := hidH (l4Chunk_any g (o + j * 3) _ _ B _ cB wr CK k0 k1 f0 f1 (by omega))
      have HSU := hidH (txtTo_succ id r j hlt)
      have hcl := hidH (cmL_len r[j] hbl)
      have hg := CK.lt
      have OH := hidH hown
      have HBW := hidH hB
      clear CK k0 k1 f0 f1 hbl hown hB
      go_wp2_with fail
      refine HCK.out.mono ?_
      rintro e w4 ⟨v4, rfl, O4, b4⟩
      obtain ⟨A4, c4, rfl, ob4, _, _⟩ := own_ob O4
      have S4 := hidH ob4.bs
      have O5 := hidH (own_below0 OH.out b4)
      have B5 := hidH (btr HBW.out b4)
      have hsz5 := B5.out.size
      clear O4 ob4 b4 HCK OH HBW
      go_wp2_with (at_builtin; go_loud (refine wpList_append_bs rfl _ _ rfl w.heap.size _ _ _ rfl O5.out A4 _ c4 rfl S4.out (by have h1 := HL.out; have h2 := hcl.out; unfold cmL at h2; omega) hsz5 ?_))
      intro v6 w6 o6 g6
      have B6 := hidH (B5.out.grown g6 hsz5 (fun x hx => (O5.out.lt x hx).1))
      have O6 := hidH (show w6.ownsRow w.heap.size 5 1 v6 (txtTo id r (j + 1)).length ((txtTo id r (j + 1)).map (Value.int .u8)) by
        rw [HSU.out]
        simpa [cmL] using o6)
      clear o6 g6 O5 B5 S4 hsz5
      go_wp2
      go_roundw
      case rel => exact ⟨j + 1, by omega, by go_num, O6.out, B6.out⟩
      case measure => simp [intOf]; omega
    · obtain rfl : j = r.length := by omega
      have OH := hidH hown
      have HBW := hidH hB
      clear hlt hj hown hB
      go_wp2
      go_ret
      exact ⟨_, rfl, OH.out, HBW.out⟩
/-- A BytesResult by value. -/
theorem br_res {w W : World} {R : Nat} {A : Option Addr} {l : List Int} {cp : Nat} (x : Int) (hO : Ob (R + 1) W.heap.size W A l) (hR : w.heap.size ≤ R) (hb : Below w.heap.size w W) (h1 : l.length ≤ cp) (h2 : (cp : Int) ≤ 9223372036854775807) (u0 u1 : Value) :
    Res w [.int x, .bs l] (.returned (.agg #[.int .i64 x, .slice A l.length cp])) ((W.setCell ⟨R, 0, none⟩ u0).setCell ⟨R, 1, none⟩ u1) := by
  have e : ((W.setCell ⟨R, 0, none⟩ u0).setCell ⟨R, 1, none⟩ u1).heap.size = W.heap.size := by simp [World.setCell]
  refine ⟨[.int .i64 x, .slice A l.length cp], rfl, ?_, bst (bst hb hR _) hR _⟩
  rw [e]
  have ho := ((hO.setCell (p := ⟨R, 0, none⟩) (Nat.lt_succ_self _) u0).setCell (p := ⟨R, 1, none⟩) (Nat.lt_succ_self _) u1).mono (B' := w.heap.size) (by omega)
  exact OwN.int x (OwN.cons' (ho.owv (by rw [e]; exact Nat.le_refl _) ⟨h1, h2⟩) (OwN.nil (B := w.heap.size) (C := w.heap.size) (by rw [e]; exact hb.size)) (Nat.le_refl _) hb.size)
theorem br_code {w W : World} {R : Nat} (x : Int) (hR : w.heap.size ≤ R) (hb : Below w.heap.size w W) (u0 u1 : Value) :
    Res w [.int x, .bs []] (.returned (.agg #[.int .i64 x, .slice none 0 0])) ((W.setCell ⟨R, 0, none⟩ u0).setCell ⟨R, 1, none⟩ u1) :=
  ⟨[.int .i64 x, .slice none 0 0], rfl, OwN.int x (OwN.empty _ (Nat.le_refl _)), bst (bst hb hR _) hR _⟩
set_option maxRecDepth 100000 in
set_option maxHeartbeats 4000000 in
theorem mt_spec (id : Int) (r : List ChunkM) (v : Value) (u : World) (_ : WfV (.int id)) (h : Rd u (st_Chunk r) v) (_ : WfV (st_Chunk r)) (_ : tot (st_Chunk r) ≤ 1048576) :
    Calls Tryz.prog 33 #[.int .i64 id, v] u (Res u (mtR id r).vs) := by
  have R0 := Blk.new u 48 #[.int .i64 0, .slice none 0 0]
  have b0 := bal (Below.refl u.heap.size u) (.cells #[.int .i64 0, .slice none 0 0] 48)
  obtain ⟨w0, hw0⟩ : ∃ w0, u.alloc (.cells #[.int .i64 0, .slice none 0 0] 48) = w0 := ⟨_, rfl⟩
  have hs0 : w0.heap.size = u.heap.size + 1 := by rw [← hw0]; simp
  rw [hw0] at R0 b0
  have HI := hidH (fun (w : World) (hb : Below u.heap.size u w) => Rd.below hb _ h)
  have HW := hidH hw0
  have HS := hidH hs0
  have HR := hidH R0
  have HB := hidH b0
  have HCF := hidH (l7Chunks_any r v 7 w0 (HI.out _ b0) (by omega))
  obtain ⟨x0, x1, xz⟩ := R0.two
  have f0 := R0.frozen 0
  have f1 := R0.frozen 1
  obtain ⟨b, hb⟩ : ∃ b, inB id 0 99 = b := ⟨_, rfl⟩
  clear hw0 hs0 R0 b0 h
  cases b
  · have HM := hidH (show (mtR id r).vs = [.int 3, .bs []] by simp [mtR, mtF, hb, BytesResultM.vs])
    rw [HM.out]
    obtain ⟨y0, y1, yz⟩ := (Blk.new u 48 #[.int .i64 3, .slice none 0 0]).two
    have HBB := hidH (bal (Below.refl u.heap.size u) (.cells #[.int .i64 3, .slice none 0 0] 48))
    go_enter Tryz.func33, Tryz.ntmps33
    go_wp2_with (go_at_call 52; refine (in_any _ _ _ _).mono ?_; rintro e w' ⟨rfl, rfl⟩)
    exact bodyPost_ret (v := .agg #[.int .i64 3, .slice none 0 0]) (by simp [results, Tryz.results33, go_sem, y0, y1]) rfl ⟨[.int .i64 3, .slice none 0 0], rfl, OwN.int 3 (OwN.empty _ (Nat.le_refl _)), HBB.out⟩
  · have HID := hidH (show 0 ≤ id ∧ id ≤ 99 by simpa [inB] using hb)
    clear x0 x1 xz f0 f1
    go_enter Tryz.func33, Tryz.ntmps33
    go_wp2_with (go_at_call 52; refine (in_any _ _ _ _).mono ?_; rintro e w' ⟨rfl, rfl⟩)
    rw [HW.out]
    refine HCF.out.mono ?_
    rintro e w1 ⟨rfl, b1⟩
    have HB1 := hidH (btr HB.out b1)
    have HR1 := hidH (HR.out.below b1)
    have HZ1 := hidH b1.size
    obtain ⟨F, hF⟩ : ∃ F, csF 7 r = F := ⟨_, rfl⟩
    rw [hF]
    clear b1 HCF
    by_cases hz : F = 0
    · have q : (F != 0) = false := by rw [bne_eq_false_iff_eq]; exact hz
      have H0 := hidH (hF.trans hz)
      have HTX := hidH (l7Text_any id r v w1 (HI.out _ HB1.out) HID.out.1 (by have := HID.out; omega) (cmsF_ok (csF_zero H0.out).2) (by have := (csF_zero H0.out).1; omega))
      obtain ⟨L, hL⟩ : ∃ L, txtL id r = L := ⟨_, rfl⟩
      rw [hL] at HTX
      have HLL := hidH hL
      have HIN := hidH hb
      clear hz hF hL
      go_wp2_with fail
      refine HTX.out.mono ?_
      rintro e w2 ⟨v2, rfl, O2, b2⟩
      obtain ⟨A2, c2, rfl, ob2, hc2, hm2⟩ := own_ob O2
      have HB2 := hidH (btr HB1.out b2)
      have R2 := HR1.out.below b2
      obtain ⟨x0, x1, xz⟩ := R2.two
      have f0 := R2.frozen 0
      have f1 := R2.frozen 1
      have HO := hidH (ob2.mono (B' := u.heap.size + 1) (by have := HS.out; have := HZ1.out; omega))
      have HC := hidH (And.intro hc2 hm2)
      clear O2 ob2 hc2 hm2 R2 b2 HTX
      by_cases h5 : L.length ≤ 500
      · have h5I : (L.length : Int) ≤ 500 := by omega
        have HM := hidH (show (mtR id r).vs = [.int 0, .bs L] by simp [mtR, mtF, HIN.out, H0.out, HLL.out, h5, BytesResultM.vs])
        clear h5
        go_wp2
        exact bodyPost_ret (v := .agg #[.int .i64 0, .slice A2 L.length c2]) (by simp [results, Tryz.results33, go_sem, x0, x1]) rfl (by rw [HM.out]; exact br_res 0 HO.out (Nat.le_refl _) HB2.out HC.out.1 HC.out.2 _ _)
      · have h5I : (500 : Int) < (L.length : Int) := by omega
        have HM := hidH (show (mtR id r).vs = [.int 2, .bs []] by simp [mtR, mtF, HIN.out, H0.out, HLL.out, h5, BytesResultM.vs])
        clear h5
        go_wp2
        exact bodyPost_ret (v := .agg #[.int .i64 2, .slice none 0 0]) (by simp [results, Tryz.results33, go_sem, x0, x1]) rfl (by rw [HM.out]; exact br_code 2 (Nat.le_refl _) HB2.out _ _)
    · have q : (F != 0) = true := by rw [bne_iff_ne]; exact hz
      have HM := hidH (show (mtR id r).vs = [.int F, .bs []] by simp [mtR, mtF, hb, hF, hz, BytesResultM.vs])
      have R2 := HR1.out
      obtain ⟨x0, x1, xz⟩ := R2.two
      have f0 := R2.frozen 0
      have f1 := R2.frozen 1
      clear R2 hz hF
      go_wp2
      exact bodyPost_ret (v := .agg #[.int .i64 F, .slice none 0 0]) (by simp [results, Tryz.results33, go_sem, x0, x1]) rfl (by rw [HM.out]; exact br_code F (Nat.le_refl _) HB1.out _ _)
end Go.Proofs.YtncnibkojneejaaGreatDoor

/- Chapter 7: one struct put into a row of structs: the front, the struct, the rest. -/
namespace Go.Proofs.YtncnibkojneejaaGreatDoor
open Go.RowKit Go.Deep

theorem own_belowC {w w' : World} {B C s n : Nat} {e : TypeId} {v : Value} {xs : List Value} (h : w.ownsRow B e s v n xs) (hb : Below C w w') (hC : ∀ k, v.ownBlock = some k → k < C) : w'.ownsRow B e s v n xs := by
  obtain ⟨h1, h2 | ⟨g', cap, cur, rfl, h4, h5, h6⟩⟩ := h
  · exact ⟨h1, .inl h2⟩
  · exact ⟨h1, .inr ⟨g', cap, cur, rfl, h4, (hb.block g' (hC g' (by simp [Value.ownBlock]))).trans h5, h6⟩⟩
theorem own_none7 {w : World} {B s n c : Nat} {e : TypeId} {A : Option Addr} {xs : List Value} (h : w.ownsRow B e s (.slice A n c) n xs) : n ≤ c ∧ (A = none → c = 0) := by
  obtain ⟨_, ⟨h2, h3⟩ | ⟨g', cap, cur, h2, _, _, h5, _⟩⟩ := h
  · injection h2 with h2 h4 h6
    exact ⟨by omega, fun _ => h6⟩
  · injection h2 with h2 h4 h6
    exact ⟨by omega, fun h => by rw [h] at h2; cases h2⟩
theorem cutC_h (A : Option Addr) (z c n : Nat) (H : Int) (hH : H = (n : Int)) (hc : n ≤ c) (u : World) :
    (Instr.slice 24 (.slice A z c) none (some (.int .i64 H)) none).run Tryz.prog u = .ok (.slice A n c) u := by
  subst hH
  rw [run_slice_h (w := u) 24 A z c undCk7 .i64 (n : Int) (by omega) (by omega)]
  simp only [sizeCk7, Result.andThen, sliced]
  rw [Int.toNat_natCast, Nat.sub_zero, Nat.sub_zero, Nat.zero_mul]
  split
  · rfl
  · rcases A with _ | ⟨b, off, sp⟩
    · rfl
    · simp [Addr.add]
/-- The rest of a row of chunks, as the program cuts it. -/
theorem CellsAt.cut {w : World} {B n k : Nat} {e : TypeId} {A : Option Addr} {c : Nat} {xs : List Value} (h : w.ownsRow B e 3 (.slice A n c) n xs) (hk : k ≤ n) : CellsAt w (cutC A k c) (n - k) 3 (xs.drop (k * 3)) ∧ (cutC A k c = none → c - k = 0) := by
  have hn := own_none7 h
  refine ⟨?_, fun e => ?_⟩
  · by_cases hc : c = k
    · have e1 : n - k = 0 := by omega
      have e2 : xs.drop (k * 3) = [] := List.drop_eq_nil_of_le (by rw [h.1]; have := Nat.mul_le_mul_right 3 (show n ≤ k by omega); omega)
      rw [e1, e2]
      unfold cutC
      rw [if_pos hc]
      obtain ⟨_, ⟨h2, _⟩ | ⟨g', cap, cur, h2, _, h4, _⟩⟩ := h
      · injection h2 with h2 _ _
        exact ⟨rfl, .inl ⟨h2, rfl⟩⟩
      · injection h2 with h2 _ _
        exact ⟨rfl, .inr ⟨g', 0, h2, (Array.getElem?_eq_some_iff.1 h4).1, fun j hj => by omega⟩⟩
    · refine CellsAt.rest h hk _ (fun e => by unfold cutC; rw [if_neg hc, e]; rfl) (fun g e => ?_)
      unfold cutC
      rw [if_neg hc, e]
      simp [Addr.add]
      intro h
      exact h.symm
  · unfold cutC at e
    split at e
    · omega
    · have : A = none := by cases A <;> simp_all
      have := hn.2 this
      omega
theorem flatR_split {W : Nat} {q : List RowE} (h : ∀ x ∈ q, REok W x) (k : Nat) (hk : k ≤ q.length) : (flatR q).take (k * W) = flatR (q.take k) ∧ (flatR q).drop (k * W) = flatR (q.drop k) := by
  have h1 : flatR q = flatR (q.take k) ++ flatR (q.drop k) := by rw [← flatR_app, List.take_append_drop]
  have h2 : (flatR (q.take k)).length = k * W := by
    rw [flatR_len (W := W) (fun x hx => h x (List.mem_of_mem_take hx)), List.length_take, Nat.min_eq_left hk]
  rw [h1, ← h2, List.take_left', List.drop_left']
  · exact ⟨rfl, rfl⟩
  · rfl
  · rfl
theorem RowCk.ins {q : List RowE} {r : List ChunkM} (h : RowCk q r) (k : Nat) (x : ChunkM) (v : Value) (lo hi : Nat) : RowCk (q.take k ++ [ckE x v lo hi] ++ q.drop k) (r.take k ++ [x] ++ r.drop k) := by
  have hl : ∀ {q : List RowE}, (∀ x ∈ q, REok 3 x) → (q.flatMap RowE.vs).length = q.length * 3 := by
    intro q
    induction q with
    | nil => intro _; rfl
    | cons y q ih =>
      intro h
      rw [List.flatMap_cons, List.length_append, ih (fun z hz => h z (by simp [hz])), List.length_cons]
      have := (h y (by simp)).1
      simp only [RowE.vs, List.length_append, List.length_cons, List.length_nil]
      omega
  have hl2 : ∀ (r : List ChunkM), (r.flatMap ChunkM.vs).length = r.length * 3 := by
    intro r
    induction r with
    | nil => rfl
    | cons y r ih => rw [List.flatMap_cons, List.length_append, ih, List.length_cons]; simp only [ChunkM.vs, List.length_cons, List.length_nil]; omega
  have e0 : (q.take k).flatMap RowE.vs ++ (q.drop k).flatMap RowE.vs = (r.take k).flatMap ChunkM.vs ++ (r.drop k).flatMap ChunkM.vs := by
    rw [← List.flatMap_append, ← List.flatMap_append, List.take_append_drop, List.take_append_drop, h.vs]
  obtain ⟨e1, e2⟩ := List.append_inj e0 (by rw [hl (fun x hx => h.ok x (List.mem_of_mem_take hx)), hl2, List.length_take, List.length_take, h.len])
  refine ⟨by simp [h.len], ?_, fun y hy => ?_⟩
  · simp only [List.flatMap_append, e1, e2]
    rfl
  · simp only [List.append_assoc, List.mem_append, List.mem_singleton] at hy
    rcases hy with hy | rfl | hy
    · exact h.ok y (List.mem_of_mem_take hy)
    · exact ckE_ok _ _ _ _
    · exact h.ok y (List.mem_of_mem_drop hy)
theorem RTs.ins {B : Nat} {w : World} {q : List RowE} {x : RowE} (h : RTs B w q) (hx : RT w x) (hB : B ≤ x.lo) (hl : ∀ y ∈ q, y.hi ≤ x.lo) (k : Nat) : RTs B w (q.take k ++ [x] ++ q.drop k) := by
  have hp := h.2
  rw [← List.take_append_drop k q] at hp
  obtain ⟨h1, h2, h3⟩ := List.pairwise_append.1 hp
  refine ⟨fun y hy => ?_, ?_⟩
  · simp only [List.append_assoc, List.mem_append, List.mem_singleton] at hy
    rcases hy with hy | rfl | hy
    · exact h.1 y (List.mem_of_mem_take hy)
    · exact ⟨hx, hB⟩
    · exact h.1 y (List.mem_of_mem_drop hy)
  · rw [List.append_assoc]
    refine List.pairwise_append.2 ⟨h1, List.pairwise_cons.2 ⟨fun y hy => .inr (hl y (List.mem_of_mem_drop hy)), h2⟩, fun y hy z hz => ?_⟩
    rcases List.mem_cons.1 hz with rfl | hz
    · exact .inl (hl y (List.mem_of_mem_take hy))
    · exact h3 y hy z hz
/-- A list of chunks, a chunk of one's own in a box and what their bytes own. -/
structure FaI (b1 T : Nat) (v : Value) (n : Nat) (q : List RowE) (t : RowE) (tc : Array Value) (W : World) : Prop where
  row : W.ownsRow b1 37 3 v n (flatR q)
  rts : RTs b1 W q
  rt : RT W t
  box : Blk W T 37 tc
theorem FaI.below {b1 T n : Nat} {v : Value} {q : List RowE} {t : RowE} {tc : Array Value} {W W' : World} (h : FaI b1 T v n q t tc W) (hb : Below W.heap.size W W') : FaI b1 T v n q t tc W' :=
  ⟨own_below0 h.row hb, h.rts.turn hb.size (B8.of_below hb), h.rt.turn hb.size (B8.of_below hb), h.box.below hb⟩
theorem FaI.win {g b1 T n : Nat} {v : Value} {q : List RowE} {t : RowE} {tc : Array Value} {W W' : World} (h : FaI b1 T v n q t tc W) (hw : Win g (g + 1) W W') (hg : g < b1) (hT : g < T) (ub : B8 W W') : FaI b1 T v n q t tc W' :=
  ⟨own_keptT h.row hw hg, h.rts.turn hw.size ub, h.rt.turn hw.size ub, hw.blk h.box (.inr (by omega))⟩
theorem FaI.up {C b1 T n : Nat} {v : Value} {q : List RowE} {t : RowE} {tc : Array Value} {W W' : World} (h : FaI b1 T v n q t tc W) (hb : Below C W W') (hs : W.heap.size ≤ W'.heap.size) (ub : B8 W W') (hC : ∀ k, v.ownBlock = some k → k < C) (hT : T < C) : FaI b1 T v n q t tc W' :=
  ⟨own_belowC h.row hb hC, h.rts.turn hs ub, h.rt.turn hs ub, (hb.block T hT).trans h.box⟩
end Go.Proofs.YtncnibkojneejaaGreatDoor

/- Chapter 7: DrawFindAuth. -/
namespace Go.Proofs.YtncnibkojneejaaGreatDoor
open Go.RowKit Go.Deep

theorem CsRes.own7 {w' : World} {v : Value} {q : List RowE} {r : List ChunkM} {B n : Nat} (hB : n ≤ B) (h : RowCk q r) (ho : w'.ownsRow B 37 3 v r.length (flatR q)) (hk : RTs B w' q) : OwV n w'.heap.size w' (st_Chunk r) v :=
  (RowCk.own h ho (Nat.le_refl _) hk).mono hB (Nat.le_refl _) (Nat.le_refl _)
/-- A list comes back. -/
def FaRes (w : World) (e : Ending) (w' : World) : Prop :=
  ∃ (v : Value) (r : List ChunkM), e = .returned v ∧ r.length ≤ 10 ∧ (∀ x ∈ r, CkP x) ∧ OwV w.heap.size w'.heap.size w' (st_Chunk r) v ∧ Below w.heap.size w w'
set_option maxRecDepth 100000 in
set_option maxHeartbeats 4000000 in
theorem drawFa_any (A : Option Addr) (l : List Int) (c : Nat) (w : World) (hA : Bs w A l) (hl : Bytes l) (hm : (l.length : Int) ≤ 1048576) :
    Calls Tryz.prog 25 #[.slice A l.length c] w (FaRes w) := by
  have HS := hidH (source_any A l c w hA hl hm)
  clear hA
  go_enter Tryz.func25, Tryz.ntmps25
  go_wp2_with fail
  refine HS.out.mono ?_
  rintro e w1 ⟨rfl, S1, b1⟩
  have HB1 := hidH b1
  have HLT := hidH S1.lt
  clear HS b1
  obtain ⟨g, hg⟩ : ∃ g, w.heap.size = g := ⟨_, rfl⟩
  rw [hg] at S1 HLT
  have HG := hidH hg
  rw [hg]
  have HLB := hidH (l7Bent_any g A l c 0 w1 S1 (by omega))
  clear hg S1
  go_wp2_with fail
  refine HLB.out.mono ?_
  rintro e w2 ⟨v, q, r, a2, rfl, hq, hrl, hr, ho, hk, S2, ha2, W2⟩
  have HB2 := hidH (show Below w.heap.size w w2 from HB1.out.trans ((W2.below (Nat.le_of_lt HLT.out)).mono (by have := HG.out; omega)))
  have HQ := hidH (And.intro hq (And.intro hrl hr))
  have HO2 := hidH ho
  have HK2 := hidH hk
  have HA2 := hidH (show a2 ≤ 2000 by omega)
  have HZ12 := hidH W2.size
  have HS2 := hidH S2
  have HC := hidH (chance_any g A l c a2 3 w2 S2 (by omega))
  clear HLB hq hrl hr ho hk S2 ha2 W2
  go_wp2_with fail
  refine HC.out.mono ?_
  rintro e w3 ⟨b, rfl, S3, W3⟩
  have ub3 := B8.of_win W3 HS2.out.blk (by decide)
  have HO3 := hidH (own_keptT HO2.out W3 HLT.out)
  have HK3 := hidH (HK2.out.turn W3.size ub3)
  have HB3 := hidH (show Below w.heap.size w w3 from HB2.out.trans ((W3.below (Nat.le_of_lt HS2.out.lt)).mono (by have := HG.out; omega)))
  have HZ1 := hidH HB1.out.size
  have HZ13 := hidH (Nat.le_trans HZ12.out W3.size)
  clear HC ub3 W3
  cases b with
  | true =>
    clear S3
    go_wp2
    go_ret
    exact ⟨v, r, rfl, by have := HQ.out.2.1; omega, HQ.out.2.2, CsRes.own7 HZ1.out HQ.out.1 HO3.out HK3.out, HB3.out⟩
  | false =>
    go_wp2_with fail
    refine (pick_any g A l c (a2 + 1) w3.heap.size [0, 5, 99, 100] _ (S3.below (bal (Below.refl _ _) _)) (by have := HA2.out; omega) (Ns.of_blk (t := 2) (Blk.new w3 _ _)) (by simp) (by simp) (by have := S3.lt; omega)).mono ?_
    rintro e w4 ⟨y4, a4, rfl, hy4, ha4, S4, V4⟩
    have HY := hidH (show 0 ≤ y4 ∧ y4 ≤ 100 by simp at hy4; omega)
    have W4 : Win g (g + 1) w3 w4 := (Win.of_below (bal (Below.refl _ _) _)).trans V4
    have HW4 := hidH W4
    have HS3 := hidH S3
    clear S3 V4 hy4 W4
    go_wp2_with fail
    refine (pick_any g A l c a4 w4.heap.size [32, 32, 32, 31] _ (S4.below (bal (Below.refl _ _) _)) (by have := HA2.out; omega) (Ns.of_blk (t := 2) (Blk.new w4 _ _)) (by simp) (by simp) (by have := S4.lt; omega)).mono ?_
    rintro e w5 ⟨y5, a5, rfl, hy5, ha5, S5, V5⟩
    obtain ⟨L, rfl, hL⟩ : ∃ L : Nat, y5 = L ∧ L ≤ 32 := by
      simp at hy5
      exact ⟨y5.toNat, by omega, by omega⟩
    have W5 : Win g (g + 1) w4 w5 := (Win.of_below (bal (Below.refl _ _) _)).trans V5
    have HW5 := hidH (HW4.out.trans W5)
    clear S4 V5 hy5 W5
    go_wp2_with fail
    refine (some_any L _ _ _ _ _ _ S5 (by omega) (by have := HA2.out; omega)).mono ?_
    rintro e w6 ⟨v6, d6, a6, rfl, hd6, hl6, O6, S6, ha6, V6⟩
    obtain ⟨A6, c6, e6, ob6, k6, m6⟩ := own_ob O6
    subst e6
    have HW6 := hidH (HW5.out.trans V6)
    have HA6 := hidH (show a6 ≤ 2200 by have := HA2.out; omega)
    have HD := hidH (And.intro hd6 (show d6.length ≤ 32 by omega))
    have HT := hidH (l7Tag_any y4 d6 A6 c6 w6 ob6.bs HY.out.1 (by have := HY.out.2; omega) (by omega))
    have HS6 := hidH S6
    clear S5 O6 ob6 k6 m6 V6 hd6 hl6 ha6 ha5 ha4 S6 hL
    go_wp2_with fail
    refine HT.out.mono ?_
    rintro e w7 ⟨A7, c7, rfl, O7, b7⟩
    obtain ⟨A8, c8, e8, X8, hc8, hm8⟩ := own_xb O7
    simp only [Value.slice.injEq, true_and] at e8
    obtain ⟨rfl, rfl⟩ := e8
    have HX := hidH (fun (ps : List V) => RT.of_xb X8 b7.size hc8 hm8 ps)
    have HW7 := hidH (HW6.out.trans (Win.of_below b7))
    have ub7 := B8.of_win HW7.out HS3.out.blk (by decide)
    have HO7 := hidH (own_keptT HO3.out HW7.out HLT.out)
    have HK7 := hidH (HK3.out.turn HW7.out.size ub7)
    have HS7 := hidH (HS6.out.below b7)
    have HBY := hidH (show Bytes (tagB y4 d6) ∧ (tagB y4 d6).length ≤ 40 from ⟨tagB_bytes HY.out.1 (by have := HY.out.2; omega) HD.out.1, by rw [tagB_len]; have := HD.out.2; omega⟩)
    clear HT O7 b7 X8 hc8 hm8 ub7
    unfold ckV
    have HCs := hidH (And.intro HW7.out.size HB3.out.size)
    obtain ⟨w8, hw8⟩ : ∃ w8, w7.alloc (.cells #[.int .i64 15, .int .i64 0, .slice A7 (tagB y4 d6).length c7] 37) = w8 := ⟨_, rfl⟩
    have ba := bal (Below.refl w7.heap.size w7) (.cells #[.int .i64 15, .int .i64 0, .slice A7 (tagB y4 d6).length c7] 37)
    have KB := Blk.new w7 37 #[.int .i64 15, .int .i64 0, .slice A7 (tagB y4 d6).length c7]
    have hs8 : w8.heap.size = w7.heap.size + 1 := by rw [← hw8]; simp
    obtain ⟨T, hT⟩ : ∃ T, w7.heap.size = T := ⟨_, rfl⟩
    rw [hw8] at ba KB
    rw [hT] at KB hs8
    have HW8 := hidH hw8
    have HTT := hidH hT
    have HB8 := hidH ba
    have HKB := hidH KB
    have HZ8 := hidH hs8
    have S8 := HS7.out.below ba
    clear ba KB hs8 hw8 hT
    go_wp2_with fail
    obtain ⟨Av, cv, ev⟩ := own_lenT HO7.out
    subst ev
    have hrl9 : (r.length : Int) ≤ 9 := by have := HQ.out.2.1; omega
    rw [HW8.out, HTT.out]
    have NB := Blk.new w8 2 #[.int .i64 0, .int .i64 0, .int .i64 0, .int .i64 0, .int .i64 1]
    rw [HZ8.out] at NB
    refine (pick_any g A l c a6 (T + 1) [0, 0, 0, 0, 1] _ (S8.below (bal (Below.refl _ _) _)) (by have := HA6.out; omega) (Ns.of_blk (t := 2) NB) (by simp) (by simp) (by have := HTT.out; have := HS7.out.lt; omega)).mono ?_
    rintro e w9 ⟨y9, a9, rfl, hy9, ha9, S9, V9⟩
    have W9 : Win g (g + 1) w8 w9 := (Win.of_below (bal (Below.refl _ _) _)).trans V9
    have hgT : g < T := by have := HTT.out; have := HS7.out.lt; omega
    have ub9 : B8 w7 w9 := (B8.of_below HB8.out).trans (B8.of_win W9 S8.blk (by decide))
    have hz79 : w7.heap.size ≤ w9.heap.size := Nat.le_trans HB8.out.size W9.size
    obtain ⟨lo, hi, hlo, hkt⟩ := HX.out [.int 15, .int y9]
    have F9 : FaI w1.heap.size T (.slice Av r.length cv) r.length q (ckE ⟨15, y9, tagB y4 d6⟩ (.slice A7 (tagB y4 d6).length c7) lo hi) #[.int .i64 15, .int .i64 0, .slice A7 (tagB y4 d6).length c7] w9 :=
      ⟨own_keptT (own_below0 HO7.out HB8.out) W9 HLT.out, HK7.out.turn hz79 ub9, hkt.turn hz79 ub9, W9.blk HKB.out (.inr (by omega))⟩
    have hTo : ∀ k, (Value.slice Av r.length cv).ownBlock = some k → k < T := fun k hk => by have := (HO7.out.lt k hk).2; have := HTT.out; omega
    obtain ⟨w10, hw10⟩ : ∃ W, w9.setCell ⟨T, 1, none⟩ (.int .i64 y9) = W := ⟨_, rfl⟩
    have ub10 : B8 w9 w10 := hw10 ▸ B8.of_win (set_win w9 T 1 (.int .i64 y9)) F9.box (by decide)
    have hs10 : w10.heap.size = w9.heap.size := by rw [← hw10]; simp [World.setCell]
    have F10 : FaI w1.heap.size T (.slice Av r.length cv) r.length q (ckE ⟨15, y9, tagB y4 d6⟩ (.slice A7 (tagB y4 d6).length c7) lo hi) #[.int .i64 15, .int .i64 y9, .slice A7 (tagB y4 d6).length c7] w10 :=
      ⟨by rw [← hw10]; exact own_set F9.row (fun k hk => by have := hTo k hk; omega) 1 _, F9.rts.turn (Nat.le_of_eq hs10.symm) ub10, F9.rt.turn (Nat.le_of_eq hs10.symm) ub10, by rw [← hw10]; exact F9.box.put 1 _⟩
    have S10 : Src w10 g A l c a9 := by rw [← hw10]; exact Src.far S9 (p := ⟨T, 1, none⟩) hgT _
    have B10 : Below w.heap.size w w10 := by
      rw [← hw10]
      refine Below.setCell (p := ⟨T, 1, none⟩) ?_ (show w.heap.size ≤ T by have := HG.out; omega) _
      exact HB3.out.trans (((HW7.out.below (Nat.le_of_lt HS3.out.lt)).mono (by have := HG.out; omega)).trans ((HB8.out.mono (by have := HTT.out; have := HG.out; omega)).trans ((W9.below (by have := S8.lt; omega)).mono (by have := HG.out; omega))))
    have HY9 := hidH (show 0 ≤ y9 ∧ y9 ≤ 1 by simp at hy9; omega)
    have HNX := hidH (next_any g A l c a9 ((r.length : Int) + 1) w10 S10 (by have := HA6.out; omega))
    have HF10 := hidH F10
    have HB10 := hidH B10
    have HS10 := hidH S10
    have HGT := hidH hgT
    have HTO := hidH hTo
    have HW10 := hidH hw10
    have HLO2 := hidH (show w1.heap.size ≤ lo ∧ (∀ y ∈ q, y.hi ≤ lo) from ⟨Nat.le_trans HZ13.out (Nat.le_trans HW6.out.size hlo), fun y hy => Nat.le_trans (HK3.out.top y hy) (Nat.le_trans HW6.out.size hlo)⟩)
    have x1 := F9.box.cell 1
    have f1 := F9.box.frozen 1
    have hr := F9.box.lt
    simp only [List.getElem?_toArray, List.getElem?_cons_succ, List.getElem?_cons_zero] at x1
    clear S8 V9 hy9 ha9 S9 W9 hgT NB ub9 hz79 hlo hkt F9 hTo hw10 ub10 hs10 F10 S10 B10
    go_wp2_with fail
    rw [HW10.out]
    refine HNX.out.mono ?_
    rintro e w11 ⟨y11, rfl, hy0, hy1, S11, V11, hs11⟩
    obtain ⟨k, rfl⟩ : ∃ k : Nat, y11 = (k : Int) := ⟨y11.toNat, by omega⟩
    have hkr : k ≤ r.length := by rcases hy1 with h | h <;> omega
    have F11 := HF10.out.win V11 HLT.out HGT.out (B8.of_win V11 HS10.out.blk (by decide))
    have B11 : Below w.heap.size w w11 := HB10.out.trans ((V11.below (Nat.le_of_lt HS10.out.lt)).mono (by have := HG.out; omega))
    have hnn := own_none7 F11.row
    have hkc : k ≤ cv := by omega
    have HCH := cutC_h Av r.length cv k (k : Int) rfl hkc
    have HCL := cutC_l Av r.length cv k (k : Int) rfl hkr
    have HNN := hidH hnn
    have HKR := hidH hkr
    have HRL := hidH (show r.length ≤ 9 from HQ.out.2.1)
    have H1C := hidH (fun (u : Value) (hu : u ∈ flatR q) => flatR_one HQ.out.1.ok (fun x hx => (F11.rts.1 x hx).1.val) u hu)
    obtain ⟨C, hC⟩ : ∃ C, w11.heap.size = C := ⟨_, rfl⟩
    have HO12 := hidH (show (w11.alloc (.cells #[] 37)).ownsRow C 37 3 (.slice (some ⟨C, 0, none⟩) 0 0) 0 [] from hC ▸ World.ownsRow_lit w11 #[] 0 (Nat.le_refl _) (by unfold maxLen; omega) rfl)
    have b12 := bal (Below.refl w11.heap.size w11) (.cells #[] 37)
    have F12 := F11.below b12
    have B12 : Below w.heap.size w (w11.alloc (.cells #[] 37)) := btr B11 b12
    have hs12 : C ≤ (w11.alloc (.cells #[] 37)).heap.size := hC ▸ b12.size
    have HBC := hidH (show ∀ k, (Value.slice Av r.length cv).ownBlock = some k → k < C from fun k hk => hC ▸ (F11.row.lt k hk).2)
    have HTC := hidH (show T < C from hC ▸ F11.box.lt)
    have HWC := hidH (show w.heap.size ≤ C from hC ▸ B11.size)
    have HW1C := hidH (show w1.heap.size ≤ C by have := HZ13.out; have := HW7.out.size; have := HTT.out; have := HTC.out; omega)
    obtain ⟨w12, hw12⟩ : ∃ W, w11.alloc (.cells #[] 37) = W := ⟨_, rfl⟩
    rw [hw12] at HO12 F12 B12 hs12
    have HCF := hidH (CellsAt.front F12.row hkr)
    have HW12 := hidH hw12
    have HF12 := hidH F12
    have HB12 := hidH B12
    have HS12 := hidH hs12
    have HCC := hidH hC
    clear hy0 hy1 S11 V11 hs11 F11 B11 hnn b12 F12 B12 hs12 hw12 hkr hkc
    go_wp2_with (at_builtin; go_loud (rw [HW12.out]; refine wpList_append_cells rfl _ _ Tryz.underlying24 infoCk7 rfl (by decide) (by decide) rfl C _ 0 [] rfl HO12.out Av k cv _ rfl HCF.out HNN.out.2 (fun u hu => H1C.out u (List.mem_of_mem_take hu)) (by have := HKR.out; have := HRL.out; omega) HS12.out ?_))
    intro v13 w13 o13 hg13 _
    clear hC
    have B13 : Below C w12 w13 := (Below.refl C w12).grown hg13 HS12.out (fun x hx => (HO12.out.lt x hx).1)
    have ub13 := B8.of_grown hg13 HO12.out (by decide)
    have F13 := HF12.out.up B13 hg13.size ub13 HBC.out HTC.out
    have O13 : w13.ownsRow C 37 3 v13 k ((flatR q).take (k * 3)) := by simpa using o13
    have HB13 := hidH (show Below w.heap.size w w13 from HB12.out.trans (B13.mono HWC.out))
    have HS13 := hidH (show C ≤ w13.heap.size from Nat.le_trans HS12.out hg13.size)
    obtain ⟨A13, c13, e13⟩ := own_lenT O13
    subst e13
    have z0 := F13.box.cell 0
    have z1 := F13.box.cell 1
    have z2 := F13.box.cell 2
    simp only [List.getElem?_toArray, List.getElem?_cons_succ, List.getElem?_cons_zero] at z0 z1 z2
    have zl := F13.box.lt
    have b14 := bal (Below.refl w13.heap.size w13) (.cells #[.int .i64 15, .int .i64 y9, .slice A7 (tagB y4 d6).length c7] 37)
    have KQ := Blk.new w13 37 #[.int .i64 15, .int .i64 y9, .slice A7 (tagB y4 d6).length c7]
    obtain ⟨Q, hQ⟩ : ∃ Q, w13.heap.size = Q := ⟨_, rfl⟩
    rw [hQ] at KQ
    obtain ⟨w14, hw14⟩ : ∃ W, w13.alloc (.cells #[.int .i64 15, .int .i64 y9, .slice A7 (tagB y4 d6).length c7] 37) = W := ⟨_, rfl⟩
    have F14 := F13.below b14
    have O14 := own_below0 O13 b14
    have HB14 := hidH (btr HB13.out b14)
    have HS14 := hidH (Nat.le_trans HS13.out b14.size)
    rw [hw14] at F14 O14 HB14 HS14 KQ
    have HF14 := hidH F14
    have HO14 := hidH O14
    have HKQ := hidH KQ
    have HW14 := hidH hw14
    clear o13 hg13 B13 ub13 F13 O13 b14 KQ F14 O14 hw14
    go_wp2_with (at_builtin; go_loud (rw [HW14.out]; refine wpList_append_Ck rfl _ _ rfl C _ k _ rfl HO14.out Q _ 15 y9 A7 (tagB y4 d6).length c7 rfl HKQ.out (by have := HKR.out; have := HRL.out; omega) HS14.out ?_))
    intro v15 w15 o15 hg15
    clear z0 z1 z2 zl hQ
    have B15 : Below C w14 w15 := (Below.refl C w14).grown hg15 HS14.out (fun x hx => (HO14.out.lt x hx).1)
    have ub15 := B8.of_grown hg15 HO14.out (by decide)
    have F15 := HF14.out.up B15 hg15.size ub15 HBC.out HTC.out
    have HB15 := hidH (show Below w.heap.size w w15 from HB14.out.trans (B15.mono HWC.out))
    have HS15 := hidH (show C ≤ w15.heap.size from Nat.le_trans HS14.out hg15.size)
    obtain ⟨A15, c15, e15⟩ := own_lenT o15
    subst e15
    have CC := CellsAt.cut F15.row HKR.out
    have HCU := hidH CC.1
    have HCN := hidH CC.2
    have HF15 := hidH F15
    have HO15 := hidH o15
    obtain ⟨AC, hAC⟩ : ∃ AC, cutC Av k cv = AC := ⟨_, rfl⟩
    rw [hAC] at HCU HCN HCL
    clear hg15 B15 ub15 F15 o15 CC hAC
    go_wp2_with (at_builtin; go_loud (refine wpList_append_cells rfl _ _ Tryz.underlying24 infoCk7 rfl (by decide) (by decide) rfl C _ (k + 1) _ rfl HO15.out AC (r.length - k) (cv - k) _ rfl HCU.out HCN.out (fun u hu => H1C.out u (List.mem_of_mem_drop hu)) (by have := HKR.out; have := HRL.out; omega) HS15.out ?_))
    intro v17 w17 o17 hg17 _
    have B17 : Below C w15 w17 := (Below.refl C w15).grown hg17 HS15.out (fun x hx => (HO15.out.lt x hx).1)
    have ub17 := B8.of_grown hg17 HO15.out (by decide)
    have HF17 := hidH (HF15.out.up B17 hg17.size ub17 HBC.out HTC.out)
    have HB17 := hidH (show Below w.heap.size w w17 from HB15.out.trans (B17.mono HWC.out))
    have HO17 := hidH o17
    clear hg17 B17 ub17 o17
    go_wp2
    go_ret
    refine ⟨v17, r.take k ++ [⟨15, y9, tagB y4 d6⟩] ++ r.drop k, rfl, ?_, fun x hx => ?_, ?_, HB17.out⟩
    · simp only [List.length_append, List.length_take, List.length_drop, List.length_cons, List.length_nil]
      have := HKR.out; have := HRL.out
      omega
    · simp only [List.append_assoc, List.mem_append, List.mem_singleton] at hx
      rcases hx with hx | rfl | hx
      · exact HQ.out.2.2 x (List.mem_of_mem_take hx)
      · exact ⟨by show (-1 : Int) ≤ 15 ∧ (15 : Int) ≤ 256; omega, by have := HY9.out; show (-1 : Int) ≤ y9 ∧ y9 ≤ 256; omega, HBY.out.1, by have := HBY.out.2; show (tagB y4 d6).length ≤ 200; omega⟩
      · exact HQ.out.2.2 x (List.mem_of_mem_drop hx)
    · have hsp := flatR_split HQ.out.1.ok k (by rw [HQ.out.1.len]; exact HKR.out)
      have hO : w17.ownsRow C 37 3 v17 (r.take k ++ [(⟨15, y9, tagB y4 d6⟩ : ChunkM)] ++ r.drop k).length (flatR (q.take k ++ [ckE ⟨15, y9, tagB y4 d6⟩ (.slice A7 (tagB y4 d6).length c7) lo hi] ++ q.drop k)) := by
        have h1 := HO17.out
        rw [hsp.1, hsp.2] at h1
        rw [flatR_app, flatR_app]
        have e : (r.take k ++ [(⟨15, y9, tagB y4 d6⟩ : ChunkM)] ++ r.drop k).length = k + 1 + (r.length - k) := by
          simp only [List.length_append, List.length_take, List.length_drop, List.length_cons, List.length_nil]
          have := HKR.out
          omega
        rw [e, List.append_assoc]
        exact h1
      exact (RowCk.own (HQ.out.1.ins k _ _ _ _) hO HW1C.out (HF17.out.rts.ins HF17.out.rt HLO2.out.1 HLO2.out.2 k)).mono HZ1.out (Nat.le_refl _) (Nat.le_refl _)
end Go.Proofs.YtncnibkojneejaaGreatDoor
