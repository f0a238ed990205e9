import Derived.Test.YtacdnednkglobaaGreatDoorS7T
import Derived.Test.YtacdnednkglobaaGreatDoorNa0
import Derived.Test.YtacdnednkglobaaGreatDoorNa4
import Derived.Test.YtacdnednkglobaaGreatDoorNa3
import Derived.Deep.WholeRow
import Derived.Great.BuildSlice
import Derived.Laws.CopyOwn
import Derived.Test.YtacdnednkglobaaGreatDoorDrawAt
import Derived.Laws.IdiomCopy
import Derived.Test.YtacdnednkglobaaGreatDoorNa1
import Derived.Deep.MidRow
import Derived.Test.YtacdnednkglobaaGreatDoorOpLaws

/- Chapter 7: the program's tagChunk, MacText. -/
namespace Go.Proofs.YtacdnednkglobaaGreatDoor
open Go.RowKit Go.Deep

theorem fldBR (c : Int) (A : Option Addr) (n cp : Nat) (w : World) : (Instr.field 131 (.agg #[.int .i64 c, .slice A n cp]) 1).run Tryz.prog w = .ok (.slice A n cp) w := by kernel_rfl
theorem fldBR0 (c : Int) (A : Option Addr) (n cp : Nat) (w : World) : (Instr.field 131 (.agg #[.int .i64 c, .slice A n cp]) 0).run Tryz.prog w = .ok (.int .i64 c) w := by kernel_rfl
set_option maxRecDepth 100000 in
set_option maxHeartbeats 2000000 in
theorem tagChunk_any (id : Int) (l : List Int) (A : Option Addr) (c : Nat) (w : World) (hA : Bs w A l) (h0 : 0 ≤ id) (h1 : id < 65536) (hl : l.length ≤ 1000) :
    Calls Tryz.prog 77 #[.int .i64 id, .slice A l.length c] w (TagR w id l) := by
  have K0 := Blk.new w 25 #[.int .i64 0, .int .i64 0, .slice none 0 0]
  have b0 := bal (Below.refl w.heap.size w) (.cells #[.int .i64 0, .int .i64 0, .slice none 0 0] 25)
  obtain ⟨w0, hw0⟩ : ∃ w0, w.alloc (.cells #[.int .i64 0, .int .i64 0, .slice none 0 0] 25) = w0 := ⟨_, rfl⟩
  have hs0 : w0.heap.size = w.heap.size + 1 := by rw [← hw0]; simp
  rw [hw0] at K0 b0
  have b1 := bal (Below.refl w0.heap.size w0) (.cells #[.slice none 0 0] 173)
  have KR := Blk.new w0 173 #[.slice none 0 0]
  obtain ⟨w1, hw1⟩ : ∃ w1, w0.alloc (.cells #[.slice none 0 0] 173) = w1 := ⟨_, rfl⟩
  rw [hw1] at b1 KR
  rw [hs0] at KR
  have K1 := K0.below b1
  have B1 : Below w.heap.size w w1 := b0.trans (b1.mono b0.size)
  have HP := hidH (wpair_any (w.heap.size + 1) [] id w1 (wr_nil KR) h0 (by omega) (by simp))
  have HLO := hidH (bs_lo0 (r := w.heap.size + 1) hA (Nat.le_succ _))
  have HS1 := hidH (bs_below hA B1)
  have HK := hidH K1
  have HB := hidH B1
  have HLT := hidH KR.lt
  have HW0 := hidH hw0
  have HW1 := hidH hw1
  have HS0 := hidH hs0
  have HL := hidH hl
  unfold Wrote at HP
  clear K0 b0 hw0 hs0 b1 KR hw1 K1 B1 hA hl
  go_enter Tryz.func77, Tryz.ntmps77
  go_wp2_with fail
  rw [HW0.out, HW1.out]
  refine HP.out.mono ?_
  rintro e w2 ⟨rfl, hw2, b2, k2⟩
  have HP2 := hidH (put_any (w.heap.size + 1) _ l A c w2 hw2 (bs_lo HS1.out HLO.out b2 HLT.out) (by have := HL.out; simp; omega))
  have HB2 := hidH b2
  unfold Wrote at HP2
  clear HP hw2 b2 k2
  go_wp2_with fail
  refine HP2.out.mono ?_
  rintro e w3 ⟨rfl, hw3, b3, k3⟩
  obtain ⟨v, KW, OW⟩ := hw3
  obtain ⟨A3, c3, e3⟩ := own_lenT OW
  subst e3
  have b13 : Below (w.heap.size + 1) w1 w3 := HB2.out.trans b3
  have K4 : Blk w3 w.heap.size 25 #[.int .i64 0, .int .i64 0, .slice none 0 0] := (b13.block _ (by omega)).trans HK.out
  have B3 := hidH (show Below w.heap.size w w3 from HB.out.trans (b13.mono (by omega)))
  have O3 := hidH (show w3.ownsRow (w.heap.size + 2) 5 1 (.slice A3 (tagB id l).length c3) (tagB id l).length ((tagB id l).map (Value.int .u8)) by
    have e : (tagB id l).length = 2 + l.length := by rw [tagB_len]; omega
    rw [e]
    have := OW
    simp only [List.nil_append, List.length_append, List.length_cons, List.length_nil] at this
    simpa [tagB] using this)
  have y0 := KW.cell 0
  have hlw := KW.lt
  have x0 := K4.cell 0
  have x1 := K4.cell 1
  have x2 := K4.cell 2
  have f0 := K4.frozen 0
  have f1 := K4.frozen 1
  have f2 := K4.frozen 2
  simp only [List.getElem?_toArray, List.getElem?_cons_succ, List.getElem?_cons_zero] at x0 x1 x2 y0
  have hlt := K4.lt
  have K5 := hidH K4
  have HN := hidH (show (tagB id l).length = ([] ++ [id / 256, id % 256] ++ l).length by simp [tagB])
  clear K4 KW OW b3 k3 b13 HP2
  go_wp2
  exact bodyPost_ret (v := .agg #[.int .i64 15, .int .i64 0, .slice A3 ([] ++ [id / 256, id % 256] ++ l).length c3]) (by simp [results, Tryz.results77, go_sem, x0, x1, x2]) rfl ⟨A3, c3, by rw [HN.out]; rfl, own_monoT (own_farT (own_farT (own_farT O3.out K5.out (by decide) 0 _) (K5.out.put 0 _) (by decide) 1 _) ((K5.out.put 0 _).put 1 _) (by decide) 2 _) (by omega), bst (bst (bst B3.out (Nat.le_refl _) _) (Nat.le_refl _) _) (Nat.le_refl _) _⟩
theorem chM_ok {x : ChunkM} (h : cmOk x) : chM x.Kind x.Flags x.Body = cmL x := by
  have := cmF_ok h
  unfold cmF at this
  rw [chM, if_pos this]; rfl
theorem chM_tag (id : Int) : chM 15 0 (tagB id zer32) = cmL (tagC id zer32) :=
  chM_ok (x := tagC id zer32) ⟨⟨by show (0 : Int) ≤ 15; decide, by show (15 : Int) ≤ 255; decide⟩, ⟨by show (0 : Int) ≤ 0; decide, by show (0 : Int) ≤ 255; decide⟩, by show (tagB id zer32).length ≤ 160; rw [tagB_len]; decide⟩
set_option maxRecDepth 100000 in
set_option maxHeartbeats 4000000 in
theorem mt_impl (id : Int) (r : List ChunkM) (v : Value) (u : World) (_ : WfV (.int id)) (h : Rd u (st_Chunk r) v) (_ : WfV (st_Chunk r)) (_ : tot (st_Chunk r) ≤ 1048576) :
    Calls Tryz.prog 113 #[.int .i64 id, v] u (Res u (mtR id r).vs) := by
  have R0 := Blk.new u 131 #[.int .i64 0, .slice none 0 0]
  have b0 := bal (Below.refl u.heap.size u) (.cells #[.int .i64 0, .slice none 0 0] 131)
  obtain ⟨w0, hw0⟩ : ∃ w0, u.alloc (.cells #[.int .i64 0, .slice none 0 0] 131) = w0 := ⟨_, rfl⟩
  have hs0 : w0.heap.size = u.heap.size + 1 := by rw [← hw0]; simp
  rw [hw0] at R0 b0
  have HI := hidH (fun (w : World) (hb : Below u.heap.size u w) => Rd.below hb _ h)
  have HW := hidH hw0
  have HS := hidH hs0
  have HR := hidH R0
  have HB := hidH b0
  have HCF := hidH (chunksFault_any r v 7 w0 (HI.out _ b0) (by omega))
  obtain ⟨x0, x1, xz⟩ := R0.two
  have f0 := R0.frozen 0
  have f1 := R0.frozen 1
  obtain ⟨b, hb⟩ : ∃ b, inB id 0 99 = b := ⟨_, rfl⟩
  obtain ⟨A, c, rfl⟩ := st_Chunk_sh h
  clear hw0 hs0 R0 b0 h
  cases b
  · have HM := hidH (show (mtR id r).vs = [.int 3, .bs []] by simp [mtR, mtF, hb, BytesResultM.vs])
    rw [HM.out]
    obtain ⟨y0, y1, yz⟩ := (Blk.new u 131 #[.int .i64 3, .slice none 0 0]).two
    have HBB := hidH (bal (Below.refl u.heap.size u) (.cells #[.int .i64 3, .slice none 0 0] 131))
    go_enter Tryz.func113, Tryz.ntmps113
    go_wp2_with (go_at_call 141; refine (isId_any _ _).mono ?_; rintro e w' ⟨rfl, rfl⟩)
    exact bodyPost_ret (v := .agg #[.int .i64 3, .slice none 0 0]) (by simp [results, Tryz.results113, go_sem, y0, y1]) rfl ⟨[.int .i64 3, .slice none 0 0], rfl, OwN.int 3 (OwN.empty _ (Nat.le_refl _)), HBB.out⟩
  · have HID := hidH (show 0 ≤ id ∧ id ≤ 99 by simpa [inB] using hb)
    clear x0 x1 xz f0 f1
    go_enter Tryz.func113, Tryz.ntmps113
    go_wp2_with (go_at_call 141; refine (isId_any _ _).mono ?_; rintro e w' ⟨rfl, rfl⟩)
    rw [HW.out]
    refine HCF.out.mono ?_
    rintro e w1 ⟨rfl, b1⟩
    have HB1 := hidH (btr HB.out b1)
    have HR1 := hidH (HR.out.below b1)
    have HZ1 := hidH b1.size
    obtain ⟨F, hF⟩ : ∃ F, csF 7 r = F := ⟨_, rfl⟩
    rw [hF]
    clear b1 HCF
    by_cases hz : F = 0
    · have q : (F != 0) = false := by rw [bne_eq_false_iff_eq]; exact hz
      have H0 := hidH (hF.trans hz)
      have HC := hidH (cmsF_ok (csF_zero H0.out).2)
      have HN := hidH (show r.length ≤ 7 from (csF_zero H0.out).1)
      have hnI : (r.length : Int) ≤ 7 := by have := HN.out; omega
      have HIN := hidH hb
      have hmk := make32 w1
      have SZ := zer32_bs w1
      have ba := bal (Below.refl w1.heap.size w1) (.cells (madeCells #[Value.int .u8 0] 32) 5)
      have HZZ : zer32.length = 32 := by decide
      obtain ⟨w2, hw2⟩ : ∃ w2, w1.alloc (.cells (madeCells #[Value.int .u8 0] 32) 5) = w2 := ⟨_, rfl⟩
      rw [hw2] at hmk SZ ba
      have HT := hidH (tagChunk_any id zer32 (some ⟨w1.heap.size, 0, none⟩) 32 w2 SZ HID.out.1 (by have := HID.out; omega) (by rw [HZZ]; omega))
      rw [HZZ] at HT
      have HB2 := hidH (btr HB1.out ba)
      have HR2 := hidH (HR1.out.below ba)
      have HZ2 := hidH ba.size
      clear hz hF SZ ba hw2
      go_wp2_with fail
      refine HT.out.mono ?_
      rintro e w3 ⟨A3, c3, rfl, o3, b3⟩
      obtain ⟨A3', c3', e3, ob3, _, _⟩ := own_ob o3
      injection e3 with e31 e32 e33
      subst e31 e33
      have hl34 : (tagB id zer32).length = 34 := by rw [tagB_len, HZZ]
      have HPC := hidH (packChunk_own 15 0 A3 (tagB id zer32) c3 w3 ob3.bs (by rw [hl34]; omega))
      rw [chM_tag, hl34] at HPC
      rw [hl34]
      obtain ⟨L0, hL0⟩ : ∃ L0, cmL (tagC id zer32) = L0 := ⟨_, rfl⟩
      rw [hL0] at HPC
      have HL0 := hidH hL0
      have HB3 := hidH (btr HB2.out b3)
      have HR3 := hidH (HR2.out.below b3)
      have HZ3 := hidH b3.size
      unfold ckV at HPC ⊢
      obtain ⟨F0, hF0⟩ : ∃ F0, chF 15 0 (tagB id zer32) = F0 := ⟨_, rfl⟩
      rw [hF0] at HPC
      clear o3 ob3 e32 b3 HT hmk hl34 hL0 hF0 HZZ
      go_wp2_with fail
      refine HPC.out.mono ?_
      rintro e w4 ⟨A4, c4, rfl, o4, b4⟩
      have hfl := fldBR F0 A4 L0.length c4 w4
      have HB4 := hidH (btr HB3.out b4)
      have HR4 := hidH (HR3.out.below b4)
      have HO4 := hidH (show w4.ownsRow (u.heap.size + 1) 5 1 (.slice A4 L0.length c4) (txtTo id r 0).length ((txtTo id r 0).map (Value.int .u8)) by
        rw [txtTo_zero, HL0.out]
        exact own_monoT o4 (by have := HS.out; have := HZ1.out; have := HZ2.out; have := HZ3.out; omega))
      clear o4 b4 HPC
      go_wp2
      clear hfl
      go_loopw [6, 26] (fun v i wr => ∃ j : Nat, j ≤ r.length ∧ i = .int .i64 j ∧ wr.ownsRow (u.heap.size + 1) 5 1 v (txtTo id r j).length ((txtTo id r j).map (Value.int .u8)) ∧ Blk wr u.heap.size 131 #[.int .i64 0, .slice none 0 0] ∧ Below u.heap.size u wr) (fun _ i _ => r.length - (intOf i).toNat)
      case atStart => exact ⟨0, by omega, rfl, HO4.out, HR4.out, HB4.out⟩
      case round =>
        obtain ⟨j, hj, rfl, hown, hR, hB⟩ := hrel
        have hsz := hB.size
        have HL := hidH (txtTo_len id r HC.out j hj)
        have HRW := hidH hR
        have hrl := hR.lt
        by_cases hlt : j < r.length
        · have hj0 : (0 : Int) ≤ (j : Int) := by omega
          have hj1 : (j : Int) < (r.length : Int) := by omega
          obtain ⟨g, o, c', B, cB, e, CK, hbl⟩ := chunk_at (HI.out _ hB) hlt
          injection e with e1 e2 e3
          subst e1 e3
          have hok := HC.out r[j] (List.getElem_mem hlt)
          have HSU := hidH (txtTo_succ id r j hlt)
          have hcl := hidH (cmL_len r[j] hok.2.2)
          have p0 := CK.c0
          have p1 := CK.c1
          have p2 := CK.c2
          have hg := CK.lt
          have ba := bal (Below.refl wr.heap.size wr) (.cells #[.int .i64 r[j].Kind, .int .i64 r[j].Flags, .slice B r[j].Body.length cB] 25)
          have KQ := hidH (Blk.new wr 25 #[.int .i64 r[j].Kind, .int .i64 r[j].Flags, .slice B r[j].Body.length cB])
          have HPC := hidH (packChunk_own r[j].Kind r[j].Flags B r[j].Body cB _ (bs_below CK.body ba) hbl)
          rw [chM_ok hok] at HPC
          unfold ckV at HPC
          obtain ⟨f, hf⟩ : ∃ f, chF r[j].Kind r[j].Flags r[j].Body = f := ⟨_, rfl⟩
          rw [hf] at HPC
          have OH := hidH (own_below0 hown ba)
          have HR5 := hidH (hR.below ba)
          have HBW := hidH (btr hB ba)
          clear CK hok hbl hf hown hR hB ba
          go_wp2_with fail
          refine HPC.out.mono ?_
          rintro e w6 ⟨A6, c6, rfl, o6, b6⟩
          obtain ⟨A6', c6', e6, ob6, _, _⟩ := own_ob o6
          injection e6 with e61 _ e63
          subst e61 e63
          have hfl := fldBR f A6 (cmL r[j]).length c6 w6
          have S6 := hidH ob6.bs
          have O6 := hidH (own_below0 OH.out b6)
          have HR6 := hidH (HR5.out.below b6)
          have B6 := hidH (btr HBW.out b6)
          have hsz6 : u.heap.size + 1 ≤ w6.heap.size := HR6.out.lt
          clear o6 ob6 b6 HPC OH HBW HR5 p0 p1 p2
          go_wp2_with (at_builtin; go_loud (refine wpList_append_bs rfl _ _ rfl (u.heap.size + 1) _ _ _ rfl O6.out A6 _ c6 rfl S6.out (by have h1 := HL.out; have h2 := hcl.out; have := HN.out; omega) hsz6 ?_))
          intro v7 w7 o7 g7
          have B7 := hidH (B6.out.grown g7 (by omega) (fun x hx => Nat.le_trans (Nat.le_succ _) (O6.out.lt x hx).1))
          have HR7 := hidH (show Blk w7 u.heap.size 131 #[.int .i64 0, .slice none 0 0] from (g7.block _ HR6.out.lt (fun q => by have := (O6.out.lt _ q.symm).1; omega)).trans HR6.out)
          have O7 := hidH (show w7.ownsRow (u.heap.size + 1) 5 1 v7 (txtTo id r (j + 1)).length ((txtTo id r (j + 1)).map (Value.int .u8)) by
            rw [HSU.out]
            simpa using o7)
          clear o7 g7 O6 B6 S6 hsz6 hfl HR6
          go_wp2
          go_roundw
          case rel => exact ⟨j + 1, by omega, by go_num, O7.out, HR7.out, B7.out⟩
          case measure => simp [intOf]; omega
        · obtain rfl : j = r.length := by omega
          have HLL := hidH (show txtTo id r r.length = txtL id r from rfl)
          rw [HLL.out] at hown
          obtain ⟨L, hL⟩ : ∃ L, txtL id r = L := ⟨_, rfl⟩
          rw [hL] at hown
          obtain ⟨A2, c2, rfl, ob2, hc2, hm2⟩ := own_ob hown
          obtain ⟨x0, x1, xz⟩ := hR.two
          have f0 := hR.frozen 0
          have f1 := hR.frozen 1
          have HO := hidH ob2
          have HCC := hidH (And.intro hc2 hm2)
          have HBW := hidH hB
          have HLE := hidH hL
          clear ob2 hc2 hm2 hR hB hlt hj hown hL
          by_cases h5 : L.length ≤ 500
          · have h5I : (L.length : Int) ≤ 500 := by omega
            have HM := hidH (show (mtR id r).vs = [.int 0, .bs L] by simp [mtR, mtF, HIN.out, H0.out, HLE.out, h5, BytesResultM.vs])
            clear h5
            go_wp2
            exact bodyPost_ret (v := .agg #[.int .i64 0, .slice A2 L.length c2]) (by simp [results, Tryz.results113, go_sem, x0, x1]) rfl (by rw [HM.out]; exact br_res 0 HO.out (Nat.le_refl _) HBW.out HCC.out.1 HCC.out.2 _ _)
          · have h5I : (500 : Int) < (L.length : Int) := by omega
            have HM := hidH (show (mtR id r).vs = [.int 2, .bs []] by simp [mtR, mtF, HIN.out, H0.out, HLE.out, h5, BytesResultM.vs])
            clear h5
            go_wp2
            exact bodyPost_ret (v := .agg #[.int .i64 2, .slice none 0 0]) (by simp [results, Tryz.results113, go_sem, x0, x1]) rfl (by rw [HM.out]; exact br_code 2 (Nat.le_refl _) HBW.out _ _)
    · have q : (F != 0) = true := by rw [bne_iff_ne]; exact hz
      have HM := hidH (show (mtR id r).vs = [.int F, .bs []] by simp [mtR, mtF, hb, hF, hz, BytesResultM.vs])
      have R2 := HR1.out
      obtain ⟨x0, x1, xz⟩ := R2.two
      have f0 := R2.frozen 0
      have f1 := R2.frozen 1
      clear R2 hz hF
      go_wp2
      exact bodyPost_ret (v := .agg #[.int .i64 F, .slice none 0 0]) (by simp [results, Tryz.results113, go_sem, x0, x1]) rfl (by rw [HM.out]; exact br_code F (Nat.le_refl _) HB1.out _ _)
end Go.Proofs.YtacdnednkglobaaGreatDoor

/- The program's tables of SHA-256: roundConstants, firstState, RoundWord; laws on whole arrays by value. -/
namespace Go.Proofs.YtacdnednkglobaaGreatDoor
open Go.RowKit Go.Deep

def uv (x : Nat) : Value := .int .u32 x
/-- Words as an array's cells. -/
def U (ws : List Nat) : Array Value := (ws.map uv).toArray
theorem U_size (ws : List Nat) : (U ws).size = ws.length := by simp [U]
theorem U_one (ws : List Nat) : (U ws).all (·.oneCell') = true := by
  rw [Array.all_eq_true_iff_forall_mem]
  intro v hv
  simp [U, uv] at hv
  obtain ⟨x, _, rfl⟩ := hv
  rfl
theorem U_ci (ws : List Nat) : ((ci ws).map (Value.int .u32)).toArray = U ws := by simp [U, ci, uv]
theorem U_get (ws : List Nat) (j : Nat) (h : j < ws.length) : (U ws)[j]? = some (.int .u32 ((ws.getD j 0 : Nat) : Int)) := by
  simp [U, uv, h]
/-- A new variable by its type's zero value, said by the caller. -/
theorem wpList_allocRow {P : Program} {ops : Array Oper} {rest : List Oper} {o : Oper} {a : Act} {w : World} {Q : Exit → Act → World → Prop} (hg : o.guard = none) (t : TypeId) (ho : o.op = .alloc t)
    (dst : Option Tmp) (hd : o.dst = dst) (cs : Array Value) (hz : (P.info? t).bind (·.zero) = some (.agg cs))
    (h : wpList P ops Q rest (a.put dst (.pointer (some ⟨w.heap.size, 0, none⟩))) (w.alloc (.cells cs t))) : wpList P ops Q (o :: rest) a w := by
  subst hd
  refine wpList_plain hg fun K hK => ?_
  unfold Oper.wp execOp
  cases hi : P.info? t with
  | none => simp [hi] at hz
  | some i =>
    simp [hi] at hz
    have hzr : ∀ u : World, (zeroValue t).run P u = .ok (.agg cs) u := (zero_of_info (n := i.size) (by simp [hi, hz])).1
    simp only [ho, Instr.alloc, hzr, newVar, newRow, Value.cells, Sem.run_bind, run_newObj_alloc, Sem.run_pure, Result.andThen_ok]
    exact hK _ _ h
/-- A new variable that holds an array given by value. -/
theorem wpList_boxRow {P : Program} {ops : Array Oper} {rest : List Oper} {o : Oper} {a : Act} {w : World} {Q : Exit → Act → World → Prop} (hg : o.guard = none) (t : TypeId) (x : Operand) (ho : o.op = .box t x)
    (dst : Option Tmp) (hd : o.dst = dst) (cs : Array Value) (hx : a.eval x = .agg cs)
    (h : wpList P ops Q rest (a.put dst (.pointer (some ⟨w.heap.size, 0, none⟩))) (w.alloc (.cells cs t))) : wpList P ops Q (o :: rest) a w := by
  subst hd
  refine wpList_plain hg fun K hK => ?_
  unfold Oper.wp execOp
  simp only [ho, hx, Sem.run_bind, Instr.box, newVar, newRow, Value.cells, run_newObj_alloc, Sem.run_pure, Result.andThen_ok]
  exact hK _ _ h
theorem info90 : ∃ z, (Tryz.prog.info? 263).bind (·.zero) = some (.agg z) ∧ z.size = 64 := ⟨Array.replicate 64 (.int .u32 0), by kernel_rfl, by simp⟩
set_option maxRecDepth 100000 in
set_option maxHeartbeats 4000000 in
theorem consts_any (w : World) : Calls Tryz.prog 187 #[] w fun e w' => e = .returned (.agg (U keysN)) ∧ Below w.heap.size w w' := by
  obtain ⟨z, hz, hz2⟩ := info90
  go_enter Tryz.func187, Tryz.ntmps187
  go_wp2_with (first | refine wpList_allocRow rfl _ rfl _ rfl z hz ?_ | refine wpList_buildFlatArrTo rfl 263 248 64 _ rfl .u32 (ci keysN) _ rfl (by kernel_rfl) (by kernel_rfl) (by kernel_rfl) (by kernel_rfl) ?_ | refine wpList_store_rowTo rfl _ _ _ rfl rfl w.heap.size (U keysN) rfl (by rw [← U_ci]; rfl) _ _ (heap_alloc_last w _) (by kernel_rfl) hz2 (U_one _) ?_)
  have hb := Blk.new w 263 z
  exact bodyPost_ret (v := .agg (U keysN)) (results_cell_row rfl _ _ w.heap.size 263 _ (0, 0) (.array 64 248) rfl (setRow_heap _ _ _ _ _ _ hb) (by kernel_rfl) rfl (by kernel_rfl)) rfl ⟨rfl, below_setRow (bal (Below.refl _ _) _) (Nat.le_refl _) _⟩
theorem info77 : ∃ z, (Tryz.prog.info? 255).bind (·.zero) = some (.agg z) ∧ z.size = 8 := ⟨Array.replicate 8 (.int .u32 0), by kernel_rfl, by simp⟩
theorem info91 : ∃ z, (Tryz.prog.info? 265).bind (·.zero) = some (.agg z) ∧ z.size = 64 := ⟨Array.replicate 64 (.int .u32 0), by kernel_rfl, by simp⟩

set_option maxHeartbeats 1000000 in
theorem first_any (w : World) : Calls Tryz.prog 179 #[] w fun e w' => e = .returned (.agg (U startN)) ∧ Below w.heap.size w w' := by
  obtain ⟨z, hz, hz2⟩ := info77
  go_enter Tryz.func179, Tryz.ntmps179
  go_wp2_with (first | refine wpList_allocRow rfl _ rfl _ rfl z hz ?_ | refine wpList_buildFlatArrTo rfl 255 248 8 _ rfl .u32 (ci startN) _ rfl (by kernel_rfl) (by kernel_rfl) (by kernel_rfl) (by kernel_rfl) ?_ | refine wpList_store_rowTo rfl _ _ _ rfl rfl w.heap.size (U startN) rfl (by rw [← U_ci]; rfl) _ _ (heap_alloc_last w _) (by kernel_rfl) hz2 (U_one _) ?_)
  have hb := Blk.new w 255 z
  exact bodyPost_ret (v := .agg (U startN)) (results_cell_row rfl _ _ w.heap.size 255 _ (0, 0) (.array 8 248) rfl (setRow_heap _ _ _ _ _ _ hb) (by kernel_rfl) rfl (by kernel_rfl)) rfl ⟨rfl, below_setRow (bal (Below.refl _ _) _) (Nat.le_refl _) _⟩
theorem wpList_indexArr {P : Program} {ops : Array Oper} {rest : List Oper} {o : Oper} {a : Act} {w : World} {Q : Exit → Act → World → Prop} (hg : o.guard = none) (t : TypeId) (x y : Operand) (ho : o.op = .index t x y)
    (dst : Option Tmp) (hd : o.dst = dst) (cs : Array Value) (k : IntKind) (n len : Nat) (e : TypeId) (v : Value) (hx : a.eval x = .agg cs) (hy : a.eval y = .int k (n : Int))
    (hu : P.underlying t = some (.array len e)) (hn : n < len) (hs : (P.info? e).map (·.size) = some 1) (ie : IntKind) (he : P.underlying e = some (.int ie)) (hv : cs[n]? = some v)
    (h : wpList P ops Q rest (a.put dst v) w) : wpList P ops Q (o :: rest) a w := by
  subst hd
  refine wpList_plain hg fun K hK => ?_
  have hsz : (sizeOf e).run P w = .ok 1 w := by
    cases hq : P.info? e with
    | none => simp [hq] at hs
    | some i => simp [hq] at hs; simp [sizeOf, typeInfo, hq, hs]
  have hp : (part e cs n).run P w = .ok v w := by
    simp [part, isAgg, run_underlying he, Sem.run_bind, hv]
  have hrun : (execOp a.eval o).run P w = .ok (.value v) w := by
    unfold execOp
    simp [ho, hx, hy, Instr.index, asIntOf, Sem.run_bind, run_underlying hu, hn, hsz, hp]
  unfold Oper.wp
  rw [hrun]
  exact hK _ _ h
/-- The result's block behind a call. -/
theorem xb {w w1 : World} {t : TypeId} {a b : Value} (hb : Below (w.alloc (.cells #[a, b] t)).heap.size (w.alloc (.cells #[a, b] t)) w1) : Hid (Blk w1 w.heap.size t #[a, b]) ∧ Hid (Below w.heap.size w w1) :=
  ⟨(Blk.new w t _).below hb, btr (bal (Below.refl _ _) _) hb⟩
end Go.Proofs.YtacdnednkglobaaGreatDoor

/- Whole blocks of bytes: read, written, copied to. -/
namespace Go.Proofs.YtacdnednkglobaaGreatDoor
open Go.RowKit Go.Deep

/-- A whole block of bytes. -/
def Brow (w : World) (g : Nat) (l : List Int) : Prop := Blk w g 5 (l.map (Value.int .u8)).toArray
theorem Brow.cell {w : World} {g : Nat} {l : List Int} (h : Brow w g l) (j : Nat) (hj : j < l.length) : w.cell? ⟨g, j, none⟩ = some (.int .u8 (l.getD j 0)) := by
  rw [Blk.cell h j]; simp [hj]
theorem Brow.set {w : World} {g : Nat} {l : List Int} (h : Brow w g l) (j : Nat) (v : Int) : Brow (w.setCell ⟨g, j, none⟩ (.int .u8 v)) g (l.set j v) := by
  have := heap_setCell_same w g j _ _ (.int .u8 v) h
  unfold Brow Blk
  rw [this]
  simp [List.map_set]
theorem Brow.ob {w : World} {g B : Nat} {l : List Int} (h : Brow w g l) (hB : B ≤ g) : Ob B w.heap.size w (some ⟨g, 0, none⟩) l :=
  .inr ⟨g, 0, rfl, hB, Blk.lt h, Nat.le_refl _, fun j hj => ⟨by rw [Nat.zero_add]; exact h.cell j hj, Blk.frozen h _⟩⟩
theorem Brow.of_own {w : World} {B e g n : Nat} {xs : List Value} {l : List Int} (h : w.ownsRow B e 1 (.slice (some ⟨g, 0, none⟩) n n) n xs) (he : e = 5) (hx : xs = l.map (Value.int .u8)) : Brow w g l := by
  rcases h.2 with ⟨h', _⟩ | ⟨g', cap', cur, h', hb, hg, hnc, hcm, hcs, htake⟩
  · simp at h'
  · simp only [Value.slice.injEq, Option.some.injEq, Addr.mk.injEq, and_true, true_and] at h'
    obtain ⟨rfl, rfl⟩ := h'
    have : cur.toList = xs := by rw [← htake, List.take_of_length_le (by simp; omega)]
    unfold Brow Blk
    rw [hg, he, ← hx, ← this]
theorem bs_src {w : World} {A : Option Addr} {l : List Int} (h : Bs w A l) (hp : 0 < l.length) : ∃ ad, A = some ad ∧ ∀ (j : Nat) v, (l.map (Value.int .u8))[j]? = some v → w.cell? (ad.add j) = some v := by
  rcases h with rfl | ⟨b, off, rfl, hb, hc⟩
  · simp at hp
  · refine ⟨_, rfl, fun j v hv => ?_⟩
    have hj : j < l.length := by
      rcases Nat.lt_or_ge j l.length with h | h
      · exact h
      · rw [List.getElem?_eq_none (by simpa using h)] at hv; cases hv
    have e : (⟨b, off, none⟩ : Addr).add j = ⟨b, off + j, none⟩ := by unfold Addr.add; split <;> simp_all
    rw [e, hc j hj, ← hv]
    simp [hj]
theorem made_u8 (N : Nat) : (madeCells (Value.int .u8 0).cells (N * 1)).toList = (List.replicate N (0 : Int)).map (Value.int .u8) := by
  rw [Nat.mul_one, show (Value.int IntKind.u8 0).cells = #[Value.int IntKind.u8 0] from rfl, toList_madeCells_one]
  simp
theorem run_copy_b {w : World} {g N c T : Nat} {A : Option Addr} {l X : List Int} (hB : Brow w g X) (hN : X.length = N) (hl : l.length ≤ N) (hA : Bs w A l) :
    ∃ w', (Builtin.copy_ #[22, 22] T #[.slice (some ⟨g, 0, none⟩) N N, .slice A l.length c]).run Tryz.prog w = .ok (goInt l.length) w' ∧ Brow w' g (l ++ X.drop l.length) ∧ Below g w w' := by
  have hmin : Nat.min l.length N = l.length := Nat.min_eq_left hl
  rcases Nat.eq_zero_or_pos l.length with h0 | h0
  · have hl0 : l = [] := List.eq_nil_of_length_eq_zero h0
    subst hl0
    refine ⟨w, ?_, by simpa using hB, Below.refl _ _⟩
    exact run_copy_none (P := Tryz.prog) w 22 22 T 5 (some ⟨g, 0, none⟩) A N N 0 c (by kernel_rfl) (by kernel_rfl) (by simp)
  · obtain ⟨ad, rfl, hsrc⟩ := bs_src hA h0
    have := run_copy_row (P := Tryz.prog) w 22 22 T 5 g 0 N N ad l.length c _ _ (l.map (Value.int .u8)) (by kernel_rfl) (by kernel_rfl) hB (by simp [hmin]) hsrc (by simp; omega) (by intro v hv; simp at hv; obtain ⟨x, _, rfl⟩ := hv; rfl)
    refine ⟨_, by simpa using this, ?_, below_setRow (Below.refl _ _) (Nat.le_refl _) _⟩
    unfold Brow Blk
    rw [setRow_heap w g _ _ _ _ hB]
    simp
end Go.Proofs.YtacdnednkglobaaGreatDoor

/- The program's PadMessage. -/
namespace Go.Proofs.YtacdnednkglobaaGreatDoor
open Go.RowKit Go.Deep

/-- The number of bits as it is written, k bytes of it. -/
def byteK (n : Int) (k : Nat) : Int := n / 2 ^ (8 * k) % 256
def tailK (n : Int) (k : Nat) : List Int := (List.range 8).map fun j => if 8 ≤ j + k then byteK n (7 - j) else 0
def padS (l : List Int) (n : Int) (z k : Nat) : List Int := padTo l z ++ tailK n k
theorem tailK_len (n : Int) (k : Nat) : (tailK n k).length = 8 := by simp [tailK]
theorem padS_len (l : List Int) (n : Int) (z k : Nat) : (padS l n z k).length = l.length + 9 + z := by simp [padS, padTo_len, tailK_len]; omega
theorem tailK_succ (n : Int) (k : Nat) (hk : k < 8) : (tailK n k).set (7 - k) (byteK n k) = tailK n (k + 1) := by
  apply List.ext_getElem
  · simp [tailK_len]
  · intro j h1 h2
    have hj : j < 8 := by simpa [tailK_len] using h2
    rw [List.getElem_set]
    simp only [tailK, List.getElem_map, List.getElem_range]
    split
    · next h => rw [if_pos (by omega), show 7 - j = k from by omega]
    · next h =>
      by_cases hh : 8 ≤ j + k
      · rw [if_pos hh, if_pos (by omega)]
      · rw [if_neg hh, if_neg (by omega)]
theorem padS_succ (l : List Int) (n : Int) (z k : Nat) (hk : k < 8) : (padS l n z k).set ((padS l n z k).length - 1 - k) (byteK n k) = padS l n z (k + 1) := by
  rw [padS_len, padS, List.set_append_right _ _ (by rw [padTo_len]; omega), padTo_len, show l.length + 9 + z - 1 - k - (l.length + 1 + z) = 7 - k from by omega, tailK_succ n k hk, padS]
theorem padS_zero (l : List Int) (n : Int) (z : Nat) : padS l n z 0 = (l ++ List.replicate (9 + z) 0).set l.length 128 := by
  have : tailK n 0 = List.replicate 8 0 := rfl
  rw [padS, this, padTo, List.set_append_right _ _ (by omega), Nat.sub_self, show 9 + z = (z + 8) + 1 from by omega, List.replicate_succ (n := z + 8), List.set_cons_zero, ← List.replicate_append_replicate]
  simp
theorem padS_end (l : List Int) (hl : l.length ≤ 700) : padS l (8 * (l.length : Int)) (zerosN l.length) 8 = padL l := by
  have : tailK (8 * (l.length : Int)) 8 = [0, 0, 0, 0] ++ pk (8 * (l.length : Int)) := by
    simp [tailK, List.range_succ, byteK, pk]
    omega
  rw [padS, padL, this, List.append_assoc]
set_option maxHeartbeats 1000000 in
theorem psize_any (n : Nat) (w : World) (hn : (n : Int) ≤ 50000) : Calls Tryz.prog 185 #[.int .i64 n] w fun e w' => e = .returned (.int .i64 ((n + 9 + zerosN n : Nat) : Int)) ∧ w = w' := by
  go_enter Tryz.func185, Tryz.ntmps185
  go_wp2
  go_ret
  refine ⟨ret_int ?_, rfl⟩
  unfold zerosN
  omega
theorem info22 : Tryz.prog.underlying 22 = some (.slice 5) := by kernel_rfl
set_option maxRecDepth 100000 in
set_option maxHeartbeats 2000000 in
theorem padm_impl (A : Option Addr) (l : List Int) (c : Nat) (w : World) (hA : Bs w A l) (hm : (l.length : Int) ≤ 9223372036854775807) :
    Calls Tryz.prog 178 #[.slice A l.length c] w (BRes w (padC l) (padM l)) := by
  by_cases h : l.length ≤ 700
  · rw [padC, padM, if_pos h, if_pos h]
    have h1 : (l.length : Int) ≤ 700 := by omega
    have H := hidH h
    obtain ⟨i0, hi, hz0, hz1, hz2⟩ := info_parts (infoU8)
    have HI := hidH (And.intro hi (And.intro hz0 (And.intro hz1 hz2)))
    clear hi hz0 hz1 hz2
    obtain ⟨X1, hX1⟩ : ∃ X1, X1 = l.map (Value.int .u8) := ⟨_, rfl⟩
    have HX := hidH hX1
    clear hX1 h
    have hA2 := hidH (bs_below hA (bal (Below.refl _ w) (.cells #[.int .i64 0, .slice none 0 0] 131)))
    clear hA
    obtain ⟨N, hN⟩ : ∃ N, l.length + 9 + zerosN l.length = N := ⟨_, rfl⟩
    have hN2 : N ≤ 800 := by rw [← hN]; unfold zerosN; omega
    have HN := hidH hN
    clear hN
    go_enter Tryz.func178, Tryz.ntmps178
    go_wp2_with fail
    refine (psize_any l.length _ (by omega)).mono ?_
    rintro e w' ⟨rfl, rfl⟩
    rw [HN.out]
    go_wp2_with (first | (refine wpList_make_full _ rfl _ _ _ rfl w.heap.size 5 i0 _ 1 info22 HI.out.1 HI.out.2.1 HI.out.2.2.1 .i64 .i64 _ _ N rfl rfl rfl rfl (by rw [HI.out.2.2.2]; omega) (by unfold maxLen; omega) (by simp) ?_; intro w1 o1 g1; simp only [World.size_alloc] at o1; have R1 := hidH (Brow.of_own o1 rfl (made_u8 N)); have B1 := hidH ((bal (Below.refl w.heap.size w) (.cells #[.int .i64 0, .slice none 0 0] 131)).grown g1 (by simp) (fun k hk => by cases hk)); have S1 := hidH ((bs_below hA2.out ((Below.refl _ _).grown g1 (Nat.le_refl _) (fun k hk => by cases hk)))); have T1 := hidH ((Blk.new w 131 #[.int .i64 0, .slice none 0 0]).below ((Below.refl _ _).grown g1 (Nat.le_refl _) (fun k hk => by cases hk))); clear o1 g1))
    obtain ⟨w2, hr, h2, b2⟩ := run_copy_b (T := 3) (c := c) R1.out (N := N) (by simp) (by have := HN.out; omega) S1.out
    rw [hr]
    have R2 := hidH h2
    have T2 := hidH ((b2.block _ (Nat.lt_succ_self _)).trans T1.out)
    have B2 := hidH (B1.out.trans (b2.mono (by omega)))
    have hlen : l.length < N := by have := HN.out; omega
    have hlenI : (l.length : Int) < (N : Int) := by omega
    have c1 := R2.out.cell l.length (by have := HN.out; simp; omega)
    have f1 := R2.out.frozen l.length
    clear h2 b2 R1 B1 S1 T1 hr
    go_wp2
    have R3 := hidH (R2.out.set l.length 128)
    have T3 := hidH ((heap_setCell_other w2 ⟨w.heap.size + 1, l.length, none⟩ w.heap.size (.int .u8 128) (by simp)).trans T2.out)
    have B3 := hidH (bst B2.out (show w.heap.size ≤ (⟨w.heap.size + 1, l.length, none⟩ : Addr).block from Nat.le_succ _) (.int .u8 128))
    go_loopw [25] (fun i wr => ∃ k : Nat, k ≤ 8 ∧ i = .int .i64 k ∧ Brow wr (w.heap.size + 1) (padS l ((l.length : Int) * 8) (zerosN l.length) k) ∧ wr.heap[w.heap.size]? = some (.cells #[.int .i64 0, .slice none 0 0] 131 (0, 0)) ∧ Below w.heap.size w wr) (fun i _ => 8 - (intOf i).toNat)
    case atStart => exact ⟨0, by omega, rfl, by rw [padS_zero]; have := R3.out; rwa [List.drop_replicate, show N - l.length = 9 + zerosN l.length from by have := HN.out; omega] at this, T3.out, B3.out⟩
    case round =>
      obtain ⟨k, hk, rfl, hR, hT, hB⟩ := hrel
      have hP := padS_len l ((l.length : Int) * 8) (zerosN l.length) k
      rw [HN.out] at hP
      by_cases hlt : k < 8
      · have hlt2 : (k : Int) < 8 := by omega
        have hlt0 : (0 : Int) ≤ (k : Int) := by omega
        obtain ⟨J, hJ⟩ : ∃ J : Nat, N - 1 - k = J := ⟨_, rfl⟩
        have hN9 : l.length + 9 ≤ N := by have := HN.out; omega
        have hJI : (N : Int) - 1 - (k : Int) = (J : Int) := by omega
        have hJN : (J : Int) < (N : Int) := by omega
        have c1 := hR.cell J (by omega)
        have f1 := Blk.frozen hR J
        have hn : (0 : Int) ≤ (l.length : Int) * 8 := by omega
        have hn2 : (l.length : Int) * 8 ≤ 5600 := by omega
        have hs := padS_succ l ((l.length : Int) * 8) (zerosN l.length) k hlt
        rw [hP, hJ] at hs
        have HS := hidH hs
        have HR := hidH hR
        have HT := hidH hT
        have HB := hidH hB
        clear hs hR hT hB hP hJ
        go_wp2
        go_round
        case rel =>
          have h2 := Brow.set HR.out J ((l.length : Int) * 8 / 2 ^ (8 * k) % 256)
          refine ⟨k + 1, by omega, by go_num, ?_, (heap_setCell_other wr ⟨w.heap.size + 1, J, none⟩ w.heap.size _ (by simp)).trans HT.out, bst HB.out (Nat.le_succ _) _⟩
          rw [← HS.out]
          exact h2
        case measure => simp [intOf]; omega
      · obtain rfl : k = 8 := by omega
        have HR := hidH hR
        have HB := hidH hB
        have X : Blk wr w.heap.size 131 #[.int .i64 0, .slice none 0 0] := hT
        obtain ⟨x0, x1, xz⟩ := X.two
        have f0 := X.frozen 0
        have f1 := X.frozen 1
        have HN2 := hidH (show (padL l).length = N by rw [padL_len, HN.out])
        clear hR hT hB X hP hlt
        go_wp2
        exact bodyPost_ret (v := .agg #[.int .i64 0, .slice (some ⟨w.heap.size + 1, 0, none⟩) N N]) (by simp [results, Tryz.results178, go_sem, x0, x1]) rfl (by
          have e : padS l ((l.length : Int) * 8) (zerosN l.length) 8 = padL l := by rw [Int.mul_comm]; exact padS_end l H.out
          have := HR.out
          rw [e] at this
          have r := bres_set 0 (this.ob (Nat.le_refl _)) HB.out (cp := N) (by rw [HN2.out]; exact Nat.le_refl _) (by omega) (.int .i64 0) (.slice (some ⟨w.heap.size + 1, 0, none⟩) N N)
          rw [HN2.out] at r
          exact r)
  · rw [padC, padM, if_neg h, if_neg h]
    have h1 : (700 : Int) < (l.length : Int) := by omega
    clear h hA
    go_enter Tryz.func178, Tryz.ntmps178
    go_wp2
    exact bodyPost_ret (v := .agg #[.int .i64 2, .slice none 0 0]) (by simp [results, Tryz.results178, go_sem]) rfl ⟨_, _, rfl, .inl rfl, bal (Below.refl _ _) _, Nat.le_refl _, by omega⟩
end Go.Proofs.YtacdnednkglobaaGreatDoor

/- The program's schedule of SHA-256: schedule, numbersOf, ScheduleOf. -/
namespace Go.Proofs.YtacdnednkglobaaGreatDoor
open Go.RowKit Go.Deep

def Ub (l : List Int) : Array Value := (l.map (Value.int .u8)).toArray
def Urow (w : World) (g : Nat) (t : TypeId) (ws : List Nat) : Prop := Blk w g t (U ws)
theorem Urow.cell {w : World} {g : Nat} {t : TypeId} {ws : List Nat} (h : Urow w g t ws) (j : Nat) (hj : j < ws.length) : w.cell? ⟨g, j, none⟩ = some (.int .u32 ((ws.getD j 0 : Nat) : Int)) := by
  rw [Blk.cell h j]; exact U_get ws j hj
theorem Urow.set {w : World} {g : Nat} {t : TypeId} {ws : List Nat} (h : Urow w g t ws) (j x : Nat) : Urow (w.setCell ⟨g, j, none⟩ (.int .u32 (x : Int))) g t (ws.set j x) := by
  have := heap_setCell_same w g j _ _ (.int .u32 (x : Int)) h
  unfold Urow Blk
  rw [this]
  simp [U, uv, List.map_set]
theorem Urow.far {w : World} {g : Nat} {t : TypeId} {ws : List Nat} (h : Urow w g t ws) {p : Addr} (hp : p.block ≠ g) (u : Value) : Urow (w.setCell p u) g t ws := (heap_setCell_other w p g u (fun e => hp e.symm)).trans h
theorem blk_far {w : World} {g : Nat} {t : TypeId} {cs : Array Value} (h : Blk w g t cs) {p : Addr} (hp : p.block ≠ g) (u : Value) : Blk (w.setCell p u) g t cs := (heap_setCell_other w p g u (fun e => hp e.symm)).trans h
def part1 (l : List Int) (k : Nat) : List Nat := (List.range k).map (wordN l) ++ List.replicate (64 - k) 0
def part2 (l : List Int) (n : Nat) : List Nat := schedTo l n ++ List.replicate (48 - n) 0
theorem part1_len (l : List Int) (k : Nat) (h : k ≤ 64) : (part1 l k).length = 64 := by simp [part1]; omega
theorem part2_len (l : List Int) (k : Nat) (h : k ≤ 48) : (part2 l k).length = 64 := by simp [part2, schedTo_len]; omega
theorem part1_succ (l : List Int) (k : Nat) (h : k < 64) : (part1 l k).set k (wordN l k) = part1 l (k + 1) := by
  rw [part1, List.set_append_right _ _ (by simp), part1, List.range_succ]
  simp only [List.length_map, List.length_range, Nat.sub_self, List.map_append, List.map_cons, List.map_nil, List.append_assoc]
  rw [show 64 - k = (64 - (k + 1)) + 1 from by omega, List.replicate_succ, List.set_cons_zero]
  simp
theorem part2_succ (l : List Int) (k : Nat) (h : k < 48) : (part2 l k).set (16 + k) (nextN (schedTo l k)) = part2 l (k + 1) := by
  rw [part2, List.set_append_right _ _ (by rw [schedTo_len]; omega), part2, schedTo_len, Nat.sub_self, schedTo]
  rw [show 48 - k = (48 - (k + 1)) + 1 from by omega, List.replicate_succ, List.set_cons_zero]
  simp
theorem part2_get (l : List Int) (k j : Nat) (h : j < 16 + k) : (part2 l k).getD j 0 = (schedTo l k).getD j 0 := by
  simp only [part2, List.getD_eq_getElem?_getD]
  rw [List.getElem?_append_left (by rw [schedTo_len]; exact h)]
theorem info84 : (Tryz.prog.info? 226).map (·.size) = some 64 := by kernel_rfl
theorem zero91 : (Tryz.prog.info? 265).bind (·.zero) = some (.agg (U (List.replicate 64 0))) := by kernel_rfl
theorem rot_nat (x k : Nat) (n : Int) (w : World) (hn : n = k) (hx : x < 4294967296) (hk : k ≤ 31) :
    Calls Tryz.prog 192 #[.int .u32 (x : Int), .int .i64 n] w fun e w' => e = .returned (.int .u32 ((rotN x k : Nat) : Int)) ∧ w = w' := by
  subst hn
  exact rotate_any x k w (by omega) (by omega) (by omega) (by omega)
theorem slice84 (u : World) (b k : Nat) (hk : k < 16) : (Instr.sliceAt 226 (.pointer (some ⟨b, 0, none⟩)) (some (.int .i64 ((k : Int) * 4))) (some (.int .i64 (((k : Int) + 1) * 4))) none).run Tryz.prog u = .ok (.slice (some ⟨b, 4 * k, none⟩) 4 (64 - 4 * k)) u := by
  have hal : Tryz.prog.arrayLen 226 = 64 := by kernel_rfl
  have hel : Tryz.prog.elem 226 = 5 := by kernel_rfl
  have hs : (sizeOf 5).run Tryz.prog u = .ok 1 u := by
    cases hq : Tryz.prog.info? 5 with
    | none => have := infoU8; simp [hq] at this
    | some i => have := infoU8; simp [hq] at this; simp [sizeOf, typeInfo, hq, this]
  rw [run_sliceAt_array_lh u 226 ⟨b, 0, none⟩ (by rw [hal, hel]; kernel_rfl) .i64 .i64 ((k : Int) * 4) (((k : Int) + 1) * 4) (by omega) (by omega) (by rw [hal]; omega), hel, hs, hal]
  have e : ((k : Int) * 4).toNat = 4 * k := by omega
  have e2 : (((k : Int) + 1) * 4).toNat = 4 * k + 4 := by omega
  simp only [Result.andThen, slicedAt, e, e2]
  rw [if_neg (by omega)]
  have e3 : (⟨b, 0, none⟩ : Addr).add (4 * k * 1) = ⟨b, 4 * k, none⟩ := by unfold Addr.add; split <;> simp_all
  rw [e3]
  simp
theorem small_bits (x a b c d : Nat) (hx : x < 4294967296) (ha : a ≤ 32) (hb : b ≤ 32) (hd : 2 ^ c = d) :
    bits BinOp.xor IntKind.u32 (bits BinOp.xor IntKind.u32 ((rotN x a : Nat) : Int) ((rotN x b : Nat) : Int)) ((x : Int) / (d : Int)) = ((smallN x a b c : Nat) : Int) := by
  have h1 := rotN_lt x a hx ha
  have h2 := rotN_lt x b hx hb
  have h3 : x / d < 4294967296 := Nat.lt_of_le_of_lt (Nat.div_le_self _ _) hx
  rw [u32_xor_nat _ _ h1 h2, show (x : Int) / (d : Int) = ((x / d : Nat) : Int) from by simp, u32_xor_nat _ _ (xor_lt _ _ h1 h2) h3, smallN, hd]
theorem Urow.drewN {w : World} {g : Nat} {t : TypeId} {ws : List Nat} (h : Urow w g t ws) (n : Nat) : Urow (w.drewN n) g t ws := Blk.below h (below_drewN (Below.refl _ _) n)
set_option maxRecDepth 100000 in
set_option maxHeartbeats 4000000 in
theorem sched_impl (l : List Int) (w : World) (hl : Bytes l) (h64 : l.length = 64) :
    Calls Tryz.prog 188 #[.agg (Ub l)] w fun e w' => e = .returned (.agg (U (schedN l))) ∧ Below w.heap.size w w' := by
  obtain ⟨cs, hcs⟩ : ∃ cs, Ub l = cs := ⟨_, rfl⟩
  obtain ⟨zs, hzs⟩ : ∃ zs, U (List.replicate 64 0) = zs := ⟨_, rfl⟩
  have hz := zero91
  rw [hcs]
  rw [hzs] at hz
  have HZ := hidH hz
  have hat2 : ∀ (k : Nat) (u : World), (Instr.arrayAt 250 (.slice (some ⟨w.heap.size, 4 * k, none⟩) 4 (64 - 4 * k))).run Tryz.prog u = .ok (.pointer (some ⟨w.heap.size, 4 * k, none⟩)) u := fun k u => run_arrayAt u 250 5 4 _ _ _ Tryz.underlying250 (by omega)
  clear hz
  go_enter Tryz.func188, Tryz.ntmps188
  go_wp2_with (first | refine wpList_allocRow rfl 265 rfl _ rfl zs HZ.out ?_ | refine wpList_boxRow rfl _ _ rfl _ rfl cs rfl ?_)
  have B0 := hidH (bal (bal (bal (Below.refl w.heap.size w) (.cells cs 226)) (.cells zs 265)) (.cells zs 265))
  have D0 := hidH (show Blk _ w.heap.size 226 (Ub l) from hcs ▸ ((Blk.new w 226 cs).alloc (.cells zs 265)).alloc (.cells zs 265))
  have R0 := hidH (show Blk _ (w.heap.size + 1) 265 zs from by have := (Blk.new (w.alloc (.cells cs 226)) 265 zs).alloc (.cells zs 265); simpa using this)
  have S0 := hidH (show Urow (((w.alloc (.cells cs 226)).alloc (.cells zs 265)).alloc (.cells zs 265)) (w.heap.size + 1 + 1) 265 (part1 l 0) from by
    have h := (Blk.new ((w.alloc (.cells cs 226)).alloc (.cells zs 265)) 265 zs)
    simp only [World.size_alloc] at h
    have e : part1 l 0 = List.replicate 64 0 := by simp only [part1, List.range_zero, List.map_nil, List.nil_append, Nat.sub_zero]
    rw [Urow, e, hzs]
    exact h)
  go_loopw [10] (fun i wr => ∃ k : Nat, k ≤ 16 ∧ i = .int .i64 k ∧ Urow wr (w.heap.size + 1 + 1) 265 (part1 l k) ∧ Blk wr w.heap.size 226 (Ub l) ∧ Blk wr (w.heap.size + 1) 265 zs ∧ Below w.heap.size w wr) (fun i _ => 16 - (intOf i).toNat)
  case atStart => exact ⟨0, by omega, rfl, S0.out, hcs ▸ D0.out, R0.out, B0.out⟩
  case round =>
    obtain ⟨k, hk, rfl, hS, hD, hR, hB⟩ := hrel
    by_cases hlt : k < 16
    · have hlt2 : (k : Int) < 16 := by omega
      have hlt0 : (0 : Int) ≤ (k : Int) := by omega
      have hsz := hB.size
      have p0 := hl.get (4 * k)
      have q0 := hl.get (4 * k + 1)
      have r0 := hl.get (4 * k + 2)
      have s0 := hl.get (4 * k + 3)
      have cell : ∀ j, j < 64 → wr.cell? ⟨w.heap.size, j, none⟩ = some (.int .u8 (l.getD j 0)) := fun j hj => by
        rw [Blk.cell hD j]; simp [Ub, h64, hj]
      have c0 := cell (4 * k) (by omega)
      have c1 := cell (4 * k + 1) (by omega)
      have c2 := cell (4 * k + 2) (by omega)
      have c3 := cell (4 * k + 3) (by omega)
      have hsl : ∀ u : World, (Instr.sliceAt 226 (.pointer (some ⟨w.heap.size, 0, none⟩)) (some (.int .i64 ((k : Int) * 4))) (some (.int .i64 (((k : Int) + 1) * 4))) none).run Tryz.prog u = .ok (.slice (some ⟨w.heap.size, 4 * k, none⟩) 4 (64 - 4 * k)) u := fun u => slice84 u w.heap.size k (by omega)
      have hat := hat2 k
      clear cell
      have DD := hidH hD
      have HS := hidH hS
      have HR := hidH hR
      have HB := hidH hB
      clear hD hS hR hB
      go_wp2_with fail
      refine (decode_any _ _ _ _ _ p0.1 p0.2 q0.1 q0.2 r0.1 r0.2 s0.1 s0.2).mono ?_
      rintro e w1 ⟨rfl, b1⟩
      have HS1 := hidH (Blk.below HS.out b1)
      have HD1 := hidH (DD.out.below b1)
      have HR1 := hidH (HR.out.below b1)
      have HB1 := hidH (btr HB.out b1)
      have cS := Urow.cell HS1.out k (by rw [part1_len _ _ (by omega)]; omega)
      have fS := Blk.frozen HS1.out k
      have hw := hidH (wordN_cast hl k)
      have hw2 := wordN_lt hl k
      rw [show l.getD (4 * k) 0 * 16777216 + l.getD (4 * k + 1) 0 * 65536 + l.getD (4 * k + 2) 0 * 256 + l.getD (4 * k + 3) 0 = ((wordN l k : Nat) : Int) from hw.out.symm]
      have hs := hidH (part1_succ l k (by omega))
      generalize wordN l k = x at *
      have hx : (x : Int) ≤ 4294967295 := by omega
      clear p0 q0 r0 s0 c0 c1 c2 c3 hsl hat DD HS HR HB b1 hw hsz
      go_wp2
      go_roundw
      case rel =>
        refine ⟨k + 1, by omega, by go_num, ?_, blk_far HD1.out (by simp; omega) _, blk_far HR1.out (by simp) _, bst HB1.out (by simp; omega) _⟩
        rw [← hs.out]
        exact Urow.set HS1.out k x
      case measure => simp [intOf]; omega
    · obtain rfl : k = 16 := by omega
      have HS := hidH (show Urow wr (w.heap.size + 1 + 1) 265 (part2 l 0) from hS)
      have DD := hidH hD
      have HR := hidH hR
      have HB := hidH hB
      clear hS hD hR hB hlt hk hat2
      rw [show ((16 : Nat) : Int) = 16 from rfl]
      go_wp2
      go_loopw [5] (fun i wr => ∃ k : Nat, k ≤ 48 ∧ i = .int .i64 ((16 + k : Nat) : Int) ∧ Urow wr (w.heap.size + 1 + 1) 265 (part2 l k) ∧ Blk wr (w.heap.size + 1) 265 zs ∧ Below w.heap.size w wr) (fun i _ => 64 - (intOf i).toNat)
      case atStart => exact ⟨0, by omega, rfl, HS.out, HR.out, HB.out⟩
      case round =>
        obtain ⟨k, hk, rfl, hS, hR, hB⟩ := hrel
        have hsz2 := hB.size
        by_cases hlt : k < 48
        · have hlti : (16 : Int) + (k : Int) < 64 := by omega
          have j1 : (16 : Int) + (k : Int) - 15 = ((k + 1 : Nat) : Int) := by omega
          have j2 : (16 : Int) + (k : Int) - 2 = ((k + 14 : Nat) : Int) := by omega
          have j3 : (16 : Int) + (k : Int) - 16 = (k : Int) := by omega
          have j4 : (16 : Int) + (k : Int) - 7 = ((k + 9 : Nat) : Int) := by omega
          have hW := schedTo_all hl k
          have hnx : nextN (schedTo l k) = ((part2 l k).getD k 0 + (part2 l k).getD (k + 9) 0 + smallN ((part2 l k).getD (k + 1) 0) 7 18 3 + smallN ((part2 l k).getD (k + 14) 0) 17 19 10) % 4294967296 := by
            rw [part2_get _ _ _ (by omega), part2_get _ _ _ (by omega), part2_get _ _ _ (by omega), part2_get _ _ _ (by omega), nextN, schedTo_len, show 16 + k - 16 = k from by omega, show 16 + k - 7 = k + 9 from by omega, show 16 + k - 15 = k + 1 from by omega, show 16 + k - 2 = k + 14 from by omega, Nat.add_assoc (_ + _)]
          have hsucc := part2_succ l k hlt
          rw [hnx] at hsucc
          have HSU := hidH hsucc
          have w1 : (part2 l k).getD (k + 1) 0 < 4294967296 := by rw [part2_get _ _ _ (by omega)]; exact hW.get _
          have w2 : (part2 l k).getD (k + 14) 0 < 4294967296 := by rw [part2_get _ _ _ (by omega)]; exact hW.get _
          have w3 : (part2 l k).getD k 0 < 4294967296 := by rw [part2_get _ _ _ (by omega)]; exact hW.get _
          have w4 : (part2 l k).getD (k + 9) 0 < 4294967296 := by rw [part2_get _ _ _ (by omega)]; exact hW.get _
          have hlen := part2_len l k (by omega)
          have c1 := hS.cell (k + 1) (by omega)
          have c2 := hS.cell (k + 14) (by omega)
          have c3 := hS.cell k (by omega)
          have c4 := hS.cell (k + 9) (by omega)
          have c5 := hS.cell (16 + k) (by omega)
          have f5 := Blk.frozen hS (16 + k)
          have HS := hidH hS
          have HR := hidH hR
          have HB := hidH hB
          clear hS hR hB hsucc hnx hW hlen
          generalize (part2 l k).getD (k + 1) 0 = x1 at *
          generalize (part2 l k).getD (k + 14) 0 = x2 at *
          generalize (part2 l k).getD k 0 = x3 at *
          generalize (part2 l k).getD (k + 9) 0 = x4 at *
          go_wp2
          go_quiet (fail)
          go_wp2_with (first | (go_at_call 192; (with_reducible refine (rot_nat x1 7 7 _ rfl w1 (by omega)).mono ?_); rintro e w' ⟨rfl, rfl⟩) | (go_at_call 192; (with_reducible refine (rot_nat x1 18 18 _ rfl w1 (by omega)).mono ?_); rintro e w' ⟨rfl, rfl⟩) | (go_at_call 192; (with_reducible refine (rot_nat x2 17 17 _ rfl w2 (by omega)).mono ?_); rintro e w' ⟨rfl, rfl⟩) | (go_at_call 192; (with_reducible refine (rot_nat x2 19 19 _ rfl w2 (by omega)).mono ?_); rintro e w' ⟨rfl, rfl⟩))
          have e1 : bits BinOp.xor IntKind.u32 (bits BinOp.xor IntKind.u32 ((rotN x1 7 : Nat) : Int) ((rotN x1 18 : Nat) : Int)) ((x1 : Int) / 8) = ((smallN x1 7 18 3 : Nat) : Int) := small_bits x1 7 18 3 8 w1 (by omega) (by omega) rfl
          have e2 : bits BinOp.xor IntKind.u32 (bits BinOp.xor IntKind.u32 ((rotN x2 17 : Nat) : Int) ((rotN x2 19 : Nat) : Int)) ((x2 : Int) / 1024) = ((smallN x2 17 19 10 : Nat) : Int) := small_bits x2 17 19 10 1024 w2 (by omega) (by omega) rfl
          rw [e1, e2]
          have y1 := smallN_lt x1 7 18 3 w1 (by omega) (by omega)
          have y2 := smallN_lt x2 17 19 10 w2 (by omega) (by omega)
          clear e1 e2
          generalize smallN x1 7 18 3 = s1 at *
          generalize smallN x2 17 19 10 = s2 at *
          have t5 : ((16 : Int) + (k : Int)).toNat = 16 + k := by omega
          have HS2 := hidH (HS.out.drewN (nq + 1))
          have HR2 := hidH (Blk.below HR.out (below_drewN (Below.refl _ _) (nq + 1)))
          have HB2 := hidH (below_drewN HB.out (nq + 1))
          go_region
          have hv : ((x3 : Int) + (x4 : Int) + (s1 : Int) + (s2 : Int)) % 4294967296 = (((x3 + x4 + s1 + s2) % 4294967296 : Nat) : Int) := by simp
          rw [hv]
          have hsz3 : w.heap.size + 1 + 1 < (wr.drewN (nq + 1)).heap.size := Blk.lt HS2.out
          clear hv t5 c1 c2 c3 c4 c5 f5
          go_wp2
          go_roundw
          case rel =>
            refine ⟨k + 1, by omega, by go_num, ?_, blk_far HR2.out (by simp) _, bst HB2.out (by simp; omega) _⟩
            rw [← HSU.out]
            exact Urow.set HS2.out (16 + k) _
          case measure => simp [intOf]; omega
        · obtain rfl : k = 48 := by omega
          have e : part2 l 48 = schedN l := by simp [part2, schedN]
          rw [e] at hS
          have HB := hidH (hB)
          have HS := hidH hS
          have HR := hidH hR
          have hz2 : zs.size = (U (schedN l)).size := by rw [← hzs, U_size, U_size, schedN, schedTo_len]; simp
          have hsz : (Tryz.prog.info? 265).map (·.size) = some (U (schedN l)).size := by rw [U_size, schedN, schedTo_len]; kernel_rfl
          clear hS hB hR hlt hk
          obtain ⟨os, hos⟩ : ∃ os, U (schedN l) = os := ⟨_, rfl⟩
          have hO := U_one (schedN l)
          rw [Urow, hos] at HS
          rw [hos] at hz2 hsz hO
          have HOS := hidH hos
          have HZ2 := hidH hz2
          have HSZ := hidH hsz
          have HO := hidH hO
          clear hz2 hsz hO hos hcs hzs
          go_wp2_with (first | refine wpList_load_row rfl 265 _ rfl (w.heap.size + 1 + 1) rfl 265 os (0, 0) (.array 64 248) HS.out (by kernel_rfl) rfl HSZ.out ?_ | refine wpList_store_rowTo rfl _ _ _ rfl rfl (w.heap.size + 1) os rfl rfl 265 _ HR.out HSZ.out HZ2.out HO.out ?_)
          exact bodyPost_ret (v := .agg os) (results_cell_row rfl _ _ (w.heap.size + 1) 265 _ (0, 0) (.array 64 248) rfl (setRow_heap _ _ _ _ _ _ HR.out) (by kernel_rfl) rfl HSZ.out) rfl ⟨by rw [HOS.out], below_setRow HB.out (by omega) _⟩
end Go.Proofs.YtacdnednkglobaaGreatDoor

/- The program's masked: a block of bytes, each turned by the same mask. -/
namespace Go.Proofs.YtacdnednkglobaaGreatDoor
open Go.RowKit Go.Deep

theorem zero63 : (Tryz.prog.info? 226).bind (·.zero) = some (.agg (Ub (List.replicate 64 0))) := by kernel_rfl
theorem size63 : (Tryz.prog.info? 226).map (·.size) = some 64 := by kernel_rfl
theorem Ub_len (l : List Int) : (Ub l).size = l.length := by simp [Ub]
theorem Ub_one (l : List Int) : (Ub l).all (·.oneCell') = true := by
  rw [Array.all_eq_true_iff_forall_mem]
  intro v hv
  simp [Ub] at hv
  obtain ⟨x, _, rfl⟩ := hv
  rfl
theorem ub_set {w : World} {g : Nat} {t : TypeId} {l : List Int} (h : Blk w g t (Ub l)) (j : Nat) (v : Int) : Blk (w.setCell ⟨g, j, none⟩ (.int .u8 v)) g t (Ub (l.set j v)) := by
  have := heap_setCell_same w g j _ _ (.int .u8 v) h
  unfold Blk
  rw [this]
  simp [Ub, List.map_set]
theorem ub_cell {w : World} {g : Nat} {t : TypeId} {l : List Int} (h : Blk w g t (Ub l)) (j : Nat) (v : Int) (hj : l[j]? = some v) : w.cell? ⟨g, j, none⟩ = some (.int .u8 v) := by
  rw [Blk.cell h j]; simp [Ub, hj]
set_option maxRecDepth 100000 in
set_option maxHeartbeats 1000000 in
theorem masked_any (l : List Int) (m : Int) (w : World) (hl : Bytes l) (h64 : l.length = 64) (hm0 : 0 ≤ m) (hm1 : m ≤ 255) :
    Calls Tryz.prog 163 #[.agg (Ub l), .int .u8 m] w fun e w' => e = .returned (.agg (Ub (l.map (byteX m.toNat)))) ∧ Below w.heap.size w w' := by
  obtain ⟨cs, hcs⟩ : ∃ cs, Ub l = cs := ⟨_, rfl⟩
  obtain ⟨zs, hzs⟩ : ∃ zs, Ub (List.replicate 64 0) = zs := ⟨_, rfl⟩
  have hz := zero63
  rw [hcs]
  rw [hzs] at hz
  have HZ := hidH hz
  clear hz
  go_enter Tryz.func163, Tryz.ntmps163
  go_wp2_with (first | refine wpList_allocRow rfl 226 rfl _ rfl zs HZ.out ?_ | refine wpList_boxRow rfl _ _ rfl _ rfl cs rfl ?_)
  have B0 := hidH (bal (bal (Below.refl w.heap.size w) (.cells cs 226)) (.cells zs 226))
  have D0 := hidH (show Blk _ w.heap.size 226 (Ub l) from hcs ▸ (Blk.new w 226 cs).alloc (.cells zs 226))
  have R0 := hidH (show Blk _ (w.heap.size + 1) 226 zs from by have := Blk.new (w.alloc (.cells cs 226)) 226 zs; simpa using this)
  have HCS := hidH hcs
  clear hcs
  go_loopw [6] (fun i wr => ∃ k : Nat, k ≤ 64 ∧ i = .int .i64 k ∧ Blk wr w.heap.size 226 (Ub (turnTo l m.toNat k)) ∧ Blk wr (w.heap.size + 1) 226 zs ∧ Below w.heap.size w wr) (fun i _ => 64 - (intOf i).toNat)
  case atStart => exact ⟨0, by omega, rfl, by rw [turnTo_zero, HCS.out]; exact HCS.out ▸ D0.out, R0.out, B0.out⟩
  case round =>
    obtain ⟨k, hk, rfl, hD, hR, hB⟩ := hrel
    by_cases hlt : k < 64
    · have hlt2 : (k : Int) < 64 := by omega
      have hlt0 : (0 : Int) ≤ (k : Int) := by omega
      have p0 := hl.get k
      have c0 := ub_cell hD k _ (turnTo_get l m.toNat k (by omega))
      have f0 := Blk.frozen hD k
      have hsz : w.heap.size < wr.heap.size := hD.lt
      have hx := u8_xor (l.getD k 0) m p0.1 p0.2 hm0 hm1
      have HS := hidH (turnTo_succ l m.toNat k (by omega))
      have HD := hidH hD
      have HR := hidH hR
      have HB := hidH hB
      clear hD hR hB
      generalize l.getD k 0 = x at *
      generalize byteX m.toNat x = y at *
      go_wp2
      go_roundw
      case rel =>
        refine ⟨k + 1, by omega, by go_num, ?_, blk_far HR.out (by simp) _, bst HB.out (Nat.le_refl _) _⟩
        rw [← HS.out, ← hx]
        exact ub_set HD.out k _
      case measure => simp [intOf]; omega
    · obtain rfl : k = 64 := by omega
      have e : turnTo l m.toNat 64 = l.map (byteX m.toNat) := by rw [← h64]; exact turnTo_all l _
      rw [e] at hD
      have hn : (l.map (byteX m.toNat)).length = 64 := by simp [h64]
      obtain ⟨y, hy⟩ : ∃ y, l.map (byteX m.toNat) = y := ⟨_, rfl⟩
      rw [hy] at hD hn
      have HY := hidH hy
      clear hy
      have HB := hidH hB
      have HS := hidH hD
      have HR := hidH hR
      have hz2 : zs.size = (Ub y).size := by rw [← hzs, Ub_len, Ub_len, hn]; simp
      have hsz : (Tryz.prog.info? 226).map (·.size) = some (Ub y).size := by rw [Ub_len, hn]; exact size63
      clear hD hB hR hlt hk e
      obtain ⟨os, hos⟩ : ∃ os, Ub y = os := ⟨_, rfl⟩
      have hO := Ub_one y
      rw [hos] at HS
      rw [hos] at hz2 hsz hO
      have HZ2 := hidH hz2
      have HSZ := hidH hsz
      have HO := hidH hO
      have HOS := hidH hos
      clear hz2 hsz hO hos hzs
      go_wp2_with (first | refine wpList_load_row rfl 226 _ rfl w.heap.size rfl 226 os (0, 0) (.array 64 5) HS.out (by kernel_rfl) rfl HSZ.out ?_ | refine wpList_store_rowTo rfl _ _ _ rfl rfl (w.heap.size + 1) os rfl rfl 226 _ HR.out HSZ.out HZ2.out HO.out ?_)
      exact bodyPost_ret (v := .agg os) (results_cell_row rfl _ _ (w.heap.size + 1) 226 _ (0, 0) (.array 64 5) rfl (setRow_heap _ _ _ _ _ _ HR.out) (by kernel_rfl) rfl HSZ.out) rfl ⟨by rw [HY.out, HOS.out], below_setRow HB.out (by omega) _⟩
end Go.Proofs.YtacdnednkglobaaGreatDoor

/- The program's numbersOf, ScheduleOf. -/
namespace Go.Proofs.YtacdnednkglobaaGreatDoor
open Go.RowKit Go.Deep

/-- A whole block of numbers that are words. -/
def Nrow (w : World) (g : Nat) (ws : List Nat) : Prop := Blk w g 2 (ws.map wv).toArray
theorem Nrow.cell {w : World} {g : Nat} {ws : List Nat} (h : Nrow w g ws) (j : Nat) (hj : j < ws.length) : w.cell? ⟨g, j, none⟩ = some (.int .i64 ((ws.getD j 0 : Nat) : Int)) := by
  rw [Blk.cell h j]; simp [hj, wv]
theorem Nrow.set {w : World} {g : Nat} {ws : List Nat} (h : Nrow w g ws) (j x : Nat) : Nrow (w.setCell ⟨g, j, none⟩ (.int .i64 (x : Int))) g (ws.set j x) := by
  have := heap_setCell_same w g j _ _ (.int .i64 (x : Int)) h
  unfold Nrow Blk
  rw [this]
  simp [wv, List.map_set]
theorem Nrow.of_own {w : World} {B e g n : Nat} {xs : List Value} {ws : List Nat} (h : w.ownsRow B e 1 (.slice (some ⟨g, 0, none⟩) n n) n xs) (he : e = 2) (hx : xs = ws.map wv) : Nrow w g ws := by
  rcases h.2 with ⟨h', _⟩ | ⟨g', cap', cur, h', hb, hg, hnc, hcm, hcs, htake⟩
  · simp at h'
  · simp only [Value.slice.injEq, Option.some.injEq, Addr.mk.injEq, and_true, true_and] at h'
    obtain ⟨rfl, rfl⟩ := h'
    have : cur.toList = xs := by rw [← htake, List.take_of_length_le (by simp; omega)]
    unfold Nrow Blk
    rw [hg, he, ← hx, ← this]
theorem Nrow.own {w : World} {g B : Nat} {ws : List Nat} (h : Nrow w g ws) (hB : B ≤ g) (hm : ws.length ≤ 100000) : w.ownsRow B 2 1 (.slice (some ⟨g, 0, none⟩) ws.length ws.length) ws.length (ws.map wv) :=
  ⟨by simp, .inr ⟨g, ws.length, _, rfl, hB, h, Nat.le_refl _, by unfold maxLen; omega, by simp, by rw [List.take_of_length_le (by simp)]⟩⟩
theorem made_i64 (N : Nat) : (madeCells (Value.int .i64 0).cells (N * 1)).toList = (List.replicate N (0 : Nat)).map wv := by
  rw [Nat.mul_one, show (Value.int IntKind.i64 0).cells = #[Value.int IntKind.i64 0] from rfl, toList_madeCells_one]
  simp [wv]
def partW (ws : List Nat) (k : Nat) : List Nat := ws.take k ++ List.replicate (ws.length - k) 0
theorem partW_len (ws : List Nat) (k : Nat) (h : k ≤ ws.length) : (partW ws k).length = ws.length := by simp [partW]; omega
theorem partW_succ (ws : List Nat) (k : Nat) (h : k < ws.length) : (partW ws k).set k (ws.getD k 0) = partW ws (k + 1) := by
  rw [partW, List.set_append_right _ _ (by simp; omega), partW, List.take_succ_eq_append_getElem h]
  simp only [List.length_take, Nat.min_eq_left (Nat.le_of_lt h), Nat.sub_self]
  rw [show ws.length - k = (ws.length - (k + 1)) + 1 from by omega, List.replicate_succ, List.set_cons_zero]
  rw [List.append_assoc, List.singleton_append, List.getD_eq_getElem?_getD, List.getElem?_eq_getElem h, Option.getD_some]
theorem arr84 (A : Option Addr) (n c : Nat) (hn : 64 ≤ n) (u : World) : (Instr.arrayAt 226 (.slice A n c)).run Tryz.prog u = .ok (.pointer A) u := run_arrayAt u 226 5 64 _ _ _ Tryz.underlying226 hn
theorem slice91 (u : World) (b : Nat) : (Instr.sliceAt 265 (.pointer (some ⟨b, 0, none⟩)) none none none).run Tryz.prog u = .ok (.slice (some ⟨b, 0, none⟩) 64 64) u := by
  have hal : Tryz.prog.arrayLen 265 = 64 := by kernel_rfl
  have hel : Tryz.prog.elem 265 = 248 := by kernel_rfl
  have hs : (sizeOf 248).run Tryz.prog u = .ok 1 u := by
    have h1 : (Tryz.prog.info? 248).map (·.size) = some 1 := by kernel_rfl
    cases hq : Tryz.prog.info? 248 with
    | none => simp [hq] at h1
    | some i => simp [hq] at h1; simp [sizeOf, typeInfo, hq, h1]
  rw [run_sliceAt_array_all u 265 ⟨b, 0, none⟩ (by rw [hal, hel]; kernel_rfl), hel, hs, hal]
  simp only [Result.andThen, slicedAt]
  rw [if_neg (by omega)]
  simp [Addr.add]
theorem bs_range {w : World} {b off : Nat} {l : List Int} (hc : ∀ j, j < l.length → w.cell? ⟨b, off + j, none⟩ = some (.int .u8 (l.getD j 0))) : w.rangeAt b off (l.map (Value.int .u8)) := by
  intro j v hv
  have hj : j < l.length := by
    rcases Nat.lt_or_ge j l.length with h | h
    · exact h
    · rw [List.getElem?_eq_none (by simpa using h)] at hv; cases hv
  rw [hc j hj, ← hv]
  simp [hj]
end Go.Proofs.YtacdnednkglobaaGreatDoor

/- The program's round. -/
namespace Go.Proofs.YtacdnednkglobaaGreatDoor
open Go.RowKit Go.Deep

theorem rnd_blk (w : World) (A B : Array Value) (t : TypeId) (n : Nat) : (((w.alloc (.cells A t)).alloc (.cells B t)).drewN n).heap[w.heap.size + 1]? = some (.cells B t (0, 0)) := by
  have := (Blk.new (w.alloc (.cells A t)) t B).below (below_drewN (Below.refl _ _) n)
  simpa [Blk] using this
theorem set8 {w : World} {g : Nat} {t : TypeId} {o0 o1 o2 o3 o4 o5 o6 o7 v0 v1 v2 v3 v4 v5 v6 v7 : Value} (hg : w.heap[g]? = some (.cells #[o0, o1, o2, o3, o4, o5, o6, o7] t (0, 0))) :
    ((((((((w.setCell ⟨g, 0, none⟩ v0).setCell ⟨g, 1, none⟩ v1).setCell ⟨g, 2, none⟩ v2).setCell ⟨g, 3, none⟩ v3).setCell ⟨g, 4, none⟩ v4).setCell ⟨g, 5, none⟩ v5).setCell ⟨g, 6, none⟩ v6).setCell ⟨g, 7, none⟩ v7) = w.setRow g #[v0, v1, v2, v3, v4, v5, v6, v7] := by
  have h0 := setCell_eq_setRow w g 0 _ t (0, 0) v0 hg
  have b0 := setRow_heap w g _ #[v0, o1, o2, o3, o4, o5, o6, o7] t (0, 0) hg
  have b1 := setRow_heap w g _ #[v0, v1, o2, o3, o4, o5, o6, o7] t (0, 0) hg
  have b2 := setRow_heap w g _ #[v0, v1, v2, o3, o4, o5, o6, o7] t (0, 0) hg
  have b3 := setRow_heap w g _ #[v0, v1, v2, v3, o4, o5, o6, o7] t (0, 0) hg
  have b4 := setRow_heap w g _ #[v0, v1, v2, v3, v4, o5, o6, o7] t (0, 0) hg
  have b5 := setRow_heap w g _ #[v0, v1, v2, v3, v4, v5, o6, o7] t (0, 0) hg
  have b6 := setRow_heap w g _ #[v0, v1, v2, v3, v4, v5, v6, o7] t (0, 0) hg
  have h1 := setCell_eq_setRow _ g 1 _ t (0, 0) v1 b0
  have h2 := setCell_eq_setRow _ g 2 _ t (0, 0) v2 b1
  have h3 := setCell_eq_setRow _ g 3 _ t (0, 0) v3 b2
  have h4 := setCell_eq_setRow _ g 4 _ t (0, 0) v4 b3
  have h5 := setCell_eq_setRow _ g 5 _ t (0, 0) v5 b4
  have h6 := setCell_eq_setRow _ g 6 _ t (0, 0) v6 b5
  have h7 := setCell_eq_setRow _ g 7 _ t (0, 0) v7 b6
  simp at h0 h1 h2 h3 h4 h5 h6 h7
  rw [h0, h1, setRow_setRow, h2, setRow_setRow, h3, setRow_setRow, h4, setRow_setRow, h5, setRow_setRow, h6, setRow_setRow, h7, setRow_setRow]
theorem step_cells (x0 x1 x2 x3 x4 x5 x6 x7 cc ss : Nat) : U (stepN [x0, x1, x2, x3, x4, x5, x6, x7] cc ss) =
    #[.int .u32 (((x7 : Int) + ((bigN x4 6 11 25 : Nat) : Int) + ((chN x4 x5 x6 : Nat) : Int) + (cc : Int) + (ss : Int) + (((bigN x0 2 13 22 : Nat) : Int) + ((majN x0 x1 x2 : Nat) : Int))) % 4294967296), .int .u32 (x0 : Int), .int .u32 (x1 : Int), .int .u32 (x2 : Int),
      .int .u32 (((x3 : Int) + ((x7 : Int) + ((bigN x4 6 11 25 : Nat) : Int) + ((chN x4 x5 x6 : Nat) : Int) + (cc : Int) + (ss : Int))) % 4294967296), .int .u32 (x4 : Int), .int .u32 (x5 : Int), .int .u32 (x6 : Int)] := by
  simp [U, uv, stepN, t1N, t2N]
  generalize bigN x4 6 11 25 = b1
  generalize bigN x0 2 13 22 = b2
  generalize chN x4 x5 x6 = c1
  generalize majN x0 x1 x2 = c2
  constructor <;> omega
theorem not_nat (x : Nat) (hx : x < 4294967296) : 4294967295 ^^^ x = 4294967295 - x := by
  have h := congrArg BitVec.toNat (BitVec.allOnes_xor (x := BitVec.ofNat 32 x))
  rw [BitVec.toNat_xor, BitVec.toNat_not] at h
  simp [Nat.mod_eq_of_lt hx] at h
  exact h
theorem big_bits (x a b c : Nat) (hx : x < 4294967296) (ha : a ≤ 32) (hb : b ≤ 32) (hc : c ≤ 32) :
    bits BinOp.xor IntKind.u32 (bits BinOp.xor IntKind.u32 ((rotN x a : Nat) : Int) ((rotN x b : Nat) : Int)) ((rotN x c : Nat) : Int) = ((bigN x a b c : Nat) : Int) := by
  have h1 := rotN_lt x a hx ha
  have h2 := rotN_lt x b hx hb
  have h3 := rotN_lt x c hx hc
  rw [u32_xor_nat _ _ h1 h2, u32_xor_nat _ _ (xor_lt _ _ h1 h2) h3, bigN]
theorem ch_bits (e f g : Nat) (he : e < 4294967296) (hf : f < 4294967296) (hg : g < 4294967296) :
    bits BinOp.xor IntKind.u32 (bits BinOp.and IntKind.u32 (e : Int) (f : Int)) (bits BinOp.and IntKind.u32 (bits BinOp.xor IntKind.u32 IntKind.u32.max (e : Int)) (g : Int)) = ((chN e f g : Nat) : Int) := by
  have hm : IntKind.u32.max = ((4294967295 : Nat) : Int) := by decide
  rw [hm, u32_xor_nat _ _ (by omega) he, not_nat e he, u32_and_nat _ _ he hf, u32_and_nat _ _ (by omega) hg, u32_xor_nat _ _ (and_lt _ _ hf) (and_lt _ _ hg), chN]
theorem maj_bits (a b c : Nat) (ha : a < 4294967296) (hb : b < 4294967296) (hc : c < 4294967296) :
    bits BinOp.xor IntKind.u32 (bits BinOp.xor IntKind.u32 (bits BinOp.and IntKind.u32 (a : Int) (b : Int)) (bits BinOp.and IntKind.u32 (a : Int) (c : Int))) (bits BinOp.and IntKind.u32 (b : Int) (c : Int)) = ((majN a b c : Nat) : Int) := by
  rw [u32_and_nat _ _ ha hb, u32_and_nat _ _ ha hc, u32_and_nat _ _ hb hc, u32_xor_nat _ _ (and_lt _ _ hb) (and_lt _ _ hc), u32_xor_nat _ _ (xor_lt _ _ (and_lt _ _ hb) (and_lt _ _ hc)) (and_lt _ _ hc), majN]
set_option maxRecDepth 100000 in
set_option maxHeartbeats 4000000 in
theorem rnd_any (v : List Nat) (cc ss : Nat) (w : World) (hv : AllW v) (h8 : v.length = 8) (_hc : cc < 4294967296) (_hs : ss < 4294967296) :
    Calls Tryz.prog 189 #[.agg (U v), .int .u32 (cc : Int), .int .u32 (ss : Int)] w fun e w' => e = .returned (.agg (U (stepN v cc ss))) ∧ Below w.heap.size w w' := by
  obtain ⟨x0, x1, x2, x3, x4, x5, x6, x7, rfl⟩ := eight h8
  have h0 : x0 < 4294967296 := hv.get 0
  have h1 : x1 < 4294967296 := hv.get 1
  have h2 : x2 < 4294967296 := hv.get 2
  have h3 : x3 < 4294967296 := hv.get 3
  have h4 : x4 < 4294967296 := hv.get 4
  have h5 : x5 < 4294967296 := hv.get 5
  have h6 : x6 < 4294967296 := hv.get 6
  have h7 : x7 < 4294967296 := hv.get 7
  have hU : U [x0, x1, x2, x3, x4, x5, x6, x7] = #[.int .u32 (x0 : Int), .int .u32 (x1 : Int), .int .u32 (x2 : Int), .int .u32 (x3 : Int), .int .u32 (x4 : Int), .int .u32 (x5 : Int), .int .u32 (x6 : Int), .int .u32 (x7 : Int)] := rfl
  rw [hU]
  clear h8 hv hU
  have HG := hidH (rnd_blk w #[.int .u32 (x0 : Int), .int .u32 (x1 : Int), .int .u32 (x2 : Int), .int .u32 (x3 : Int), .int .u32 (x4 : Int), .int .u32 (x5 : Int), .int .u32 (x6 : Int), .int .u32 (x7 : Int)] #[.int .u32 0, .int .u32 0, .int .u32 0, .int .u32 0, .int .u32 0, .int .u32 0, .int .u32 0, .int .u32 0] 255)
  go_enter Tryz.func189, Tryz.ntmps189
  go_wp2
  go_quiet (fail)
  go_wp2
  go_quiet (fail)
  go_wp2_with (first | (go_at_call 192; (with_reducible refine (rot_nat x4 6 6 _ rfl h4 (by omega)).mono ?_); rintro e w' ⟨rfl, rfl⟩) | (go_at_call 192; (with_reducible refine (rot_nat x4 11 11 _ rfl h4 (by omega)).mono ?_); rintro e w' ⟨rfl, rfl⟩) | (go_at_call 192; (with_reducible refine (rot_nat x4 25 25 _ rfl h4 (by omega)).mono ?_); rintro e w' ⟨rfl, rfl⟩) | (go_at_call 192; (with_reducible refine (rot_nat x0 2 2 _ rfl h0 (by omega)).mono ?_); rintro e w' ⟨rfl, rfl⟩) | (go_at_call 192; (with_reducible refine (rot_nat x0 13 13 _ rfl h0 (by omega)).mono ?_); rintro e w' ⟨rfl, rfl⟩) | (go_at_call 192; (with_reducible refine (rot_nat x0 22 22 _ rfl h0 (by omega)).mono ?_); rintro e w' ⟨rfl, rfl⟩))
  rw [set8 (HG.out _)]
  have e1 := big_bits x4 6 11 25 h4 (by omega) (by omega) (by omega)
  have e2 := big_bits x0 2 13 22 h0 (by omega) (by omega) (by omega)
  have e3 := ch_bits x4 x5 x6 h4 h5 h6
  have e4 := maj_bits x0 x1 x2 h0 h1 h2
  rw [e1, e2, e3, e4]
  have hb1 := bigN_lt x4 6 11 25 h4 (by omega) (by omega) (by omega)
  have hb2 := bigN_lt x0 2 13 22 h0 (by omega) (by omega) (by omega)
  have hb3 := chN_lt x4 x5 x6 h5 h6
  have hb4 := majN_lt x0 x1 x2 h1 h2
  have eU := step_cells x0 x1 x2 x3 x4 x5 x6 x7 cc ss
  exact bodyPost_ret (v := .agg _) (results_cell_row rfl _ _ (w.heap.size + 1) 255 _ (0, 0) (.array 8 248) rfl (setRow_heap _ _ _ _ _ _ (HG.out _)) (by kernel_rfl) rfl (by kernel_rfl)) rfl ⟨by rw [eU], below_setRow (below_drewN (bal (bal (Below.refl _ _) _) _) _) (Nat.le_succ _) _⟩
end Go.Proofs.YtacdnednkglobaaGreatDoor

/- The program's compress: the region that draws its order, by an invariant. -/
namespace Go.Proofs.YtacdnednkglobaaGreatDoor
open Go.RowKit Go.Deep

/-- The operations of a body's second region. -/
def secondOps (c : Option Code) : Array Oper := match c with
  | some (.seq _ (.seq (.region _ ops _) _)) => ops
  | _ => #[]
theorem zero90 : (Tryz.prog.info? 263).bind (·.zero) = some (.agg (U (List.replicate 64 0))) := by kernel_rfl
theorem zero77 : (Tryz.prog.info? 255).bind (·.zero) = some (.agg (U (List.replicate 8 0))) := by kernel_rfl
def both (p : Bool → Bool) : Bool := p true && p false
theorem both_yes {p : Bool → Bool} (h : both p = true) (b : Bool) : p b = true := by
  unfold both at h
  cases b <;> simp_all
/-- What a ready operation may rely on. -/
def may73 (b0 b1 b2 b3 b4 b5 b6 : Bool) (i : Nat) : Bool :=
  (i == 0 && !b0) || (i == 1 && !b1) || (i == 2 && !b2 && b1) || (i == 3 && !b3) || (i == 4 && !b4) || (i == 5 && !b5 && b3 && b0) || (i == 6 && !b6 && b4 && b2)
def chk73 (ops : Array Oper) (b0 b1 b2 b3 b4 b5 b6 : Bool) : Bool :=
  (Region.ready .any ops #[b0, b1, b2, b3, b4, b5, b6]).all (may73 b0 b1 b2 b3 b4 b5 b6) && (!(Region.ready .any ops #[b0, b1, b2, b3, b4, b5, b6]).isEmpty || (b0 && b1 && b2 && b3 && b4 && b5 && b6))
theorem all73 : (both fun b0 => both fun b1 => both fun b2 => both fun b3 => both fun b4 => both fun b5 => both fun b6 => chk73 (secondOps Tryz.f181.body) b0 b1 b2 b3 b4 b5 b6) = true := by kernel_rfl
theorem yes73 (b0 b1 b2 b3 b4 b5 b6 : Bool) : chk73 (secondOps Tryz.f181.body) b0 b1 b2 b3 b4 b5 b6 = true :=
  both_yes (both_yes (both_yes (both_yes (both_yes (both_yes (both_yes all73 b0) b1) b2) b3) b4) b5) b6
theorem ready73 (b0 b1 b2 b3 b4 b5 b6 : Bool) (i : Nat) (h : i ∈ Region.ready .any (secondOps Tryz.f181.body) #[b0, b1, b2, b3, b4, b5, b6]) : may73 b0 b1 b2 b3 b4 b5 b6 i = true := by
  have := yes73 b0 b1 b2 b3 b4 b5 b6
  unfold chk73 at this
  rw [Bool.and_eq_true] at this
  exact List.all_eq_true.1 this.1 i h
theorem done73 (b0 b1 b2 b3 b4 b5 b6 : Bool) (h : Region.ready .any (secondOps Tryz.f181.body) #[b0, b1, b2, b3, b4, b5, b6] = []) : (b0 && b1 && b2 && b3 && b4 && b5 && b6) = true := by
  have := yes73 b0 b1 b2 b3 b4 b5 b6
  unfold chk73 at this
  rw [Bool.and_eq_true, h] at this
  simpa using this.2
/-- The frame of compress behind its first two regions. -/
def fr73 (s b : Array Value) (n : Nat) (t5 t6 t10 t11 t12 : Value) : Act :=
  { tmps := #[.agg s, .agg b, .pointer (some ⟨n, 0, none⟩), .pointer (some ⟨n + 1, 0, none⟩), .pointer (some ⟨n + 1 + 1, 0, none⟩), t5, t6, undef, undef, undef, t10, t11, t12, undef, undef, undef, undef, undef, undef, undef, undef, undef, undef, undef, undef, undef, undef, undef, undef, undef, undef, undef, undef, undef, undef, undef, undef, undef, undef], defers := [] }
/-- What lies in memory all along. -/
def KB (w0 : World) (s b z : Array Value) (w : World) : Prop :=
  Blk w w0.heap.size 255 s ∧ Blk w (w0.heap.size + 1) 226 b ∧ Blk w (w0.heap.size + 1 + 1) 255 z ∧ Below w0.heap.size w0 w
theorem KB.below {w0 : World} {s b z : Array Value} {w w' : World} (h : KB w0 s b z w) (hb : Below w.heap.size w w') : KB w0 s b z w' :=
  ⟨h.1.below hb, h.2.1.below hb, h.2.2.1.below hb, btr h.2.2.2 hb⟩
theorem KB.row {w0 : World} {s b z : Array Value} {w : World} (h : KB w0 s b z w) (g : Nat) (hg : w0.heap.size + 1 + 1 < g) (cs : Array Value) : KB w0 s b z (w.setRow g cs) :=
  ⟨(setRow_other w g _ cs (by omega)).trans h.1, (setRow_other w g _ cs (by omega)).trans h.2.1, (setRow_other w g _ cs (by omega)).trans h.2.2.1, below_setRow h.2.2.2 (by omega) cs⟩
/-- A block that was made on the way, or none yet. -/
def Slot (N : Nat) (t : TypeId) (z cs : Array Value) (made full : Bool) (v : Value) (g : Nat) (w : World) : Prop :=
  if made then v = .pointer (some ⟨g, 0, none⟩) ∧ N < g ∧ Blk w g t (if full then cs else z) else full = false ∧ g = 0
theorem Slot.below {N : Nat} {t : TypeId} {z cs : Array Value} {made full : Bool} {v : Value} {g : Nat} {w w' : World} (h : Slot N t z cs made full v g w) (hb : Below w.heap.size w w') : Slot N t z cs made full v g w' := by
  unfold Slot at *
  split
  · next hm => rw [if_pos hm] at h; exact ⟨h.1, h.2.1, h.2.2.below hb⟩
  · next hm => rw [if_neg hm] at h; exact h
theorem Slot.row {N : Nat} {t : TypeId} {z cs : Array Value} {made full : Bool} {v : Value} {g : Nat} {w : World} (h : Slot N t z cs made full v g w) (g' : Nat) (hg : g ≠ g') (cs' : Array Value) : Slot N t z cs made full v g (w.setRow g' cs') := by
  unfold Slot at *
  split
  · next hm => rw [if_pos hm] at h; exact ⟨h.1, h.2.1, (setRow_other w g' g cs' hg).trans h.2.2⟩
  · next hm => rw [if_neg hm] at h; exact h
theorem Slot.lt {N : Nat} {t : TypeId} {z cs : Array Value} {made full : Bool} {v : Value} {g : Nat} {w : World} (h : Slot N t z cs made full v g w) (hN : N < w.heap.size) : g < w.heap.size := by
  unfold Slot at h
  split at h
  · exact h.2.2.lt
  · omega
/-- The region's invariant: which operations have come says what the frame and the memory hold. -/
def J73 (w0 : World) (s b z ks zk ds zd : Array Value) (b0 b1 b2 b3 b4 b5 b6 : Bool) (a : Act) (w : World) : Prop :=
  ∃ t5 t6 t10 t11 t12 g5 g6, a = fr73 s b w0.heap.size t5 t6 t10 t11 t12 ∧ KB w0 s b z w ∧ (b0 = true → t10 = .agg ks) ∧ (b1 = true → t11 = .agg b) ∧ (b2 = true → t12 = .agg ds) ∧
    Slot (w0.heap.size + 1 + 1) 263 zk ks b3 b5 t5 g5 w ∧ Slot (w0.heap.size + 1 + 1) 265 zd ds b4 b6 t6 g6 w ∧ (b3 = true → b4 = true → g5 ≠ g6)
theorem reg73 (w0 : World) (s b z ks zk ds zd : Array Value) (Q : Exit → Act → World → Prop)
    (hc83 : ∀ w, Calls Tryz.prog 187 #[] w fun e w' => e = .returned (.agg ks) ∧ Below w.heap.size w w')
    (hc78 : ∀ w, Calls Tryz.prog 188 #[.agg b] w fun e w' => e = .returned (.agg ds) ∧ Below w.heap.size w w')
    (hzk : (Tryz.prog.info? 263).bind (·.zero) = some (.agg zk)) (hzd : (Tryz.prog.info? 265).bind (·.zero) = some (.agg zd))
    (hsb : (Tryz.prog.info? 226).map (·.size) = some b.size)
    (hsk : (Tryz.prog.info? 263).map (·.size) = some ks.size) (hsk2 : zk.size = ks.size) (hk1 : ks.all (·.oneCell') = true)
    (hsd : (Tryz.prog.info? 265).map (·.size) = some ds.size) (hsd2 : zd.size = ds.size) (hd1 : ds.all (·.oneCell') = true)
    (hQ : ∀ a w, J73 w0 s b z ks zk ds zd true true true true true true true a w → Q .normal a w) :
    ∀ (fuel : Nat) (b0 b1 b2 b3 b4 b5 b6 : Bool) (a : Act) (w : World), cnt b0 + cnt b1 + cnt b2 + cnt b3 + cnt b4 + cnt b5 + cnt b6 ≤ fuel → J73 w0 s b z ks zk ds zd b0 b1 b2 b3 b4 b5 b6 a w →
      wpAny Tryz.prog .any (secondOps Tryz.f181.body) Q fuel #[b0, b1, b2, b3, b4, b5, b6] a w := by
  intro fuel
  have fin : ∀ (b0 b1 b2 b3 b4 b5 b6 : Bool) (a : Act) (w : World), J73 w0 s b z ks zk ds zd b0 b1 b2 b3 b4 b5 b6 a w → (b0 && b1 && b2 && b3 && b4 && b5 && b6) = true → Q .normal a w := by
    intro b0 b1 b2 b3 b4 b5 b6 a w hJ h
    simp only [Bool.and_eq_true] at h
    obtain ⟨⟨⟨⟨⟨⟨rfl, rfl⟩, rfl⟩, rfl⟩, rfl⟩, rfl⟩, rfl⟩ := h
    exact hQ a w hJ
  induction fuel with
  | zero =>
    intro b0 b1 b2 b3 b4 b5 b6 a w hc hJ
    have hall : b0 = true ∧ b1 = true ∧ b2 = true ∧ b3 = true ∧ b4 = true ∧ b5 = true ∧ b6 = true := by
      cases b0 <;> cases b1 <;> cases b2 <;> cases b3 <;> cases b4 <;> cases b5 <;> cases b6 <;> simp [cnt] at hc ⊢
    obtain ⟨rfl, rfl, rfl, rfl, rfl, rfl, rfl⟩ := hall
    exact ⟨by kernel_rfl, hQ a w hJ⟩
  | succ fuel ih =>
    intro b0 b1 b2 b3 b4 b5 b6 a w hc hJ
    refine ⟨fun h => fin _ _ _ _ _ _ _ a w hJ (done73 _ _ _ _ _ _ _ h), fun i hi => ?_⟩
    have hm := ready73 _ _ _ _ _ _ _ i hi
    clear hi
    obtain ⟨t5, t6, t10, t11, t12, g5, g6, rfl, hK, h0, h1, h2, h5, h6, hne⟩ := hJ
    have hNs := hK.2.2.1.lt
    simp only [may73, Bool.or_eq_true, Bool.and_eq_true, beq_iff_eq, Bool.not_eq_true'] at hm
    rcases hm with (((((⟨rfl, rfl⟩ | ⟨rfl, rfl⟩) | ⟨⟨rfl, rfl⟩, rfl⟩) | ⟨rfl, rfl⟩) | ⟨rfl, rfl⟩) | ⟨⟨⟨rfl, rfl⟩, rfl⟩, rfl⟩) | ⟨⟨⟨rfl, rfl⟩, rfl⟩, rfl⟩
    · obtain ⟨o, ho, hop, hdst, hgd⟩ := op_parts (ops := (secondOps Tryz.f181.body)) (i := 0) (op := Op.call { callee := Callee.value (Operand.func 187), args := #[], argTypes := #[] }) (dst := some 10) (by kernel_rfl)
      refine wpOp_plain ho hgd ?_
      refine wp_callOp 187 _ Tryz.func187 (by kernel_rfl) (by kernel_rfl) #[] #[] _ hop (by simp) _ hdst (.agg ks) _ (hc83 w) (fun w' hb => (ih true b1 b2 b3 b4 b5 b6 _ _ (by simp [cnt] at hc ⊢; omega) ?_))
      exact ⟨t5, t6, _, t11, t12, g5, g6, rfl, hK.below hb, fun _ => rfl, h1, h2, h5.below hb, h6.below hb, hne⟩
    · obtain ⟨o, ho, hop, hdst, hgd⟩ := op_parts (ops := (secondOps Tryz.f181.body)) (i := 1) (op := Op.load 226 (Operand.tmp 3)) (dst := some 11) (by kernel_rfl)
      refine wpOp_plain ho hgd ?_
      refine wp_load_row 226 _ hop (w0.heap.size + 1) rfl 226 b (0, 0) (.array 64 5) hK.2.1 (by kernel_rfl) rfl hsb ?_
      rw [hdst]
      refine ih b0 true b2 b3 b4 b5 b6 _ _ (by simp [cnt] at hc ⊢; omega) ?_
      exact ⟨t5, t6, t10, _, t12, g5, g6, rfl, hK, h0, fun _ => rfl, h2, h5, h6, hne⟩
    · obtain ⟨o, ho, hop, hdst, hgd⟩ := op_parts (ops := (secondOps Tryz.f181.body)) (i := 2) (op := Op.call { callee := Callee.value (Operand.func 188), args := #[Operand.tmp 11], argTypes := #[226] }) (dst := some 12) (by kernel_rfl)
      refine wpOp_plain ho hgd ?_
      obtain rfl := h1 rfl
      refine wp_callOp 188 _ Tryz.func188 (by kernel_rfl) (by kernel_rfl) #[.agg b] #[.tmp 11] _ hop (by simp [fr73, Act.eval]) _ hdst (.agg ds) _ (hc78 w) (fun w' hb => (ih b0 true true b3 b4 b5 b6 _ _ (by simp [cnt] at hc ⊢; omega) ?_))
      exact ⟨t5, t6, t10, _, _, g5, g6, rfl, hK.below hb, h0, h1, fun _ => rfl, h5.below hb, h6.below hb, hne⟩
    · obtain ⟨o, ho, hop, hdst, hgd⟩ := op_parts (ops := (secondOps Tryz.f181.body)) (i := 3) (op := Op.alloc 263) (dst := some 5) (by kernel_rfl)
      refine wpOp_plain ho hgd ?_
      refine wp_allocRow 263 hop _ hdst zk hzk ((ih b0 b1 b2 true b4 b5 b6 _ _ (by simp [cnt] at hc ⊢; omega) ?_))
      have hb : Below w.heap.size w (w.alloc (.cells zk 263)) := bal (Below.refl _ _) _
      have e5 : b5 = false := by unfold Slot at h5; simpa using h5.1
      subst e5
      exact ⟨_, t6, t10, t11, t12, w.heap.size, g6, rfl, hK.below hb, h0, h1, h2, ⟨rfl, hNs, Blk.new _ _ _⟩, h6.below hb, fun _ hb4 => by have := h6.lt hNs; omega⟩
    · obtain ⟨o, ho, hop, hdst, hgd⟩ := op_parts (ops := (secondOps Tryz.f181.body)) (i := 4) (op := Op.alloc 265) (dst := some 6) (by kernel_rfl)
      refine wpOp_plain ho hgd ?_
      refine wp_allocRow 265 hop _ hdst zd hzd ((ih b0 b1 b2 b3 true b5 b6 _ _ (by simp [cnt] at hc ⊢; omega) ?_))
      have hb : Below w.heap.size w (w.alloc (.cells zd 265)) := bal (Below.refl _ _) _
      have e6 : b6 = false := by unfold Slot at h6; simpa using h6.1
      subst e6
      exact ⟨t5, _, t10, t11, t12, g5, w.heap.size, rfl, hK.below hb, h0, h1, h2, h5.below hb, ⟨rfl, hNs, Blk.new _ _ _⟩, fun _ _ => by have := h5.lt hNs; omega⟩
    · obtain ⟨o, ho, hop, hdst, hgd⟩ := op_parts (ops := (secondOps Tryz.f181.body)) (i := 5) (op := Op.store 263 (Operand.tmp 5) (Operand.tmp 10)) (dst := none) (by kernel_rfl)
      refine wpOp_plain ho hgd ?_
      obtain rfl := h0 rfl
      obtain ⟨rfl, hg, hbk⟩ := h5
      refine wp_store_row 263 _ _ hop g5 ks rfl rfl 263 zk hbk hsk hsk2 hk1 ?_
      rw [hdst]
      refine ih true b1 b2 true b4 true b6 _ _ (by simp [cnt] at hc ⊢; omega) ?_
      refine ⟨_, t6, _, t11, t12, g5, g6, rfl, hK.row g5 hg ks, h0, h1, h2, ⟨rfl, hg, setRow_heap _ _ _ _ _ _ hbk⟩, ?_, hne⟩
      cases b4 with
      | true => exact h6.row g5 (fun e => hne rfl rfl e.symm) ks
      | false => unfold Slot at *; simpa using h6
    · obtain ⟨o, ho, hop, hdst, hgd⟩ := op_parts (ops := (secondOps Tryz.f181.body)) (i := 6) (op := Op.store 265 (Operand.tmp 6) (Operand.tmp 12)) (dst := none) (by kernel_rfl)
      refine wpOp_plain ho hgd ?_
      obtain rfl := h2 rfl
      obtain ⟨rfl, hg, hbk⟩ := h6
      refine wp_store_row 265 _ _ hop g6 ds rfl rfl 265 zd hbk hsd hsd2 hd1 ?_
      rw [hdst]
      refine ih b0 b1 true b3 true b5 true _ _ (by simp [cnt] at hc ⊢; omega) ?_
      refine ⟨t5, _, t10, t11, _, g5, g6, rfl, hK.row g6 hg ds, h0, h1, h2, ?_, ⟨rfl, hg, setRow_heap _ _ _ _ _ _ hbk⟩, hne⟩
      cases b3 with
      | true => exact h5.row g6 (fun e => hne rfl rfl e) ds
      | false => unfold Slot at *; simpa using h5
end Go.Proofs.YtacdnednkglobaaGreatDoor
