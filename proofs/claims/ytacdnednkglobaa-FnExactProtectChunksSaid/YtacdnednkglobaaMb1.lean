import Derived.Test.YtacdnednkglobaaMa8
import Derived.Test.YtacdnednkglobaaMa1
import Derived.Test.YtacdnednkglobaaMa9
import Derived.Test.YtacdnednkglobaaMb0

/- The program's byteWriter: put, number, pair, word, count, numbers. -/
namespace Go.Proofs.Ytacdnednkglobaa
open Go.RowKit Go.Deep

/-- A writer in block r: what is written is l, in memory behind block r. -/
def WR (w : World) (r : Nat) (l : List Int) : Prop :=
  ∃ v, Blk w r 65 #[v] ∧ w.ownsRow (r + 1) 5 1 v l.length (l.map (Value.int .u8))
theorem WR.lt {w : World} {r : Nat} {l : List Int} (h : WR w r l) : r < w.heap.size := by
  obtain ⟨v, h1, _⟩ := h
  exact h1.lt
theorem wr_nil {w : World} {r : Nat} (h : Blk w r 65 #[.slice none 0 0]) : WR w r [] := ⟨_, h, rfl, .inl ⟨rfl, rfl⟩⟩
theorem WR.below {w w' : World} {r : Nat} {l : List Int} (h : WR w r l) (hb : Below w.heap.size w w') : WR w' r l := by
  obtain ⟨v, h1, h2⟩ := h
  exact ⟨v, h1.below hb, own_below0 h2 hb⟩
/-- Blocks of other types than bytes, but for the writer's own, are kept. -/
def OthK (r : Nat) (w w' : World) : Prop := ∀ (g : Nat) (t : TypeId) (cs : Array Value), g ≠ r → t ≠ 5 → Blk w g t cs → Blk w' g t cs
theorem OthK.of_below {r : Nat} {w w' : World} (hb : Below w.heap.size w w') : OthK r w w' := fun _ _ _ _ _ h => h.below hb
theorem OthK.trans {r : Nat} {a b c : World} (h : OthK r a b) (k : OthK r b c) : OthK r a c := fun g t cs hg ht x => k g t cs hg ht (h g t cs hg ht x)
/-- A call that wrote: what is written behind it; what lies below the writer is kept. -/
def Wrote (r : Nat) (l : List Int) (w : World) (e : Ending) (w' : World) : Prop := e = .returned (.tuple #[]) ∧ WR w' r l ∧ Below r w w' ∧ OthK r w w'
theorem bs_lo0 {w0 : World} {r : Nat} {A : Option Addr} {l : List Int} (h : Bs w0 A l) (h0 : w0.heap.size ≤ r) : ∀ a, A = some a → l = [] ∨ a.block < r := by
  rcases h with h | ⟨b, off, e, h1, _⟩
  · exact fun _ _ => .inl h
  · intro a e2
    rw [e] at e2
    obtain rfl := Option.some.inj e2
    exact .inr (Nat.lt_of_lt_of_le h1 h0)
theorem is_lo0 {w0 : World} {r : Nat} {A : Option Addr} {l : List Int} (h : Is w0 A l) (h0 : w0.heap.size ≤ r) : ∀ a, A = some a → l = [] ∨ a.block < r := by
  rcases h with h | ⟨b, off, e, h1, _⟩
  · exact fun _ _ => .inl h
  · intro a e2
    rw [e] at e2
    obtain rfl := Option.some.inj e2
    exact .inr (Nat.lt_of_lt_of_le h1 h0)
/-- What lies below a writer is read as before. -/
theorem bs_lo {w w' : World} {r : Nat} {A : Option Addr} {l : List Int} (h : Bs w A l) (hlo : ∀ a, A = some a → l = [] ∨ a.block < r) (hb : Below r w w') (_hr : r < w.heap.size) : Bs w' A l := by
  rcases h with h | ⟨b, off, e, h1, h2⟩
  · exact .inl h
  · rcases hlo _ e with h3 | h3
    · exact .inl h3
    · exact .inr ⟨b, off, e, Nat.lt_of_lt_of_le h1 hb.size, fun j hj => (hb.cell (p := ⟨b, off + j, none⟩) h3).trans (h2 j hj)⟩
theorem is_lo {w w' : World} {r : Nat} {A : Option Addr} {l : List Int} (h : Is w A l) (hlo : ∀ a, A = some a → l = [] ∨ a.block < r) (hb : Below r w w') (_hr : r < w.heap.size) : Is w' A l := by
  rcases h with h | ⟨b, off, e, h1, h2⟩
  · exact .inl h
  · rcases hlo _ e with h3 | h3
    · exact .inl h3
    · exact .inr ⟨b, off, e, Nat.lt_of_lt_of_le h1 hb.size, fun j hj => (hb.cell (p := ⟨b, off + j, none⟩) h3).trans (h2 j hj)⟩
set_option maxHeartbeats 1000000 in
theorem put_any (r : Nat) (l m : List Int) (A : Option Addr) (c : Nat) (w : World) (h : WR w r l) (hA : Bs w A m) (hm : l.length + m.length ≤ 100000) :
    Calls Try.prog 48 #[.pointer (some ⟨r, 0, none⟩), .slice A m.length c] w (Wrote r (l ++ m) w) := by
  obtain ⟨v, K, O⟩ := h
  have c0 := K.cell 0
  have hlt := K.lt
  simp only [List.getElem?_toArray, List.getElem?_cons_zero] at c0
  have HK := hidH K
  have HO := hidH O
  have HA := hidH hA
  have HM := hidH hm
  clear K O hA hm
  go_enter Try.func48, Try.ntmps48
  go_wp2_with (at_builtin; refine wpList_append_bs rfl _ _ rfl (r + 1) _ _ _ rfl HO.out A m c rfl HA.out (by have := HM.out; omega) hlt ?_)
  intro v2 w2 o2 g2
  have BB : Below (r + 1) w w2 := (Below.refl (r + 1) w).grown g2 hlt (fun x hx => (HO.out.lt x hx).1)
  have HOT := hidH (show OthK r w w2 from fun g t cs _ ht hk => by
    refine (g2.block g hk.lt (fun e => ?_)).trans hk
    rcases HO.out.2 with ⟨h1, _⟩ | ⟨g1, cap, cur, h1, _, h3, _⟩
    · rw [h1] at e; cases e
    · rw [h1] at e
      obtain rfl : g = g1 := by simpa [Value.ownBlock] using e
      have h4 : some (Obj.cells cur 5 (0, 0)) = some (Obj.cells cs t (0, 0)) := h3.symm.trans hk
      simp at h4
      exact ht h4.2.symm)
  have K2 : Blk w2 r 65 #[v] := (BB.block r (Nat.lt_succ_self r)).trans HK.out
  have hs2 := BB.size
  have d0 := K2.cell 0
  have f0 := K2.frozen 0
  simp only [List.getElem?_toArray, List.getElem?_cons_zero] at d0
  have o2' : w2.ownsRow (r + 1) 5 1 v2 (l ++ m).length ((l ++ m).map (Value.int .u8)) := by simpa using o2
  obtain ⟨A2, c2, e2, _⟩ := own_ob o2'
  have HO2 := hidH o2'
  obtain ⟨n2, hn2⟩ : ∃ n2, (l ++ m).length = n2 := ⟨_, rfl⟩
  rw [hn2] at e2
  subst e2
  have HB := hidH BB
  have HK2 := hidH K2
  clear o2 o2' g2 BB K2 c0 HK HO hn2
  go_wp2
  exact bodyPost_ret (v := .tuple #[]) (by simp [results, Try.results48, go_sem]) rfl ⟨rfl, ⟨_, HK2.out.put 0 _, own_kept HO2.out (set_win w2 r 0 _) (Nat.lt_succ_self r)⟩, (HB.out.mono (Nat.le_succ r)).trans ((set_win w2 r 0 _).below (by omega)), fun g t cs hg ht hk => (HOT.out g t cs hg ht hk).far (fun e => hg e.symm) _⟩
set_option maxHeartbeats 1000000 in
theorem wpair_any (r : Nat) (l : List Int) (n : Int) (w : World) (h : WR w r l) (h0 : 0 ≤ n) (h1 : n ≤ 65535) (hm : l.length ≤ 90000) :
    Calls Try.prog 47 #[.pointer (some ⟨r, 0, none⟩), .int .i64 n] w (Wrote r (l ++ [n / 256, n % 256]) w) := by
  have B1 := bal (Below.refl w.heap.size w) (.cells #[.int .u8 (n / 256), .int .u8 (n % 256)] 5)
  have HP := hidH (put_any r l [n / 256, n % 256] (some ⟨w.heap.size, 0, none⟩) 2 _ (h.below B1) (lit_bs w 5 [n / 256, n % 256]) (by simp; omega))
  have HB := hidH (And.intro (B1.mono (Nat.le_of_lt h.lt)) (OthK.of_below (r := r) B1))
  clear h hm B1
  unfold Wrote at HP
  go_enter Try.func47, Try.ntmps47
  go_wp2_with fail
  refine HP.out.mono ?_
  rintro e w2 ⟨rfl, hw, hb, ho⟩
  have HR := hidH (And.intro hw (And.intro (HB.out.1.trans hb) (OthK.trans HB.out.2 ho)))
  clear HP hw hb ho
  go_wp2
  exact bodyPost_ret (v := .tuple #[]) (by simp [results, Try.results47, go_sem]) rfl ⟨rfl, HR.out⟩
end Go.Proofs.Ytacdnednkglobaa

/- Chapter 7: the program's tagChunk, MacText. -/
namespace Go.Proofs.Ytacdnednkglobaa
open Go.RowKit Go.Deep

theorem fldBR (c : Int) (A : Option Addr) (n cp : Nat) (w : World) : (Instr.field 27 (.agg #[.int .i64 c, .slice A n cp]) 1).run Try.prog w = .ok (.slice A n cp) w := by kernel_rfl
theorem fldBR0 (c : Int) (A : Option Addr) (n cp : Nat) (w : World) : (Instr.field 27 (.agg #[.int .i64 c, .slice A n cp]) 0).run Try.prog w = .ok (.int .i64 c) w := by kernel_rfl
set_option maxRecDepth 100000 in
set_option maxHeartbeats 2000000 in
theorem tagChunk_any (id : Int) (l : List Int) (A : Option Addr) (c : Nat) (w : World) (hA : Bs w A l) (h0 : 0 ≤ id) (h1 : id < 65536) (hl : l.length ≤ 1000) :
    Calls Try.prog 33 #[.int .i64 id, .slice A l.length c] w (TagR w id l) := by
  have K0 := Blk.new w 51 #[.int .i64 0, .int .i64 0, .slice none 0 0]
  have b0 := bal (Below.refl w.heap.size w) (.cells #[.int .i64 0, .int .i64 0, .slice none 0 0] 51)
  obtain ⟨w0, hw0⟩ : ∃ w0, w.alloc (.cells #[.int .i64 0, .int .i64 0, .slice none 0 0] 51) = w0 := ⟨_, rfl⟩
  have hs0 : w0.heap.size = w.heap.size + 1 := by rw [← hw0]; simp
  rw [hw0] at K0 b0
  have b1 := bal (Below.refl w0.heap.size w0) (.cells #[.slice none 0 0] 65)
  have KR := Blk.new w0 65 #[.slice none 0 0]
  obtain ⟨w1, hw1⟩ : ∃ w1, w0.alloc (.cells #[.slice none 0 0] 65) = w1 := ⟨_, rfl⟩
  rw [hw1] at b1 KR
  rw [hs0] at KR
  have K1 := K0.below b1
  have B1 : Below w.heap.size w w1 := b0.trans (b1.mono b0.size)
  have HP := hidH (wpair_any (w.heap.size + 1) [] id w1 (wr_nil KR) h0 (by omega) (by simp))
  have HLO := hidH (bs_lo0 (r := w.heap.size + 1) hA (Nat.le_succ _))
  have HS1 := hidH (bs_below hA B1)
  have HK := hidH K1
  have HB := hidH B1
  have HLT := hidH KR.lt
  have HW0 := hidH hw0
  have HW1 := hidH hw1
  have HS0 := hidH hs0
  have HL := hidH hl
  unfold Wrote at HP
  clear K0 b0 hw0 hs0 b1 KR hw1 K1 B1 hA hl
  go_enter Try.func33, Try.ntmps33
  go_wp2_with fail
  rw [HW0.out, HW1.out]
  refine HP.out.mono ?_
  rintro e w2 ⟨rfl, hw2, b2, k2⟩
  have HP2 := hidH (put_any (w.heap.size + 1) _ l A c w2 hw2 (bs_lo HS1.out HLO.out b2 HLT.out) (by have := HL.out; simp; omega))
  have HB2 := hidH b2
  unfold Wrote at HP2
  clear HP hw2 b2 k2
  go_wp2_with fail
  refine HP2.out.mono ?_
  rintro e w3 ⟨rfl, hw3, b3, k3⟩
  obtain ⟨v, KW, OW⟩ := hw3
  obtain ⟨A3, c3, e3⟩ := own_lenT OW
  subst e3
  have b13 : Below (w.heap.size + 1) w1 w3 := HB2.out.trans b3
  have K4 : Blk w3 w.heap.size 51 #[.int .i64 0, .int .i64 0, .slice none 0 0] := (b13.block _ (by omega)).trans HK.out
  have B3 := hidH (show Below w.heap.size w w3 from HB.out.trans (b13.mono (by omega)))
  have O3 := hidH (show w3.ownsRow (w.heap.size + 2) 5 1 (.slice A3 (tagB id l).length c3) (tagB id l).length ((tagB id l).map (Value.int .u8)) by
    have e : (tagB id l).length = 2 + l.length := by rw [tagB_len]; omega
    rw [e]
    have := OW
    simp only [List.nil_append, List.length_append, List.length_cons, List.length_nil] at this
    simpa [tagB] using this)
  have y0 := KW.cell 0
  have hlw := KW.lt
  have x0 := K4.cell 0
  have x1 := K4.cell 1
  have x2 := K4.cell 2
  have f0 := K4.frozen 0
  have f1 := K4.frozen 1
  have f2 := K4.frozen 2
  simp only [List.getElem?_toArray, List.getElem?_cons_succ, List.getElem?_cons_zero] at x0 x1 x2 y0
  have hlt := K4.lt
  have K5 := hidH K4
  have HN := hidH (show (tagB id l).length = ([] ++ [id / 256, id % 256] ++ l).length by simp [tagB])
  clear K4 KW OW b3 k3 b13 HP2
  go_wp2
  exact bodyPost_ret (v := .agg #[.int .i64 15, .int .i64 0, .slice A3 ([] ++ [id / 256, id % 256] ++ l).length c3]) (by simp [results, Try.results33, go_sem, x0, x1, x2]) rfl ⟨A3, c3, by rw [HN.out]; rfl, own_monoT (own_farT (own_farT (own_farT O3.out K5.out (by decide) 0 _) (K5.out.put 0 _) (by decide) 1 _) ((K5.out.put 0 _).put 1 _) (by decide) 2 _) (by omega), bst (bst (bst B3.out (Nat.le_refl _) _) (Nat.le_refl _) _) (Nat.le_refl _) _⟩
theorem chM_ok {x : ChunkM} (h : cmOk x) : chM x.Kind x.Flags x.Body = cmL x := by
  have := cmF_ok h
  unfold cmF at this
  rw [chM, if_pos this]; rfl
theorem chM_tag (id : Int) : chM 15 0 (tagB id zer32) = cmL (tagC id zer32) :=
  chM_ok (x := tagC id zer32) ⟨⟨by show (0 : Int) ≤ 15; decide, by show (15 : Int) ≤ 255; decide⟩, ⟨by show (0 : Int) ≤ 0; decide, by show (0 : Int) ≤ 255; decide⟩, by show (tagB id zer32).length ≤ 160; rw [tagB_len]; decide⟩
set_option maxRecDepth 100000 in
set_option maxHeartbeats 4000000 in
theorem mt_impl (id : Int) (r : List ChunkM) (v : Value) (u : World) (_ : WfV (.int id)) (h : Rd u (st_Chunk r) v) (_ : WfV (st_Chunk r)) (_ : tot (st_Chunk r) ≤ 1048576) :
    Calls Try.prog 11 #[.int .i64 id, v] u (Res u (mtR id r).vs) := by
  have R0 := Blk.new u 27 #[.int .i64 0, .slice none 0 0]
  have b0 := bal (Below.refl u.heap.size u) (.cells #[.int .i64 0, .slice none 0 0] 27)
  obtain ⟨w0, hw0⟩ : ∃ w0, u.alloc (.cells #[.int .i64 0, .slice none 0 0] 27) = w0 := ⟨_, rfl⟩
  have hs0 : w0.heap.size = u.heap.size + 1 := by rw [← hw0]; simp
  rw [hw0] at R0 b0
  have HI := hidH (fun (w : World) (hb : Below u.heap.size u w) => Rd.below hb _ h)
  have HW := hidH hw0
  have HS := hidH hs0
  have HR := hidH R0
  have HB := hidH b0
  have HCF := hidH (chunksFault_any r v 7 w0 (HI.out _ b0) (by omega))
  obtain ⟨x0, x1, xz⟩ := R0.two
  have f0 := R0.frozen 0
  have f1 := R0.frozen 1
  obtain ⟨b, hb⟩ : ∃ b, inB id 0 99 = b := ⟨_, rfl⟩
  obtain ⟨A, c, rfl⟩ := st_Chunk_sh h
  clear hw0 hs0 R0 b0 h
  cases b
  · have HM := hidH (show (mtR id r).vs = [.int 3, .bs []] by simp [mtR, mtF, hb, BytesResultM.vs])
    rw [HM.out]
    obtain ⟨y0, y1, yz⟩ := (Blk.new u 27 #[.int .i64 3, .slice none 0 0]).two
    have HBB := hidH (bal (Below.refl u.heap.size u) (.cells #[.int .i64 3, .slice none 0 0] 27))
    go_enter Try.func11, Try.ntmps11
    go_wp2_with (go_at_call 30; refine (isId_any _ _).mono ?_; rintro e w' ⟨rfl, rfl⟩)
    exact bodyPost_ret (v := .agg #[.int .i64 3, .slice none 0 0]) (by simp [results, Try.results11, go_sem, y0, y1]) rfl ⟨[.int .i64 3, .slice none 0 0], rfl, OwN.int 3 (OwN.empty _ (Nat.le_refl _)), HBB.out⟩
  · have HID := hidH (show 0 ≤ id ∧ id ≤ 99 by simpa [inB] using hb)
    clear x0 x1 xz f0 f1
    go_enter Try.func11, Try.ntmps11
    go_wp2_with (go_at_call 30; refine (isId_any _ _).mono ?_; rintro e w' ⟨rfl, rfl⟩)
    rw [HW.out]
    refine HCF.out.mono ?_
    rintro e w1 ⟨rfl, b1⟩
    have HB1 := hidH (btr HB.out b1)
    have HR1 := hidH (HR.out.below b1)
    have HZ1 := hidH b1.size
    obtain ⟨F, hF⟩ : ∃ F, csF 7 r = F := ⟨_, rfl⟩
    rw [hF]
    clear b1 HCF
    by_cases hz : F = 0
    · have q : (F != 0) = false := by rw [bne_eq_false_iff_eq]; exact hz
      have H0 := hidH (hF.trans hz)
      have HC := hidH (cmsF_ok (csF_zero H0.out).2)
      have HN := hidH (show r.length ≤ 7 from (csF_zero H0.out).1)
      have hnI : (r.length : Int) ≤ 7 := by have := HN.out; omega
      have HIN := hidH hb
      have hmk := make32 w1
      have SZ := zer32_bs w1
      have ba := bal (Below.refl w1.heap.size w1) (.cells (madeCells #[Value.int .u8 0] 32) 5)
      have HZZ : zer32.length = 32 := by decide
      obtain ⟨w2, hw2⟩ : ∃ w2, w1.alloc (.cells (madeCells #[Value.int .u8 0] 32) 5) = w2 := ⟨_, rfl⟩
      rw [hw2] at hmk SZ ba
      have HT := hidH (tagChunk_any id zer32 (some ⟨w1.heap.size, 0, none⟩) 32 w2 SZ HID.out.1 (by have := HID.out; omega) (by rw [HZZ]; omega))
      rw [HZZ] at HT
      have HB2 := hidH (btr HB1.out ba)
      have HR2 := hidH (HR1.out.below ba)
      have HZ2 := hidH ba.size
      clear hz hF SZ ba hw2
      go_wp2_with fail
      refine HT.out.mono ?_
      rintro e w3 ⟨A3, c3, rfl, o3, b3⟩
      obtain ⟨A3', c3', e3, ob3, _, _⟩ := own_ob o3
      injection e3 with e31 e32 e33
      subst e31 e33
      have hl34 : (tagB id zer32).length = 34 := by rw [tagB_len, HZZ]
      have HPC := hidH (packChunk_own 15 0 A3 (tagB id zer32) c3 w3 ob3.bs (by rw [hl34]; omega))
      rw [chM_tag, hl34] at HPC
      rw [hl34]
      obtain ⟨L0, hL0⟩ : ∃ L0, cmL (tagC id zer32) = L0 := ⟨_, rfl⟩
      rw [hL0] at HPC
      have HL0 := hidH hL0
      have HB3 := hidH (btr HB2.out b3)
      have HR3 := hidH (HR2.out.below b3)
      have HZ3 := hidH b3.size
      unfold ckV at HPC ⊢
      obtain ⟨F0, hF0⟩ : ∃ F0, chF 15 0 (tagB id zer32) = F0 := ⟨_, rfl⟩
      rw [hF0] at HPC
      clear o3 ob3 e32 b3 HT hmk hl34 hL0 hF0 HZZ
      go_wp2_with fail
      refine HPC.out.mono ?_
      rintro e w4 ⟨A4, c4, rfl, o4, b4⟩
      have hfl := fldBR F0 A4 L0.length c4 w4
      have HB4 := hidH (btr HB3.out b4)
      have HR4 := hidH (HR3.out.below b4)
      have HO4 := hidH (show w4.ownsRow (u.heap.size + 1) 5 1 (.slice A4 L0.length c4) (txtTo id r 0).length ((txtTo id r 0).map (Value.int .u8)) by
        rw [txtTo_zero, HL0.out]
        exact own_monoT o4 (by have := HS.out; have := HZ1.out; have := HZ2.out; have := HZ3.out; omega))
      clear o4 b4 HPC
      go_wp2
      clear hfl
      go_loopw [6, 26] (fun v i wr => ∃ j : Nat, j ≤ r.length ∧ i = .int .i64 j ∧ wr.ownsRow (u.heap.size + 1) 5 1 v (txtTo id r j).length ((txtTo id r j).map (Value.int .u8)) ∧ Blk wr u.heap.size 27 #[.int .i64 0, .slice none 0 0] ∧ Below u.heap.size u wr) (fun _ i _ => r.length - (intOf i).toNat)
      case atStart => exact ⟨0, by omega, rfl, HO4.out, HR4.out, HB4.out⟩
      case round =>
        obtain ⟨j, hj, rfl, hown, hR, hB⟩ := hrel
        have hsz := hB.size
        have HL := hidH (txtTo_len id r HC.out j hj)
        have HRW := hidH hR
        have hrl := hR.lt
        by_cases hlt : j < r.length
        · have hj0 : (0 : Int) ≤ (j : Int) := by omega
          have hj1 : (j : Int) < (r.length : Int) := by omega
          obtain ⟨g, o, c', B, cB, e, CK, hbl⟩ := chunk_at (HI.out _ hB) hlt
          injection e with e1 e2 e3
          subst e1 e3
          have hok := HC.out r[j] (List.getElem_mem hlt)
          have HSU := hidH (txtTo_succ id r j hlt)
          have hcl := hidH (cmL_len r[j] hok.2.2)
          have p0 := CK.c0
          have p1 := CK.c1
          have p2 := CK.c2
          have hg := CK.lt
          have ba := bal (Below.refl wr.heap.size wr) (.cells #[.int .i64 r[j].Kind, .int .i64 r[j].Flags, .slice B r[j].Body.length cB] 51)
          have KQ := hidH (Blk.new wr 51 #[.int .i64 r[j].Kind, .int .i64 r[j].Flags, .slice B r[j].Body.length cB])
          have HPC := hidH (packChunk_own r[j].Kind r[j].Flags B r[j].Body cB _ (bs_below CK.body ba) hbl)
          rw [chM_ok hok] at HPC
          unfold ckV at HPC
          obtain ⟨f, hf⟩ : ∃ f, chF r[j].Kind r[j].Flags r[j].Body = f := ⟨_, rfl⟩
          rw [hf] at HPC
          have OH := hidH (own_below0 hown ba)
          have HR5 := hidH (hR.below ba)
          have HBW := hidH (btr hB ba)
          clear CK hok hbl hf hown hR hB ba
          go_wp2_with fail
          refine HPC.out.mono ?_
          rintro e w6 ⟨A6, c6, rfl, o6, b6⟩
          obtain ⟨A6', c6', e6, ob6, _, _⟩ := own_ob o6
          injection e6 with e61 _ e63
          subst e61 e63
          have hfl := fldBR f A6 (cmL r[j]).length c6 w6
          have S6 := hidH ob6.bs
          have O6 := hidH (own_below0 OH.out b6)
          have HR6 := hidH (HR5.out.below b6)
          have B6 := hidH (btr HBW.out b6)
          have hsz6 : u.heap.size + 1 ≤ w6.heap.size := HR6.out.lt
          clear o6 ob6 b6 HPC OH HBW HR5 p0 p1 p2
          go_wp2_with (at_builtin; go_loud (refine wpList_append_bs rfl _ _ rfl (u.heap.size + 1) _ _ _ rfl O6.out A6 _ c6 rfl S6.out (by have h1 := HL.out; have h2 := hcl.out; have := HN.out; omega) hsz6 ?_))
          intro v7 w7 o7 g7
          have B7 := hidH (B6.out.grown g7 (by omega) (fun x hx => Nat.le_trans (Nat.le_succ _) (O6.out.lt x hx).1))
          have HR7 := hidH (show Blk w7 u.heap.size 27 #[.int .i64 0, .slice none 0 0] from (g7.block _ HR6.out.lt (fun q => by have := (O6.out.lt _ q.symm).1; omega)).trans HR6.out)
          have O7 := hidH (show w7.ownsRow (u.heap.size + 1) 5 1 v7 (txtTo id r (j + 1)).length ((txtTo id r (j + 1)).map (Value.int .u8)) by
            rw [HSU.out]
            simpa using o7)
          clear o7 g7 O6 B6 S6 hsz6 hfl HR6
          go_wp2
          go_roundw
          case rel => exact ⟨j + 1, by omega, by go_num, O7.out, HR7.out, B7.out⟩
          case measure => simp [intOf]; omega
        · obtain rfl : j = r.length := by omega
          have HLL := hidH (show txtTo id r r.length = txtL id r from rfl)
          rw [HLL.out] at hown
          obtain ⟨L, hL⟩ : ∃ L, txtL id r = L := ⟨_, rfl⟩
          rw [hL] at hown
          obtain ⟨A2, c2, rfl, ob2, hc2, hm2⟩ := own_ob hown
          obtain ⟨x0, x1, xz⟩ := hR.two
          have f0 := hR.frozen 0
          have f1 := hR.frozen 1
          have HO := hidH ob2
          have HCC := hidH (And.intro hc2 hm2)
          have HBW := hidH hB
          have HLE := hidH hL
          clear ob2 hc2 hm2 hR hB hlt hj hown hL
          by_cases h5 : L.length ≤ 500
          · have h5I : (L.length : Int) ≤ 500 := by omega
            have HM := hidH (show (mtR id r).vs = [.int 0, .bs L] by simp [mtR, mtF, HIN.out, H0.out, HLE.out, h5, BytesResultM.vs])
            clear h5
            go_wp2
            exact bodyPost_ret (v := .agg #[.int .i64 0, .slice A2 L.length c2]) (by simp [results, Try.results11, go_sem, x0, x1]) rfl (by rw [HM.out]; exact br_res 0 HO.out (Nat.le_refl _) HBW.out HCC.out.1 HCC.out.2 _ _)
          · have h5I : (500 : Int) < (L.length : Int) := by omega
            have HM := hidH (show (mtR id r).vs = [.int 2, .bs []] by simp [mtR, mtF, HIN.out, H0.out, HLE.out, h5, BytesResultM.vs])
            clear h5
            go_wp2
            exact bodyPost_ret (v := .agg #[.int .i64 2, .slice none 0 0]) (by simp [results, Try.results11, go_sem, x0, x1]) rfl (by rw [HM.out]; exact br_code 2 (Nat.le_refl _) HBW.out _ _)
    · have q : (F != 0) = true := by rw [bne_iff_ne]; exact hz
      have HM := hidH (show (mtR id r).vs = [.int F, .bs []] by simp [mtR, mtF, hb, hF, hz, BytesResultM.vs])
      have R2 := HR1.out
      obtain ⟨x0, x1, xz⟩ := R2.two
      have f0 := R2.frozen 0
      have f1 := R2.frozen 1
      clear R2 hz hF
      go_wp2
      exact bodyPost_ret (v := .agg #[.int .i64 F, .slice none 0 0]) (by simp [results, Try.results11, go_sem, x0, x1]) rfl (by rw [HM.out]; exact br_code F (Nat.le_refl _) HB1.out _ _)
end Go.Proofs.Ytacdnednkglobaa
