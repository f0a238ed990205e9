/- The drawn packets: l4BentPacket, DrawPackPacket. -/
import Derived.Test.YtepcikghhnfacaaDoorJb3
import Derived.Deep.LoopGhost
namespace Go.Proofs.YtepcikghhnfacaaDoor
open Go.RowKit Go.Deep

/-- The packet under way: its cell g, the result's cell R, its list, the source. -/
structure PkSt (w1 : World) (r R g T : Nat) (A : Option Addr) (l : List Int) (c n : Nat) (W : World) (tag : Int) (v : Value) (cs : List Chk) : Prop where
  k : Blk W g 26 #[.int .i64 tag, v]
  kr : Blk W R 26 #[.int .i64 0, .slice none 0 0]
  gr : Gr w1.heap.size T W v cs
  src : SrcLe W r A l c n
  win : Win r (r + 1) w1 W
  low : w1.heap.size ≤ T
theorem PkSt.below {w1 : World} {r R g T : Nat} {A : Option Addr} {l : List Int} {c n : Nat} {W W' : World} {tag : Int} {v : Value} {cs : List Chk} (h : PkSt w1 r R g T A l c n W tag v cs) (hb : Below W.heap.size W W') : PkSt w1 r R g T A l c n W' tag v cs :=
  ⟨h.k.below hb, h.kr.below hb, h.gr.below hb, h.src.below hb, h.win.andBelow (hb.mono h.win.size), h.low⟩
theorem PkSt.turn {w1 : World} {r R g T : Nat} {A : Option Addr} {l : List Int} {c n m : Nat} {W W' : World} {tag : Int} {v : Value} {cs : List Chk} (h : PkSt w1 r R g T A l c n W tag v cs) (hw : Win r (r + 1) W W') (hs : SrcLe W' r A l c m) (hr : r < R) (hg : r < g) (h1 : r < w1.heap.size) : PkSt w1 r R g T A l c m W' tag v cs :=
  ⟨hw.blk h.k (.inr hg), hw.blk h.kr (.inr hr), h.gr.win hw h1, hs, h.win.trans hw, h.low⟩
theorem PkSt.set0 {w1 : World} {r R g T : Nat} {A : Option Addr} {l : List Int} {c n : Nat} {W : World} {tag : Int} {v : Value} {cs : List Chk} (h : PkSt w1 r R g T A l c n W tag v cs) (hr : r < g) (h1 : w1.heap.size ≤ g) (h2 : R < g) (tag' : Int) : PkSt w1 r R g T A l c n (W.setCell ⟨g, 0, none⟩ (.int .i64 tag')) tag' v cs :=
  ⟨blk_put1 h.k _, (win_set W g 0 _).blk h.kr (.inl h2), h.gr.put h.k (i := 0) _, h.src.far (p := ⟨g, 0, none⟩) hr _, h.win.andBelow ((Below.refl w1.heap.size W).setCell (p := ⟨g, 0, none⟩) h1 _), h.low⟩
theorem PkSt.set1 {w1 : World} {r R g T : Nat} {A : Option Addr} {l : List Int} {c n : Nat} {W : World} {tag : Int} {v : Value} {cs : List Chk} (h : PkSt w1 r R g T A l c n W tag v cs) (hr : r < g) (h1 : w1.heap.size ≤ g) (h2 : R < g) : PkSt w1 r R g w1.heap.size A l c n (W.setCell ⟨g, 1, none⟩ (.slice none 0 0)) tag (.slice none 0 0) [] :=
  ⟨blk_put2 h.k _, (win_set W g 1 _).blk h.kr (.inl h2), Gr.nil (by have := h.win.size; simpa [World.setCell] using this), h.src.far (p := ⟨g, 1, none⟩) hr _, h.win.andBelow ((Below.refl w1.heap.size W).setCell (p := ⟨g, 1, none⟩) h1 _), Nat.le_refl _⟩
theorem PkSt.tail {w w1 : World} {r R g T : Nat} {A : Option Addr} {l : List Int} {c n : Nat} {W : World} {tag : Int} {v : Value} {cs : List Chk} (h : PkSt w1 r R g T A l c n W tag v cs) (hw : R = w.heap.size ∧ w1.heap.size = w.heap.size + 1 ∧ Win r (r + 1) w w1) (hr : r < R) :
    Gr w.heap.size T ((W.setCell ⟨R, 0, none⟩ (.int .i64 tag)).setCell ⟨R, 1, none⟩ v) v cs ∧ SrcLe ((W.setCell ⟨R, 0, none⟩ (.int .i64 tag)).setCell ⟨R, 1, none⟩ v) r A l c n ∧ Win r (r + 1) w ((W.setCell ⟨R, 0, none⟩ (.int .i64 tag)).setCell ⟨R, 1, none⟩ v) := by
  obtain ⟨h0, h1, h2⟩ := hw
  refine ⟨?_, ?_, ?_⟩
  · exact ((h.gr.put h.kr (i := 0) (.int .i64 tag)).put (blk_put1 h.kr (.int .i64 tag)) (i := 1) v).down (by omega)
  · exact (h.src.far (p := ⟨R, 0, none⟩) hr _).far (p := ⟨R, 1, none⟩) hr _
  · exact (h2.trans h.win).andBelow (((Below.refl w.heap.size W).setCell (p := ⟨R, 0, none⟩) (by show w.heap.size ≤ R; omega) _).setCell (p := ⟨R, 1, none⟩) (by show w.heap.size ≤ R; omega) _)
def anyT (t : Int) : Prop := -1 ≤ t ∧ t ≤ 4294967296
theorem bent_ch (r : Nat) (A : Option Addr) (l : List Int) (c n : Nat) (hn : (n : Int) ≤ 500000000) (u : World) (hu : SrcLe u r A l c n) :
    Calls Tryd.prog 56 #[.pointer (some ⟨r, 0, none⟩)] u fun e w' => ∃ (y : Chk) (A2 : Option Addr) (c2 b2 : Nat), e = .returned (.agg #[.int .i64 y.kind, .int .i64 y.flags, .slice A2 y.body.length c2]) ∧ anyY y ∧ Tb w' b2 A2 y.body ∧ (y.body = [] ∨ u.heap.size ≤ b2 ∧ b2 < w'.heap.size) ∧ SrcLe w' r A l c (n + 300) ∧ Win r (r + 1) u w' := by
  obtain ⟨a, S, ha⟩ := hu
  refine (l4Bent_any r A l c a u S (by omega)).mono ?_
  rintro e w1 ⟨kk, ff, b, X, cx, a1, rfl, hb, hbl, hX, _, _, S1, ha1, hw⟩
  obtain ⟨b2, q1, q2⟩ := hX.tb
  exact ⟨⟨kk, ff, b⟩, X, cx, b2, rfl, ⟨hb, hbl⟩, q1, q2, ⟨a1, S1, by omega⟩, hw⟩
set_option maxRecDepth 100000 in
set_option maxHeartbeats 4000000 in
theorem l4BentPacket_any (r : Nat) (A : Option Addr) (l : List Int) (c at_ : Nat) (w : World) (h : Src w r A l c at_) (ha : (at_ : Int) ≤ 400000000) :
    Calls Tryd.prog 24 #[.pointer (some ⟨r, 0, none⟩)] w (PkRes 3000 0 10 anyT anyY w r A l c at_) := by
  have hrlt := h.lt
  have K1 := Blk.new w 26 #[.int .i64 0, .slice none 0 0]
  have B1 := bal (Below.refl w.heap.size w) (.cells #[.int .i64 0, .slice none 0 0] 26)
  have H1 := h.below (bal (Below.refl _ w) (.cells #[.int .i64 0, .slice none 0 0] 26))
  obtain ⟨w1, hw1⟩ : ∃ w1, w.alloc (.cells #[.int .i64 0, .slice none 0 0] 26) = w1 := ⟨_, rfl⟩
  have hs1 : w1.heap.size = w.heap.size + 1 := by rw [← hw1]; simp
  rw [hw1] at K1 B1 H1
  have HW1 := hidH hw1
  have HK1 := hidH K1
  have HS := hidH (And.intro (And.intro hs1 (Win.of_below (B := r) (C := r + 1) B1)) hrlt)
  have HSR := hidH H1
  clear h K1 B1 H1 hw1 hs1 hrlt
  go_enter Tryd.func24, Tryd.ntmps24
  go_wp2_with fail
  rw [HW1.out]
  refine (l4Packet_any r A l c at_ w1 HSR.out (by omega)).mono ?_
  rintro e w2 ⟨tag, cs, P, cp, T0, rfl, ht, hcs, ⟨-, hcn⟩, hG, hS, hw2⟩
  have hT0 : w1.heap.size ≤ max T0 w1.heap.size := Nat.le_max_right _ _
  have hTw : max T0 w1.heap.size ≤ w2.heap.size := Nat.max_le.2 ⟨hG.1, hw2.size⟩
  obtain ⟨T, hTT⟩ : ∃ T, max T0 w1.heap.size = T := ⟨_, rfl⟩
  rw [hTT] at hT0 hTw
  have hG' := hG.mono (T' := T) (by omega) hTw
  have B3 := bal (Below.refl w2.heap.size w2) (.cells #[.int .i64 tag, .slice P cs.length cp] 26)
  have ST3 : PkSt w1 r w.heap.size w2.heap.size T A l c (at_ + 250) (w2.alloc (.cells #[.int .i64 tag, .slice P cs.length cp] 26)) tag (.slice P cs.length cp) cs :=
    ⟨Blk.new w2 _ _, (hw2.blk HK1.out (.inr HS.out.2)).below B3, hG'.below B3, hS.below B3, hw2.andBelow (B3.mono hw2.size), hT0⟩
  have hg2 := hw2.size
  obtain ⟨w3, hw3⟩ : ∃ w3, w2.alloc (.cells #[.int .i64 tag, .slice P cs.length cp] 26) = w3 := ⟨_, rfl⟩
  rw [hw3] at ST3
  have HW3 := hidH hw3
  have HY := hidH (show ∀ y ∈ cs, anyY y from fun y hy => ⟨(hcs y hy).2, by have := (hcs y hy).1.2.2; omega⟩)
  have HT := hidH (show anyT tag by unfold IsW at ht; unfold anyT; omega)
  have HN := hidH hcn
  have HL := hidH (show r < w2.heap.size ∧ w1.heap.size ≤ w2.heap.size ∧ w.heap.size < w2.heap.size ∧ r < w1.heap.size by have := HS.out; omega)
  have HST := hidH ST3
  clear hw3 ST3 hg2 hTT hT0 hTw hG hG' B3 ht hcs hcn hS hw2 HSR HW1
  unfold pkV
  go_wp2_with fail
  rw [HW3.out]
  obtain ⟨a3, S3, ha3⟩ := HST.out.src
  refine (next_any r A l c a3 14 _ S3 (by omega)).mono ?_
  rintro e w4 ⟨y, rfl, y0, y1, S4, V4, -⟩
  have ST4 := hidH (HST.out.turn V4 ⟨_, S4, show a3 + 1 ≤ at_ + 251 by omega⟩ HS.out.2 HL.out.1 HL.out.2.2.2)
  clear S3 ha3 y0 y1 S4 V4 HST HW3
  by_cases hy : y = 0
  · subst hy
    go_wp2_with fail
    obtain ⟨a4, S4, ha4⟩ := ST4.out.src
    refine (bent_any r A l c a4 w4 S4 (by omega)).mono ?_
    rintro e w5 ⟨tg, a5, rfl, ht, ha5, S5, V5⟩
    have ST5 := hidH (ST4.out.turn V5 ⟨_, S5, show a5 ≤ at_ + 280 by omega⟩ HS.out.2 HL.out.1 HL.out.2.2.2)
    have HT5 := hidH (show anyT tg from ht)
    clear S4 ha4 S5 V5 ht ha5 ST4
    have Z := ST5.out.k
    have x0 := Z.cell 0
    have x1 := Z.cell 1
    have f0 := Z.frozen 0
    have f1 := Z.frozen 1
    simp only [List.getElem?_toArray, List.getElem?_cons_succ, List.getElem?_cons_zero] at x0 x1
    have xlt := Z.lt
    obtain ⟨y0, y1, yz⟩ := ST5.out.kr.two
    have e0 := ST5.out.kr.frozen 0
    have e1 := ST5.out.kr.frozen 1
    have hne : w.heap.size < w2.heap.size := HL.out.2.2.1
    clear Z
    go_wp2
    have ST6 := ST5.out.set0 HL.out.1 HL.out.2.1 HL.out.2.2.1 tg
    have HF := hidH (ST6.tail ⟨rfl, HS.out.1⟩ HS.out.2)
    exact bodyPost_ret (v := .agg #[.int .i64 tg, .slice P cs.length cp]) (by simp [results, Tryd.results24, go_sem, y0, y1]) rfl ⟨tg, cs, P, cp, T, rfl, HT5.out, HY.out, ⟨Nat.zero_le _, by have := HN.out; omega⟩, HF.out.1, HF.out.2.1.up (by omega), HF.out.2.2⟩
  have n0 := ne_beq hy
  clear hy
  by_cases hy : y = 1
  · subst hy
    have Z := ST4.out.k
    have x0 := Z.cell 0
    have x1 := Z.cell 1
    have f0 := Z.frozen 0
    have f1 := Z.frozen 1
    simp only [List.getElem?_toArray, List.getElem?_cons_succ, List.getElem?_cons_zero] at x0 x1
    have xlt := Z.lt
    obtain ⟨y0, y1, yz⟩ := ST4.out.kr.two
    have e0 := ST4.out.kr.frozen 0
    have e1 := ST4.out.kr.frozen 1
    have hne : w.heap.size < w2.heap.size := HL.out.2.2.1
    clear Z
    go_wp2
    have ST6 := ST4.out.set1 HL.out.1 HL.out.2.1 HL.out.2.2.1
    have HF := hidH (ST6.tail ⟨rfl, HS.out.1⟩ HS.out.2)
    exact bodyPost_ret (v := .agg #[.int .i64 tag, .slice none 0 0]) (by simp [results, Tryd.results24, go_sem, y0, y1]) rfl ⟨tag, [], none, 0, _, rfl, HT.out, (fun y hy => by cases hy), ⟨Nat.zero_le _, by simp⟩, HF.out.1, HF.out.2.1.up (by omega), HF.out.2.2⟩
  have n1 := ne_beq hy
  clear hy
  by_cases hy : y = 2
  · subst hy
    have KN := hidH (ST4.out.below (bal (Below.refl w4.heap.size w4) (.cells #[.int .i64 8, .int .i64 9] 2)))
    go_wp2_with fail
    obtain ⟨a4, S4, ha4⟩ := KN.out.src
    refine (pick_any r A l c a4 w4.heap.size [8, 9] _ S4 (by omega) (Ns.of_blk (t := 2) (Blk.new w4 _ _)) (by simp) (by simp) (by have := ST4.out.src.lt; omega)).mono ?_
    rintro e w5 ⟨y5, a5, rfl, hy5, ha5, S5, V5⟩
    obtain ⟨N, rfl, hN⟩ : ∃ N : Nat, y5 = N ∧ N ≤ 9 := by
      simp at hy5
      rcases hy5 with rfl | rfl
      · exact ⟨8, rfl, by omega⟩
      · exact ⟨9, rfl, by omega⟩
    have ST5 := hidH (KN.out.turn V5 ⟨_, S5, show a5 ≤ at_ + 252 by omega⟩ HS.out.2 HL.out.1 HL.out.2.2.2)
    have hN9 := hidH hN
    clear KN S4 ha4 S5 V5 ha5 hy5 ST4 hN
    go_wp2
    go_loopg [] (20 - cs.length) (fun q wr => ∃ (done : List Chk) (P' : Option Addr) (cp' T' : Nat), 20 - done.length = q ∧ done.length ≤ 9 ∧ (∀ y ∈ done, anyY y) ∧ PkSt w1 r w.heap.size w2.heap.size T' A l c (at_ + 252 + 200 * done.length) wr tag (.slice P' done.length cp') done)
    case atStart => exact ⟨cs, P, cp, T, rfl, by have := HN.out; omega, HY.out, ⟨ST5.out.k, ST5.out.kr, ST5.out.gr, ST5.out.src.up (by omega), ST5.out.win, ST5.out.low⟩⟩
    case round =>
      obtain ⟨done, P', cp', T', rfl, h9, hY, hST⟩ := hrel
      have STR := hidH hST
      have HYR := hidH hY
      have d9 : (done.length : Int) ≤ 9 := by omega
      clear hST hY h9
      have Z := STR.out.k
      have x0 := Z.cell 0
      have x1 := Z.cell 1
      have f0 := Z.frozen 0
      have f1 := Z.frozen 1
      simp only [List.getElem?_toArray, List.getElem?_cons_succ, List.getElem?_cons_zero] at x0 x1
      have xlt := Z.lt
      by_cases hlt : done.length < N
      · have hltI : (done.length : Int) < (N : Int) := by omega
        clear Z
        go_wp2_with fail
        have HX2 := hidH (And.intro hlt d9)
        clear x0 x1 f0 f1 xlt hlt hltI d9
        refine wp_region_any (by kernel_rfl) ?_
        refine regDq _ _ _ _ _ _ _ _ _ _ _ _ _ _ _ _ _ _ _ _ _ _ _ _ _ _ _ _ _ _ _ _ _ _ _ _ w1 r w2.heap.size w1.heap.size T' tag (.slice P' done.length cp') done A l c (at_ + 252 + 200 * done.length) HL.out.1 HL.out.2.2.2 (Nat.le_refl _) HL.out.2.1 STR.out.low (by have := HX2.out.2; omega) (by have := HX2.out.2; omega) (by kernel_rfl) (by kernel_rfl) (by kernel_rfl) rfl ⟨(fun h => h), (fun h => h), (fun h => h), (fun h => h), (fun h => h), (fun h => h), (fun h => h)⟩ (fun _ => STR.out.k.below (Below.refl _ _).drew) (fun _ => STR.out.gr.below (Below.refl _ _).drew) ⟨(fun _ => STR.out.src.below (Below.refl _ _).drew), (fun _ => (STR.out.src.below (Below.refl _ _).drew).up (by omega)), (STR.out.src.below (Below.refl _ _).drew).up (by omega)⟩ (STR.out.win.trans (Win.of_below (Below.refl _ _).drew)) (Nat.le_refl _) STR.out.gr.1 ?_
        intro s27 s28 s29 s30 s31 s32 s33 s34 s35 s36 s37 W hR2 hW2 hX
        obtain ⟨y, v2, T2, ry, K6, G6, hT2⟩ := hX
        obtain ⟨P6, n6, c6, rfl⟩ := G6.sliceN
        obtain rfl := G6.len
        have SX := hidH (show PkSt w1 r w.heap.size w2.heap.size T2 A l c (at_ + 252 + 200 * (done ++ [y]).length) W tag (.slice P6 (done ++ [y]).length c6) (done ++ [y]) from ⟨K6, hW2.blk HK1.out (.inr HS.out.2), G6, hR2.up (by simp; omega), hW2, Nat.le_trans STR.out.low (Nat.le_trans STR.out.gr.1 hT2)⟩)
        have HYX := hidH (show ∀ z ∈ done ++ [y], anyY z from fun z hz => (List.mem_append.1 hz).elim (HYR.out z) (fun q => by simp at q; subst q; exact ry))
        have HLX := hidH (show (done ++ [y]).length = done.length + 1 by simp)
        clear hR2 hW2 ry K6 G6 hT2 STR HYR
        obtain ⟨m, hm⟩ : ∃ m, (done ++ [y]).length = m := ⟨_, rfl⟩
        obtain ⟨dd, hdd⟩ : ∃ dd, done ++ [y] = dd := ⟨_, rfl⟩
        rw [hdd] at SX HYX HLX
        clear hm hdd
        go_wp2
        go_roundg (20 - dd.length)
        case measure => have := HLX.out; have := HX2.out.1; have := hN9.out; omega
        case rel => exact ⟨dd, P6, c6, T2, rfl, by have := HLX.out; have := HX2.out.1; have := hN9.out; omega, HYX.out, SX.out⟩
      · have hltI : ¬ (done.length : Int) < (N : Int) := by omega
        have hltD : decide ((done.length : Int) < (N : Int)) = false := by simp; omega
        clear Z
        obtain ⟨y0, y1, yz⟩ := STR.out.kr.two
        have e0 := STR.out.kr.frozen 0
        have e1 := STR.out.kr.frozen 1
        have hne : w.heap.size < w2.heap.size := HL.out.2.2.1
        have hd9 := hidH d9
        clear hltI d9
        go_wp2
        have HF := hidH (STR.out.tail ⟨rfl, HS.out.1⟩ HS.out.2)
        exact bodyPost_ret (v := .agg #[.int .i64 tag, .slice P' done.length cp']) (by simp [results, Tryd.results24, go_sem, y0, y1]) rfl ⟨tag, done, P', cp', T', rfl, HT.out, HYR.out, ⟨Nat.zero_le _, by have := hd9.out; omega⟩, HF.out.1, HF.out.2.1.up (by have := hd9.out; omega), HF.out.2.2⟩
  have n2 := ne_beq hy
  clear hy
  by_cases hy : y = 3
  · subst hy
    have CH := hidH (bent_ch r A l c (at_ + 251) (by omega))
    go_wp2_with fail
    refine wp_region_any (by kernel_rfl) ?_
    refine regDb _ _ _ _ _ _ _ _ _ _ _ _ _ _ _ _ _ _ _ _ _ _ _ _ _ _ _ _ _ _ _ _ _ _ _ _ _ _ w1 anyY r w2.heap.size w1.heap.size T tag (.slice P cs.length cp) cs A l c (at_ + 251) (at_ + 251 + 300) HL.out.1 HL.out.2.2.2 (Nat.le_refl _) HL.out.2.1 ST4.out.low (by have := HN.out; omega) CH.out (by kernel_rfl) (by kernel_rfl) (by kernel_rfl) rfl ⟨(fun h => h), (fun h => h), (fun h => h), (fun h => h)⟩ (fun _ => ST4.out.k.below (Below.refl _ _).drew) (fun _ => ST4.out.gr.below (Below.refl _ _).drew) ⟨(fun _ => ST4.out.src.below (Below.refl _ _).drew), (fun h => by simp at h)⟩ (ST4.out.win.trans (Win.of_below (Below.refl _ _).drew)) (Nat.le_refl _) ST4.out.gr.1 ?_
    intro s40 s41 s42 s43 s44 s45 s46 W hR2 hW2 hX
    obtain ⟨y, v2, T2, ry, K6, G6, hT2⟩ := hX
    obtain ⟨P6, n6, c6, rfl⟩ := G6.sliceN
    obtain rfl := G6.len
    have SX := hidH (show PkSt w1 r w.heap.size w2.heap.size T2 A l c (at_ + 251 + 300) W tag (.slice P6 (cs ++ [y]).length c6) (cs ++ [y]) from ⟨K6, hW2.blk HK1.out (.inr HS.out.2), G6, hR2, hW2, Nat.le_trans ST4.out.low (Nat.le_trans ST4.out.gr.1 hT2)⟩)
    have HYX := hidH (show ∀ z ∈ cs ++ [y], anyY z from fun z hz => (List.mem_append.1 hz).elim (HY.out z) (fun q => by simp at q; subst q; exact ry))
    have HLX := hidH (show (cs ++ [y]).length = cs.length + 1 by simp)
    clear hR2 hW2 ry K6 G6 hT2 ST4 CH
    obtain ⟨dd, hdd⟩ : ∃ dd, cs ++ [y] = dd := ⟨_, rfl⟩
    rw [hdd] at SX HYX HLX
    clear hdd
    have Z := SX.out.k
    have x0 := Z.cell 0
    have x1 := Z.cell 1
    have f0 := Z.frozen 0
    have f1 := Z.frozen 1
    simp only [List.getElem?_toArray, List.getElem?_cons_succ, List.getElem?_cons_zero] at x0 x1
    have xlt := Z.lt
    obtain ⟨y0, y1, yz⟩ := SX.out.kr.two
    have e0 := SX.out.kr.frozen 0
    have e1 := SX.out.kr.frozen 1
    have hne : w.heap.size < w2.heap.size := HL.out.2.2.1
    clear Z
    go_wp2
    have HF := hidH (SX.out.tail ⟨rfl, HS.out.1⟩ HS.out.2)
    exact bodyPost_ret (v := .agg #[.int .i64 tag, .slice P6 dd.length c6]) (by simp [results, Tryd.results24, go_sem, y0, y1]) rfl ⟨tag, dd, P6, c6, T2, rfl, HT.out, HYX.out, ⟨Nat.zero_le _, by have := HLX.out; have := HN.out; omega⟩, HF.out.1, HF.out.2.1.up (by omega), HF.out.2.2⟩
  have n3 := ne_beq hy
  clear hy
  have Z := ST4.out.k
  have x0 := Z.cell 0
  have x1 := Z.cell 1
  have f0 := Z.frozen 0
  have f1 := Z.frozen 1
  simp only [List.getElem?_toArray, List.getElem?_cons_succ, List.getElem?_cons_zero] at x0 x1
  have xlt := Z.lt
  obtain ⟨y0, y1, yz⟩ := ST4.out.kr.two
  have e0 := ST4.out.kr.frozen 0
  have e1 := ST4.out.kr.frozen 1
  have hne : w.heap.size < w2.heap.size := HL.out.2.2.1
  clear Z
  go_wp2
  have HF := hidH (ST4.out.tail ⟨rfl, HS.out.1⟩ HS.out.2)
  exact bodyPost_ret (v := .agg #[.int .i64 tag, .slice P cs.length cp]) (by simp [results, Tryd.results24, go_sem, y0, y1]) rfl ⟨tag, cs, P, cp, T, rfl, HT.out, HY.out, ⟨Nat.zero_le _, by have := HN.out; omega⟩, HF.out.1, HF.out.2.1.up (by omega), HF.out.2.2⟩
set_option maxHeartbeats 400000 in
theorem drawPackPacket_any (A : Option Addr) (l : List Int) (c : Nat) (w : World) (hA : Bs w A l) (hl : Bytes l) (hm : (l.length : Int) ≤ 1048576) :
    Calls Tryd.prog 6 #[.slice A l.length c] w fun e w' => ∃ (tag : Int) (cs : List Chk) (P : Option Addr) (cp : Nat), e = .returned (pkV tag P cs.length cp) ∧ anyT tag ∧ (∀ y ∈ cs, anyY y) ∧ cs.length ≤ 10 ∧ OCs w.heap.size w'.heap.size w' P cs ∧ Below w.heap.size w w' := by
  have K1 := Blk.new w 26 #[.int .i64 0, .slice none 0 0]
  have B1 := bal (Below.refl w.heap.size w) (.cells #[.int .i64 0, .slice none 0 0] 26)
  have A1 := bs_below hA (bal (Below.refl _ w) (.cells #[.int .i64 0, .slice none 0 0] 26))
  obtain ⟨w1, hw1⟩ : ∃ w1, w.alloc (.cells #[.int .i64 0, .slice none 0 0] 26) = w1 := ⟨_, rfl⟩
  have hs1 : w1.heap.size = w.heap.size + 1 := by rw [← hw1]; simp
  rw [hw1] at K1 B1 A1
  have HW1 := hidH hw1
  have HK1 := hidH K1
  have HB1 := hidH B1
  have HS1 := hidH hs1
  have HA1 := hidH A1
  clear hA K1 B1 A1 hw1 hs1
  go_enter Tryd.func6, Tryd.ntmps6
  go_wp2_with fail
  rw [HW1.out]
  refine (source_any _ _ _ w1 HA1.out hl hm).mono ?_
  rintro e w2 ⟨rfl, S2, b2⟩
  have HS2 := hidH S2
  have HB2 := hidH b2
  clear S2 b2 HW1
  go_wp2_with fail
  refine (l4BentPacket_any _ A l c 0 w2 HS2.out (by omega)).mono ?_
  rintro e w3 ⟨tag, cs, P, cp, T, rfl, ht, hcs, ⟨-, hcn⟩, hG, hS, hw⟩
  have hsz := HB2.out.size
  have KR := hidH (hw.blk (HK1.out.below HB2.out) (.inl (by have := HS1.out; omega)))
  have HX := hidH (And.intro ht (And.intro hcs (And.intro hcn (And.intro (hG.down (B' := w.heap.size + 1) (by have := HS1.out; omega)).ocs (btr HB1.out ((Win.of_below (B := w1.heap.size) (C := w1.heap.size + 1) HB2.out).trans hw |>.below (Nat.le_refl _)))))))
  clear ht hcs hcn hG hS hw hsz HS2 HB2
  unfold pkV
  obtain ⟨y0, y1, yz⟩ := KR.out.two
  have e0 := KR.out.frozen 0
  have e1 := KR.out.frozen 1
  go_wp2
  exact bodyPost_ret (v := .agg #[.int .i64 tag, .slice P cs.length cp]) (by simp [results, Tryd.results6, go_sem, y0, y1]) rfl ⟨tag, cs, P, cp, rfl, HX.out.1, HX.out.2.1, HX.out.2.2.1, by simp only [size_set]; exact ((HX.out.2.2.2.1.win (win_set _ w.heap.size 0 (.int .i64 tag)) (.inr (Nat.le_refl _))).win (win_set _ w.heap.size 1 (.slice P cs.length cp)) (.inr (Nat.le_refl _))).mono (Nat.le_succ _), (HX.out.2.2.2.2.setCell (p := ⟨w.heap.size, 0, none⟩) (Nat.le_refl _) _).setCell (p := ⟨w.heap.size, 1, none⟩) (Nat.le_refl _) _⟩
end Go.Proofs.YtepcikghhnfacaaDoor
