import Derived.Test.YtbfbfimmhpijfaaS8UR
import Derived.Test.YtbfbfimmhpijfaaNa1
import Derived.Test.YtbfbfimmhpijfaaUniR
import Derived.BigQuiet
import Derived.Test.YtbfbfimmhpijfaaRegInv
import Derived.OrdersIn
import Derived.RangeFuncCalls

/- Chapter 8's draws: DrawCutMessage. (WRITTEN BY tools/drct8.py) -/
namespace Go.Proofs.Ytbfbfimmhpijfaa
open Go.RowKit Go.Deep

set_option maxHeartbeats 1000000 in
theorem later8_any (A : Option Addr) (l : List Int) (c : Nat) (w : World) (hA : Bs w A l) (hl : Bytes l) (hm : (l.length : Int) ≤ 1048576) :
    Calls Try.prog 39 #[.slice A l.length c, .int .i64 1] w fun e w' => e = .returned (.pointer (some ⟨w.heap.size, 0, none⟩)) ∧ Src w' w.heap.size A l c 12 ∧ Below w.heap.size w w' := by
  go_enter Try.func39, Try.ntmps39
  go_wp2
  go_ret
  refine ⟨rfl, ⟨Blk.new _ _ _, hl, ?_, hm⟩, bal (Below.refl _ _) _⟩
  rcases hA with h | ⟨b, off, h1, h2, h3⟩
  · exact .inl h
  · exact .inr ⟨b, off, h1, h2, fun j hj => ((bal (Below.refl _ _) _).cell (p := ⟨b, off + j, none⟩) h2).trans (h3 j hj)⟩
/-- A message and three numbers that were drawn out of a code. -/
def CtRes (w : World) (e : Ending) (w' : World) : Prop :=
  ∃ (y : MessageM) (X : Option Addr) (cx : Nat) (s t q : Int), e = .returned (.tuple #[.agg #[.int .i64 y.Stream, .bool y.Unordered, .slice X y.Bytes.length cx], .int .i64 s, .int .i64 t, .int .i64 q]) ∧ ((-1 ≤ y.Stream ∧ y.Stream ≤ 10) ∧ y.Bytes.length ≤ 401 ∧ Bytes y.Bytes) ∧ ((3 ≤ s ∧ s ≤ 101) ∧ (-1 ≤ t ∧ t ≤ 4294967296) ∧ (0 ≤ q ∧ q ≤ 65536)) ∧ OwV w.heap.size w'.heap.size w' (.bs y.Bytes) (.slice X y.Bytes.length cx) ∧ Below w.heap.size w w'
set_option maxRecDepth 100000 in
set_option maxHeartbeats 4000000 in
theorem drawCt_any (A : Option Addr) (l : List Int) (c : Nat) (w : World) (hA : Bs w A l) (hl : Bytes l) (hm : (l.length : Int) ≤ 1048576) :
    Calls Try.prog 10 #[.slice A l.length c] w (CtRes w) := by
  have R0 := Blk.new w 25 #[.int .i64 0, .bool false, .slice none 0 0]
  have B0 := bal (Below.refl w.heap.size w) (.cells #[.int .i64 0, .bool false, .slice none 0 0] 25)
  have hA0 := bs_below hA B0
  have hs0 : (w.alloc (.cells #[.int .i64 0, .bool false, .slice none 0 0] 25)).heap.size = w.heap.size + 1 := World.size_alloc _ _
  obtain ⟨w0, hw0⟩ : ∃ w0, w.alloc (.cells #[.int .i64 0, .bool false, .slice none 0 0] 25) = w0 := ⟨_, rfl⟩
  rw [hw0] at R0 B0 hA0 hs0
  have HAR := hidH (show ∀ a, A = some a → l = [] ∨ a.block < w.heap.size from by
    rcases hA with h | ⟨b, off, e, h2, _⟩
    · exact fun _ _ => .inl h
    · intro a e2
      rw [e] at e2
      obtain rfl := Option.some.inj e2
      exact .inr h2)
  have HW := hidH hw0
  have HS := hidH (later8_any A l c w0 hA0 hl hm)
  have HR0 := hidH R0
  have HB0 := hidH B0
  have HA0 := hidH (And.intro hA0 (And.intro hl hm))
  have HS0 := hidH hs0
  clear hw0 hA hA0 R0 B0 hs0 hl hm
  go_enter Try.func10, Try.ntmps10
  go_wp2_with fail
  rw [HW.out]
  refine HS.out.mono ?_
  rintro e w1 ⟨rfl, S1, b1⟩
  obtain ⟨g, hg⟩ : ∃ g, w0.heap.size = g := ⟨_, rfl⟩
  have R1 := HR0.out.below b1
  have B1 := btr HB0.out b1
  rw [hg] at S1 ⊢
  have hgr : w.heap.size + 1 = g := by rw [← hg]; exact HS0.out.symm
  have hgl := S1.lt
  have HMF := hidH (drawMf_any A l c w1 (bs_below HA0.out.1 b1) HA0.out.2.1 HA0.out.2.2)
  have HR1 := hidH R1
  have HB1 := hidH B1
  have HS1 := hidH S1
  clear HS HR0 HB0 R1 B1 b1 HW hg S1
  go_wp2_with fail
  refine HMF.out.mono ?_
  rintro e w2 ⟨y, X, cx, rfl, hys, hyl, hyb, hX, b2⟩
  have C3 := Blk.new w2 25 #[.int .i64 y.Stream, .bool y.Unordered, .slice X y.Bytes.length cx]
  have B3 := bal (Below.refl w2.heap.size w2) (.cells #[.int .i64 y.Stream, .bool y.Unordered, .slice X y.Bytes.length cx] 25)
  have hs2 := b2.size
  have HR3 := hidH ((HR1.out.below b2).below B3)
  have HB3 := hidH (btr (btr HB1.out b2) B3)
  have HX3 := hidH (hX.below B3)
  have S3 := (HS1.out.below b2).below B3
  have HS3s := hidH (show (w2.alloc (.cells #[.int .i64 y.Stream, .bool y.Unordered, .slice X y.Bytes.length cx] 25)).heap.size = w2.heap.size + 1 from World.size_alloc _ _)
  have hgm : g < w2.heap.size := by omega
  obtain ⟨w3, hw3⟩ : ∃ w3, w2.alloc (.cells #[.int .i64 y.Stream, .bool y.Unordered, .slice X y.Bytes.length cx] 25) = w3 := ⟨_, rfl⟩
  rw [hw3] at C3 HR3 HB3 HX3 S3 HS3s
  have HW3 := hidH hw3
  have HC3 := hidH C3
  have HS3 := hidH S3
  have HY := hidH (And.intro hys (And.intro hyl hyb))
  have HS12 := hidH hs2
  clear HR1 HB1 HS1 hX b2 hw3 C3 S3 B3 hys hyl hyb hs2 HMF
  go_wp2_with fail
  rw [HW3.out]
  refine (pick_any g A l c 12 (w2.heap.size + 1) [0, 1, 7, 65535, 65536, 0] _ (HS3.out.below (bal (Below.refl _ _) _)) (by omega) (by rw [← HS3s.out]; exact Ns.of_blk (t := 2) (Blk.new w3 _ _)) (by simp) (by simp) (by omega)).mono ?_
  rintro e w4 ⟨sq, a4, rfl, hv, ha4, S4, V4⟩
  have hsq : 0 ≤ sq ∧ sq ≤ 65536 := by simp at hv; omega
  have hs3 := HS3s.out
  have C4 := V4.blk (HC3.out.alloc (.cells #[.int .i64 0, .int .i64 1, .int .i64 7, .int .i64 65535, .int .i64 65536, .int .i64 0] 2)) (.inr (by omega))
  have R4 := V4.blk (HR3.out.alloc (.cells #[.int .i64 0, .int .i64 1, .int .i64 7, .int .i64 65535, .int .i64 65536, .int .i64 0] 2)) (.inl (by omega))
  have X4 := (HX3.out.below (bal (Below.refl w3.heap.size w3) (.cells #[.int .i64 0, .int .i64 1, .int .i64 7, .int .i64 65535, .int .i64 65536, .int .i64 0] 2))).win V4 (.inr (by omega))
  have hs13 := HB3.out.size
  have B4 := (HB3.out.trans ((bal (Below.refl w3.heap.size w3) (.cells #[.int .i64 0, .int .i64 1, .int .i64 7, .int .i64 65535, .int .i64 65536, .int .i64 0] 2)).mono (by omega))).trans ((V4.below (by rw [World.size_alloc]; omega)).mono (by omega))
  have HQ := hidH hsq
  have HA4 := hidH ha4
  have c0 := C4.cell 1
  simp only [List.getElem?_toArray, List.getElem?_cons_succ, List.getElem?_cons_zero] at c0
  have hc4 := C4.lt
  have HC := hidH (And.intro C4 (And.intro R4 (And.intro X4 B4)))
  have HS4 := hidH S4
  obtain ⟨ub, hub⟩ : ∃ b, y.Unordered = b := ⟨_, rfl⟩
  have HUB := hidH hub
  rw [hub] at c0
  clear HC3 HR3 HX3 HB3 HS3 HW3 V4 hv hsq C4 R4 X4 B4 S4 ha4 hs3 hs13 hub
  cases ub
  · have HF := hidH HC.out
    have HSF := hidH HS4.out
    go_wp2_with fail
    refine wp_region_any (by kernel_rfl) ?_
    have hs12 := HS12.out
    have hk0 : ((a4 : Nat) : Int) ≤ 1000 := by have := HA4.out; omega
    refine regU6 _ _ _ _ _ _ _ _ _ _ _ _ _ _ _ _ w4 w.heap.size g w2.heap.size w1.heap.size w2.heap.size (a4) y.Bytes.length cx c y.Stream sq y.Unordered X A l y.Bytes (by omega) (by omega) (by omega) hk0 HAR.out (by kernel_rfl) (by kernel_rfl) (by kernel_rfl) rfl (HF.out.1.below (Below.refl _ _).drew) (fun _ => HF.out.2.1.below (Below.refl _ _).drew) (fun h => by cases h) (Below.refl w.heap.size w4).drew (show g < (w4).drew.heap.size from HSF.out.lt) (HF.out.2.2.1.below (Below.refl _ _).drew) ⟨(fun _ => HSF.out.below (Below.refl _ _).drew), (fun h => by cases h)⟩ ?_
    intros
    rename_i W9 gM gR gO gX gS gT
    obtain ⟨sz, rfl, hsz⟩ := gS
    obtain ⟨tn, rfl, htn⟩ := gT
    have x0 := gR.cell 0
    have x1 := gR.cell 1
    have x2 := gR.cell 2
    simp only [List.getElem?_toArray, List.getElem?_cons_succ, List.getElem?_cons_zero] at x0 x1 x2
    have hrl := gR.lt
    have HRR := hidH gR
    have HB9 := hidH (HF.out.2.2.2.trans gO)
    have HX9 := hidH gX
    have HN9 := hidH (And.intro hsz (And.intro htn (show 0 ≤ (sq : Int) ∧ (sq : Int) ≤ 65536 by have := HQ.out; omega)))
    clear gM gR gO gX hsz htn HF HSF hk0 hs12
    go_wp2
    exact bodyPost_ret (v := .tuple #[.agg #[.int .i64 y.Stream, .bool y.Unordered, .slice X y.Bytes.length cx], .int .i64 sz, .int .i64 tn, .int .i64 sq]) (by simp [results, Try.results10, go_sem, x0, x1, x2]) rfl ⟨y, X, cx, sz, tn, sq, rfl, HY.out, HN9.out, HX9.out.mono (by omega) HX9.out.1 (Nat.le_refl _), HB9.out⟩
  · go_wp2_with fail
    refine (chance_any g A l c a4 6 _ HS4.out (by have := HA4.out; omega)).mono ?_
    rintro e w5 ⟨b, rfl, S5, V5⟩
    have hs12 := HS12.out
    have HSF := hidH S5
    have HF := hidH (And.intro (V5.blk HC.out.1 (.inr (by omega))) (And.intro (V5.blk HC.out.2.1 (.inl (by omega))) (And.intro (HC.out.2.2.1.win V5 (.inr (by omega))) (HC.out.2.2.2.trans ((V5.below (by omega)).mono (by omega))))))
    clear S5 V5 hs12 c0
    cases b
    · go_wp2_with fail
      refine wp_region_any (by kernel_rfl) ?_
      have hs12 := HS12.out
      have hk0 : ((a4 + 1 : Nat) : Int) ≤ 1000 := by have := HA4.out; omega
      refine regU6 _ _ _ _ _ _ _ _ _ _ _ _ _ _ _ _ w5 w.heap.size g w2.heap.size w1.heap.size w2.heap.size (a4 + 1) y.Bytes.length cx c y.Stream 0 y.Unordered X A l y.Bytes (by omega) (by omega) (by omega) hk0 HAR.out (by kernel_rfl) (by kernel_rfl) (by kernel_rfl) rfl (HF.out.1.below (Below.refl _ _).drew) (fun _ => HF.out.2.1.below (Below.refl _ _).drew) (fun h => by cases h) (Below.refl w.heap.size w5).drew (show g < (w5).drew.heap.size from HSF.out.lt) (HF.out.2.2.1.below (Below.refl _ _).drew) ⟨(fun _ => HSF.out.below (Below.refl _ _).drew), (fun h => by cases h)⟩ ?_
      intros
      rename_i W9 gM gR gO gX gS gT
      obtain ⟨sz, rfl, hsz⟩ := gS
      obtain ⟨tn, rfl, htn⟩ := gT
      have x0 := gR.cell 0
      have x1 := gR.cell 1
      have x2 := gR.cell 2
      simp only [List.getElem?_toArray, List.getElem?_cons_succ, List.getElem?_cons_zero] at x0 x1 x2
      have hrl := gR.lt
      have HRR := hidH gR
      have HB9 := hidH (HF.out.2.2.2.trans gO)
      have HX9 := hidH gX
      have HN9 := hidH (And.intro hsz (And.intro htn (show 0 ≤ (0 : Int) ∧ (0 : Int) ≤ 65536 by have := HQ.out; omega)))
      clear gM gR gO gX hsz htn HF HSF hk0 hs12
      go_wp2
      exact bodyPost_ret (v := .tuple #[.agg #[.int .i64 y.Stream, .bool y.Unordered, .slice X y.Bytes.length cx], .int .i64 sz, .int .i64 tn, .int .i64 0]) (by simp [results, Try.results10, go_sem, x0, x1, x2]) rfl ⟨y, X, cx, sz, tn, 0, rfl, HY.out, HN9.out, HX9.out.mono (by omega) HX9.out.1 (Nat.le_refl _), HB9.out⟩
    · go_wp2_with fail
      refine wp_region_any (by kernel_rfl) ?_
      have hs12 := HS12.out
      have hk0 : ((a4 + 1 : Nat) : Int) ≤ 1000 := by have := HA4.out; omega
      refine regU6 _ _ _ _ _ _ _ _ _ _ _ _ _ _ _ _ w5 w.heap.size g w2.heap.size w1.heap.size w2.heap.size (a4 + 1) y.Bytes.length cx c y.Stream sq y.Unordered X A l y.Bytes (by omega) (by omega) (by omega) hk0 HAR.out (by kernel_rfl) (by kernel_rfl) (by kernel_rfl) rfl (HF.out.1.below (Below.refl _ _).drew) (fun _ => HF.out.2.1.below (Below.refl _ _).drew) (fun h => by cases h) (Below.refl w.heap.size w5).drew (show g < (w5).drew.heap.size from HSF.out.lt) (HF.out.2.2.1.below (Below.refl _ _).drew) ⟨(fun _ => HSF.out.below (Below.refl _ _).drew), (fun h => by cases h)⟩ ?_
      intros
      rename_i W9 gM gR gO gX gS gT
      obtain ⟨sz, rfl, hsz⟩ := gS
      obtain ⟨tn, rfl, htn⟩ := gT
      have x0 := gR.cell 0
      have x1 := gR.cell 1
      have x2 := gR.cell 2
      simp only [List.getElem?_toArray, List.getElem?_cons_succ, List.getElem?_cons_zero] at x0 x1 x2
      have hrl := gR.lt
      have HRR := hidH gR
      have HB9 := hidH (HF.out.2.2.2.trans gO)
      have HX9 := hidH gX
      have HN9 := hidH (And.intro hsz (And.intro htn (show 0 ≤ (sq : Int) ∧ (sq : Int) ≤ 65536 by have := HQ.out; omega)))
      clear gM gR gO gX hsz htn HF HSF hk0 hs12
      go_wp2
      exact bodyPost_ret (v := .tuple #[.agg #[.int .i64 y.Stream, .bool y.Unordered, .slice X y.Bytes.length cx], .int .i64 sz, .int .i64 tn, .int .i64 sq]) (by simp [results, Try.results10, go_sem, x0, x1, x2]) rfl ⟨y, X, cx, sz, tn, sq, rfl, HY.out, HN9.out, HX9.out.mono (by omega) HX9.out.1 (Nat.le_refl _), HB9.out⟩
end Go.Proofs.Ytbfbfimmhpijfaa

/- The model's chapter 5: data: l5DataFault. -/
namespace Go.Proofs.Ytbfbfimmhpijfaa
open Go.RowKit Go.Deep

set_option maxRecDepth 100000 in
set_option maxHeartbeats 2000000 in
theorem pdF_any (g o : Nat) (y : DataM) (w : World) (h : RdL w y.vs g o) :
    Calls Try.prog 57 #[.pointer (some ⟨g, o, none⟩)] w fun e w' => e = .returned (.int .i64 (pdF y)) ∧ Below w.heap.size w w' := by
  obtain ⟨A, c, q0, q1, q2, q3, q4, q5, q6, hA⟩ := mem_Data h
  have hm := (hA.bs_out).choose_spec.choose_spec.2.1.len
  clear h hA
  by_cases h1 : wB y.Tsn = true
  · by_cases h2 : inB y.Stream 0 9 = true
    · by_cases h3 : inB y.Seq 0 65535 = true
      · by_cases h4 : y.Piece.length < 1
        · have e : pdF y = 2 := by simp only [pdF, h1, h2, h3, Bool.and_self, if_true]; rw [if_neg (by omega)]
          have h4' : (y.Piece.length : Int) < 1 := by omega
          rw [e]
          clear e h4
          go_enter Try.func57, Try.ntmps57
          go_wp2_with (first | (go_at_call 56; refine (word32_any _ _).mono ?_; rintro e w' ⟨rfl, rfl⟩) | (go_at_call 55; refine (in_any _ _ _ _).mono ?_; rintro e w' ⟨rfl, rfl⟩))
          go_ret
          exact ⟨rfl, Below.refl _ _⟩
        · by_cases h5 : 100 < y.Piece.length
          · have e : pdF y = 2 := by simp only [pdF, h1, h2, h3, Bool.and_self, if_true]; rw [if_neg (by omega)]
            have h4' : ¬ (y.Piece.length : Int) < 1 := by omega
            have h5' : (100 : Int) < (y.Piece.length : Int) := by omega
            rw [e]
            clear e h4 h5
            go_enter Try.func57, Try.ntmps57
            go_wp2_with (first | (go_at_call 56; refine (word32_any _ _).mono ?_; rintro e w' ⟨rfl, rfl⟩) | (go_at_call 55; refine (in_any _ _ _ _).mono ?_; rintro e w' ⟨rfl, rfl⟩))
            go_ret
            exact ⟨rfl, Below.refl _ _⟩
          · have h4' : ¬ (y.Piece.length : Int) < 1 := by omega
            have h5' : ¬ (100 : Int) < (y.Piece.length : Int) := by omega
            have e0 : pdF y = if y.Unordered = true ∧ y.Seq ≠ 0 then 1 else 0 := by simp only [pdF, h1, h2, h3, Bool.and_self, if_true]; rw [if_pos (by omega)]
            rw [e0]
            clear e0 h4 h5
            by_cases h6 : y.Unordered = true
            · by_cases h7 : y.Seq = 0
              · rw [if_neg (fun h => h.2 h7)]
                have h8 : (y.Seq != 0) = false := by rw [h7]; rfl
                go_enter Try.func57, Try.ntmps57
                go_wp2_with (first | (go_at_call 56; refine (word32_any _ _).mono ?_; rintro e w' ⟨rfl, rfl⟩) | (go_at_call 55; refine (in_any _ _ _ _).mono ?_; rintro e w' ⟨rfl, rfl⟩))
                go_ret
                exact ⟨rfl, Below.refl _ _⟩
              · rw [if_pos ⟨h6, h7⟩]
                have h8 : (y.Seq != 0) = true := by rw [bne_iff_ne]; exact h7
                go_enter Try.func57, Try.ntmps57
                go_wp2_with (first | (go_at_call 56; refine (word32_any _ _).mono ?_; rintro e w' ⟨rfl, rfl⟩) | (go_at_call 55; refine (in_any _ _ _ _).mono ?_; rintro e w' ⟨rfl, rfl⟩))
                go_ret
                exact ⟨rfl, Below.refl _ _⟩
            · have h6 : y.Unordered = false := by simpa using h6
              rw [if_neg (fun h => by rw [h6] at h; exact Bool.noConfusion h.1)]
              go_enter Try.func57, Try.ntmps57
              go_wp2_with (first | (go_at_call 56; refine (word32_any _ _).mono ?_; rintro e w' ⟨rfl, rfl⟩) | (go_at_call 55; refine (in_any _ _ _ _).mono ?_; rintro e w' ⟨rfl, rfl⟩))
              go_ret
              exact ⟨rfl, Below.refl _ _⟩
      · have h3 : inB y.Seq 0 65535 = false := by simpa using h3
        have e : pdF y = 3 := by simp [pdF, h3]
        rw [e]
        clear e
        go_enter Try.func57, Try.ntmps57
        go_wp2_with (first | (go_at_call 56; refine (word32_any _ _).mono ?_; rintro e w' ⟨rfl, rfl⟩) | (go_at_call 55; refine (in_any _ _ _ _).mono ?_; rintro e w' ⟨rfl, rfl⟩))
        go_ret
        exact ⟨rfl, Below.refl _ _⟩
    · have h2 : inB y.Stream 0 9 = false := by simpa using h2
      have e : pdF y = 3 := by simp [pdF, h2]
      rw [e]
      clear e
      go_enter Try.func57, Try.ntmps57
      go_wp2_with (first | (go_at_call 56; refine (word32_any _ _).mono ?_; rintro e w' ⟨rfl, rfl⟩) | (go_at_call 55; refine (in_any _ _ _ _).mono ?_; rintro e w' ⟨rfl, rfl⟩))
      go_ret
      exact ⟨rfl, Below.refl _ _⟩
  · have h1 : wB y.Tsn = false := by simpa using h1
    have e : pdF y = 3 := by simp [pdF, h1]
    rw [e]
    clear e
    go_enter Try.func57, Try.ntmps57
    go_wp2_with (first | (go_at_call 56; refine (word32_any _ _).mono ?_; rintro e w' ⟨rfl, rfl⟩) | (go_at_call 55; refine (in_any _ _ _ _).mono ?_; rintro e w' ⟨rfl, rfl⟩))
    go_ret
    exact ⟨rfl, Below.refl _ _⟩
end Go.Proofs.Ytbfbfimmhpijfaa

/- Chapter 8: the model's l8Fits. (WRITTEN BY tools/fits8.py) -/
namespace Go.Proofs.Ytbfbfimmhpijfaa
open Go.RowKit Go.Deep Go.BigFrame

theorem RdL.of_at {w : World} : ∀ {xs : List V} {g o : Nat}, (∀ k x, xs[k]? = some x → ∃ u, w.cell? ⟨g, o + k, none⟩ = some u ∧ Rd w x u) → RdL w xs g o
  | [], _, _, _ => by unfold RdL; trivial
  | x :: xs, g, o, h => by
    unfold RdL
    refine ⟨by simpa using h 0 x rfl, RdL.of_at (fun k y hy => ?_)⟩
    have := h (k + 1) y (by simpa using hy)
    rwa [show o + (k + 1) = o + 1 + k by omega] at this
theorem el_Data {w : World} {r : List DataM} {v : Value} (h : Rd w (st_Data r) v) {j : Nat} (hj : j < r.length) :
    ∃ g o c, v = .slice (some ⟨g, o, none⟩) r.length c ∧ g < w.heap.size ∧ RdL w r[j].vs g (o + j * 7) := by
  obtain ⟨g, o, c, e, hg, R⟩ := Rd.row (f := DataM.vs) (W := 7) (fun _ => rfl) h hj
  exact ⟨g, o, c, e, hg, RdL.of_at R⟩
open Classical in
noncomputable def fitsB (x y : DataM) : Bool := decide (fits x y)
theorem fitsB_yes {x y : DataM} (h : fits x y) : fitsB x y = true := by simp [fitsB, h]
theorem fitsB_no {x y : DataM} (h : ¬ fits x y) : fitsB x y = false := by simp [fitsB, h]
theorem fitsB_iff {x y : DataM} : fitsB x y = true ↔ fits x y := by simp [fitsB]
set_option maxRecDepth 100000 in
set_option maxHeartbeats 4000000 in
theorem fits_any (x y : DataM) (gx ox gy oy : Nat) (w : World) (hx : RdL w x.vs gx ox) (hy : RdL w y.vs gy oy) (t0 : 0 ≤ x.Tsn) (t1 : x.Tsn ≤ 4294967295) :
    Calls Try.prog 58 #[.pointer (some ⟨gx, ox, none⟩), .pointer (some ⟨gy, oy, none⟩)] w fun e w' => e = .returned (.bool (fitsB x y)) ∧ ∃ m, w' = w.drewN m := by
  obtain ⟨A, ca, c0, c1, c2, c3, c4, c5, c6, hA⟩ := mem_Data hx
  obtain ⟨B, cb, d0, d1, d2, d3, d4, d5, d6, hB⟩ := mem_Data hy
  have HN := hidH (fun (h : ¬ (x.Last = false ∧ y.First = false ∧ x.Stream = y.Stream ∧ x.Seq = y.Seq ∧ x.Unordered = y.Unordered ∧ y.Tsn = (x.Tsn + 1) % 4294967296)) => fitsB_no (x := x) (y := y) h)
  have HY := hidH (fun (h : x.Last = false ∧ y.First = false ∧ x.Stream = y.Stream ∧ x.Seq = y.Seq ∧ x.Unordered = y.Unordered ∧ y.Tsn = (x.Tsn + 1) % 4294967296) => fitsB_yes (x := x) (y := y) h)
  have HAD := hidH (fun (u : World) => (l1Add_any x.Tsn 1 u t0 t1 (by omega) (by omega)).mono (fun e w' h => And.intro h.1 (show w' = u from h.2.symm)))
  clear hx hy hA hB t0 t1 c3 c6 d4 d6
  go_enter Try.func58, Try.ntmps58
  go_wp2_with fail
  try simp only [List.append]
  refine wp_region_quiet_lit (by kernel_rfl) (by kernel_rfl) ?_
  by_cases e0 : x.Last = false
  case neg =>
    have HXY := hidH (HN.out (fun h => e0 h.1))
    rw [show x.Last = true by simpa using e0] at c4
    clear HN HY e0
    repeat (go_big_quiet_step ((go_at_call 79; exact Calls.quiet_of_same (HAD.out _))))
    refine wpQuiet_nil ?_
    intro _ hw'
    obtain ⟨nq, hw''⟩ := hw'
    subst hw''
    go_wp2
    go_ret
    exact ⟨by rw [HXY.out]; rfl, _, rfl⟩
  rw [e0] at c4
  by_cases e1 : y.First = false
  case neg =>
    have HXY := hidH (HN.out (fun h => e1 h.2.1))
    rw [show y.First = true by simpa using e1] at d3
    clear HN HY e0 e1
    repeat (go_big_quiet_step ((go_at_call 79; exact Calls.quiet_of_same (HAD.out _))))
    refine wpQuiet_nil ?_
    intro _ hw'
    obtain ⟨nq, hw''⟩ := hw'
    subst hw''
    go_wp2
    go_ret
    exact ⟨by rw [HXY.out]; rfl, _, rfl⟩
  rw [e1] at d3
  by_cases e2 : x.Stream = y.Stream
  case neg =>
    have HXY := hidH (HN.out (fun h => e2 h.2.2.1))
    have f2 : (x.Stream == y.Stream) = false := by rw [beq_eq_false_iff_ne]; exact e2
    clear HN HY e0 e1 e2
    repeat (go_big_quiet_step ((go_at_call 79; exact Calls.quiet_of_same (HAD.out _))))
    refine wpQuiet_nil ?_
    intro _ hw'
    obtain ⟨nq, hw''⟩ := hw'
    subst hw''
    go_wp2
    go_ret
    exact ⟨by rw [HXY.out]; rfl, _, rfl⟩
  have f2 : (x.Stream == y.Stream) = true := by rw [beq_iff_eq]; exact e2
  by_cases e3 : x.Seq = y.Seq
  case neg =>
    have HXY := hidH (HN.out (fun h => e3 h.2.2.2.1))
    have f3 : (x.Seq == y.Seq) = false := by rw [beq_eq_false_iff_ne]; exact e3
    clear HN HY e0 e1 e2 e3
    repeat (go_big_quiet_step ((go_at_call 79; exact Calls.quiet_of_same (HAD.out _))))
    refine wpQuiet_nil ?_
    intro _ hw'
    obtain ⟨nq, hw''⟩ := hw'
    subst hw''
    go_wp2
    go_ret
    exact ⟨by rw [HXY.out]; rfl, _, rfl⟩
  have f3 : (x.Seq == y.Seq) = true := by rw [beq_iff_eq]; exact e3
  by_cases e4 : x.Unordered = y.Unordered
  case neg =>
    have HXY := hidH (HN.out (fun h => e4 h.2.2.2.2.1))
    obtain ⟨p, hp⟩ : ∃ p, y.Unordered = p := ⟨_, rfl⟩
    have hq : x.Unordered = !p := by rw [hp] at e4; revert e4; cases x.Unordered <;> cases p <;> simp
    rw [hp] at d5
    rw [hq] at c5
    clear HN HY hp hq e0 e1 e2 e3 e4
    cases p
    all_goals
      repeat (go_big_quiet_step ((go_at_call 79; exact Calls.quiet_of_same (HAD.out _))))
      refine wpQuiet_nil ?_
      intro _ hw'
      obtain ⟨nq, hw''⟩ := hw'
      subst hw''
      go_wp2
      go_ret
      exact ⟨by rw [HXY.out]; rfl, _, rfl⟩
  rw [e4] at c5
  by_cases e5 : y.Tsn = (x.Tsn + 1) % 4294967296
  · have HXY := hidH (HY.out ⟨e0, e1, e2, e3, e4, e5⟩)
    have f5 : (y.Tsn == (x.Tsn + 1) % 4294967296) = true := by rw [beq_iff_eq]; exact e5
    clear HN HY e0 e1 e2 e3 e4 e5
    repeat (go_big_quiet_step ((go_at_call 79; exact Calls.quiet_of_same (HAD.out _))))
    refine wpQuiet_nil ?_
    intro _ hw'
    obtain ⟨nq, hw''⟩ := hw'
    subst hw''
    go_wp2
    go_ret
    exact ⟨by rw [HXY.out]; rfl, _, rfl⟩
  · have HXY := hidH (HN.out (fun h => e5 h.2.2.2.2.2))
    have f5 : (y.Tsn == (x.Tsn + 1) % 4294967296) = false := by rw [beq_eq_false_iff_ne]; exact e5
    clear HN HY e0 e1 e2 e3 e4 e5
    repeat (go_big_quiet_step ((go_at_call 79; exact Calls.quiet_of_same (HAD.out _))))
    refine wpQuiet_nil ?_
    intro _ hw'
    obtain ⟨nq, hw''⟩ := hw'
    subst hw''
    go_wp2
    go_ret
    exact ⟨by rw [HXY.out]; rfl, _, rfl⟩
end Go.Proofs.Ytbfbfimmhpijfaa

/- A region that draws its order, walked by an invariant, in a round of a loop over a function. -/
namespace Go.Proofs.Ytbfbfimmhpijfaa
open Go.RowKit Go.Deep

/-- What holds at the end, with no other end allowed. -/
def OnlyN (Q0 : Act → World → Prop) : Exit → Act → World → Prop := fun e a w => e = .normal ∧ Q0 a w
theorem onlyN_out {Q0 : Act → World → Prop} : ¬ LetsOut (OnlyN Q0) := fun ⟨_, _, h, _⟩ => by cases h
theorem wpIn_of_wp {P : Program} {o : Oper} {a : Act} {w : World} {K : Act → World → Prop} {Q0 : Act → World → Prop} {Q : Exit → Act → World → Prop} {l n : Nat} (hnd : ∀ c, o.op ≠ .defer c) (h : o.wp P a w K (OnlyN Q0)) : o.wpIn (Fence.wide.inRound l) n P a w K Q := by
  refine ⟨fun _ _ => trivial, ?_⟩
  rw [Oper.semAt_eq _ _ _ hnd]
  unfold Oper.wp at h
  generalize (execOp a.eval o).run P w = r at *
  cases r with
  | ok x w' =>
    cases x with
    | value v => exact h
    | skip => exact h
    | defer d => exact h
    | enter f args =>
      refine ⟨fun h => by simp [Fence.inRound, Fence.wide] at h, (CallsIn.inRound l (callsIn_wide.2 h)).mono ?_⟩
      intro e w'' he
      cases e with
      | returned v => exact he
      | panicked c => exact absurd he.1 (by simp)
      | outgrown => exact absurd he onlyN_out
    | row row args => exact ⟨fun h => by simp [Fence.inRound, Fence.wide] at h, fun c cs _ => let ⟨v, w'', r, s⟩ := h c cs; ⟨v, w'', r, stepsIn_wide.2 s⟩⟩
    | _ => exact h.elim
  | halt x w' =>
    cases x <;> first | exact h.elim | exact absurd h.1 (by simp)
theorem wpAnyIn_of {P : Program} {md : Region.Mode} {ops : Array Oper} {Q0 : Act → World → Prop} {Q : Exit → Act → World → Prop} {l n : Nat} (hnd : ∀ (i : Nat) (o : Oper), ops[i]? = some o → ∀ c, o.op ≠ .defer c) (hQ : ∀ a w, Q0 a w → Q .normal a w) :
    ∀ (fuel : Nat) (L : Array Bool) (a : Act) (w : World), wpAny P md ops (OnlyN Q0) fuel L a w → wpAnyIn (Fence.wide.inRound l) n P md ops Q fuel L a w
  | 0, _, _, _, h => ⟨h.1, hQ _ _ h.2.2⟩
  | fuel + 1, L, a, w, h => ⟨fun e => hQ _ _ (h.1 e).2, fun i hi => by
    have h1 := h.2 i hi
    unfold wpOp at h1
    unfold wpOpIn
    cases ho : ops[i]? with
    | none =>
      simp only [ho] at h1
      exact wpAnyIn_of hnd hQ fuel _ _ _ h1
    | some o =>
      simp only [ho] at h1 ⊢
      split
      · rename_i hw
        rw [if_pos hw] at h1
        rcases h1 with h1 | h1
        · exact Oper.wpIn_mono (fun a' w' h2 => wpAnyIn_of hnd hQ fuel _ _ _ h2) (wpIn_of_wp (hnd i o ho) h1)
        · exact absurd h1.2 onlyN_out
      · rename_i hw
        rw [if_neg hw] at h1
        exact ⟨fun _ _ => trivial, wpAnyIn_of hnd hQ fuel _ _ _ h1⟩⟩
end Go.Proofs.Ytbfbfimmhpijfaa
