/- Chapter 8: the model's CutMessage. (WRITTEN BY tools/cut8.py) -/
import Derived.Test.YtbfbfimmhpijfaaS8C
import Derived.Test.YtbfbfimmhpijfaaS8F
namespace Go.Proofs.Ytbfbfimmhpijfaa
open Go.RowKit Go.Deep

theorem OwN.noD {B C : Nat} {w : World} {xs : List V} {vs : List Value} (h : OwN B C w xs vs) : OwN B C w (st_Data [] :: xs) (.slice none 0 0 :: vs) :=
  ⟨h.1, by unfold OwA; exact ⟨fun _ _ => False, _, by unfold st_Data Ow; exact ⟨none, 0, rfl, ⟨Nat.le_refl _, by simp⟩, .inl ⟨rfl, rfl⟩⟩, h.2, fun _ _ z => z.elim, fun _ _ z => z, fun _ _ z => z.elim⟩⟩
theorem cutF_msg {y : MessageM} {s t q : Int} (h : msF y ≠ 0) : cutF y s t q = msF y := by rw [cutF, if_neg h]
theorem cutF_range {y : MessageM} {s t q : Int} (h : msF y = 0) (k : (inB s 4 100 && wB t && inB q 0 65535) = false) : cutF y s t q = 3 := by rw [cutF, if_pos h, k]; rfl
theorem cutF_form {y : MessageM} {s t q : Int} (h : msF y = 0) (k : (inB s 4 100 && wB t && inB q 0 65535) = true) (k2 : y.Unordered = true ∧ q ≠ 0) : cutF y s t q = 1 := by rw [cutF, if_pos h, k, if_pos rfl, if_pos k2]
theorem cutF_ok {y : MessageM} {s t q : Int} (h : msF y = 0) (k : (inB s 4 100 && wB t && inB q 0 65535) = true) (k2 : ¬ (y.Unordered = true ∧ q ≠ 0)) : cutF y s t q = 0 := by rw [cutF, if_pos h, k, if_pos rfl, if_neg k2]
theorem cutR_bad {y : MessageM} {s t q F : Int} (h : cutF y s t q = F) (k : F ≠ 0) : cutR y s t q = ⟨F, []⟩ := by rw [cutR, h, if_neg k]
theorem cutR_ok {y : MessageM} {s t q : Int} (h : cutF y s t q = 0) : cutR y s t q = ⟨0, cutL y s.toNat t q⟩ := by rw [cutR, if_pos h]
theorem inB_out {n a b : Int} (h : inB n a b = true) : a ≤ n ∧ n ≤ b := by simpa [inB] using h
theorem wB_out {n : Int} (h : wB n = true) : 0 ≤ n ∧ n ≤ 4294967295 := by simpa [wB, inB] using h
theorem cutR_len (y : MessageM) (s t q : Int) (_ : WfA y.vs) (_ : tot.totL y.vs ≤ 1048576) (_ : WfV (.int s)) (_ : WfV (.int t)) (_ : WfV (.int q)) : vcA (cutR y s t q).vs ≤ 1000000000 := by
  by_cases h : cutF y s t q = 0
  · rw [cutR_ok h]
    have hm : msF y = 0 := by
      by_cases k : msF y = 0
      · exact k
      · rw [cutF_msg k] at h; exact h
    have hs : 4 ≤ s.toNat := by
      by_cases k : (inB s 4 100 && wB t && inB q 0 65535) = true
      · simp only [Bool.and_eq_true] at k
        have := inB_out k.1.1; omega
      · rw [cutF_range hm (by simpa using k)] at h; cases h
    have hb := msF_zero hm
    have hl : (cutL y s.toNat t q).length ≤ 100 := by rw [cutL_len]; exact cutN_le hs hb.2.2
    have hp : ∀ x ∈ cutL y s.toNat t q, x.Piece.length ≤ 400 := fun x hx => by
      simp only [cutL, List.mem_map] at hx
      obtain ⟨i, _, rfl⟩ := hx
      simp only [cutAt, List.length_take, List.length_drop]; omega
    have gen : ∀ r : List DataM, (∀ x ∈ r, x.Piece.length ≤ 400) → cc.ccL (r.flatMap DataM.vs) ≤ r.length * 406 := by
      intro r
      induction r with
      | nil => intro _; simp [cc.ccL]
      | cons x xs ih =>
        intro h
        rw [List.flatMap_cons, ccL_append, List.length_cons]
        have h1 := ih (fun y hy => h y (by simp [hy]))
        have h2 := h x (by simp)
        simp only [DataM.vs, cc.ccL, cc]
        omega
    have h3 := gen _ hp
    show vcA [.int 0, st_Data (cutL y s.toNat t q)] ≤ _
    simp only [vcA, vc, st_Data, cc]
    omega
  · rw [cutR_bad rfl h]
    show vcA [.int (cutF y s t q), st_Data []] ≤ _
    simp [vcA, vc, st_Data, cc, cc.ccL]

set_option maxRecDepth 100000 in
set_option maxHeartbeats 4000000 in
theorem ct_spec (y : MessageM) (vs : List Value) (s t q : Int) (u : World) (h : RdA u y.vs vs) (_ : WfA y.vs) (_ : tot.totL y.vs ≤ 1048576) (_ : WfV (.int s)) (_ : WfV (.int t)) (_ : WfV (.int q)) : Calls Try.prog 14 #[.agg vs.toArray, .int .i64 s, .int .i64 t, .int .i64 q] u (Res u (cutR y s t q).vs) := by
  obtain ⟨A, c, rfl, _⟩ := msg_sh h
  have K1 := (Blk.new u 25 #[.int .i64 y.Stream, .bool y.Unordered, .slice A y.Bytes.length c]).alloc (.cells #[.int .i64 0, .slice none 0 0] 30)
  have R1 := Blk.new (u.alloc (.cells #[.int .i64 y.Stream, .bool y.Unordered, .slice A y.Bytes.length c] 25)) 30 #[.int .i64 0, .slice none 0 0]
  have B1 := bal (bal (Below.refl u.heap.size u) (.cells #[.int .i64 y.Stream, .bool y.Unordered, .slice A y.Bytes.length c] 25)) (.cells #[.int .i64 0, .slice none 0 0] 30)
  rw [World.size_alloc] at R1
  obtain ⟨w1, hw1⟩ : ∃ w1, (u.alloc (.cells #[.int .i64 y.Stream, .bool y.Unordered, .slice A y.Bytes.length c] 25)).alloc (.cells #[.int .i64 0, .slice none 0 0] 30) = w1 := ⟨_, rfl⟩
  rw [hw1] at K1 R1 B1
  have HMS := hidH (msFw_spec y _ w1 (RdA.below B1 h))
  have HRA := hidH (fun (W : World) (hb : Below u.heap.size u W) => RdA.below hb h)
  have HW1 := hidH hw1
  have HB1 := hidH B1
  have HR1 := hidH R1
  have HK1 := hidH K1
  have y0 := K1.cell 0
  have y1 := K1.cell 1
  have y2 := K1.cell 2
  simp only [List.getElem?_toArray, List.getElem?_cons_succ, List.getElem?_cons_zero] at y0 y1 y2
  have g1 := K1.lt
  obtain ⟨F, hF⟩ : ∃ F, msF y = F := ⟨_, rfl⟩
  rw [hF] at HMS
  have HF := hidH hF
  clear hF h hw1 B1 R1 K1
  go_enter Try.func14, Try.ntmps14
  go_wp2_with fail
  rw [HW1.out]
  go_wp2_with fail
  refine HMS.out.mono ?_
  rintro e w2 ⟨rfl, b2⟩
  have HB2 := hidH (btr HB1.out b2)
  have K2 := HK1.out.below b2
  have HK2 := hidH K2
  clear y0 y1 y2 g1 HMS
  have y0 := K2.cell 0
  have y1 := K2.cell 1
  have y2 := K2.cell 2
  simp only [List.getElem?_toArray, List.getElem?_cons_succ, List.getElem?_cons_zero] at y0 y1 y2
  have g1 := K2.lt
  have HR2 := hidH (HR1.out.below b2)
  clear K2 b2 HW1
  by_cases hz : F = 0
  case neg =>
    have hz2 : (F != 0) = true := by rw [bne_iff_ne]; exact hz
    have HE := hidH (show cutR y s t q = ⟨F, []⟩ from cutR_bad ((cutF_msg (by rw [HF.out]; exact hz)).trans HF.out) hz)
    have R9 := HR2.out
    have x0 := R9.cell 0
    have x1 := R9.cell 1
    have v0 := R9.frozen 0
    have v1 := R9.frozen 1
    simp only [List.getElem?_toArray, List.getElem?_cons_succ, List.getElem?_cons_zero] at x0 x1
    have hr9 := R9.lt
    clear R9
    clear hz
    go_wp2
    exact bodyPost_ret (v := .agg #[.int .i64 F, .slice none 0 0]) (by simp [results, Try.results14, go_sem, x0, x1]) rfl ⟨_, rfl, by rw [HE.out]; exact OwN.int _ (OwN.noD (OwN.nil (Nat.le_refl _))), bst (bst HB2.out (Nat.le_succ _) _) (Nat.le_succ _) _⟩
  subst hz
  by_cases hr : (inB s 4 100 && wB t && inB q 0 65535) = true
  case neg =>
    have hr2 : (inB s 4 100 && wB t && inB q 0 65535) = false := by simpa using hr
    have HE := hidH (show cutR y s t q = ⟨3, []⟩ from cutR_bad (cutF_range HF.out hr2) (by decide))
    have R9 := HR2.out
    have x0 := R9.cell 0
    have x1 := R9.cell 1
    have v0 := R9.frozen 0
    have v1 := R9.frozen 1
    simp only [List.getElem?_toArray, List.getElem?_cons_succ, List.getElem?_cons_zero] at x0 x1
    have hr9 := R9.lt
    clear R9
    clear hr
    obtain ⟨a1, ha1⟩ : ∃ a, inB s 4 100 = a := ⟨_, rfl⟩
    obtain ⟨a2, ha2⟩ : ∃ a, wB t = a := ⟨_, rfl⟩
    obtain ⟨a3, ha3⟩ : ∃ a, inB q 0 65535 = a := ⟨_, rfl⟩
    rw [ha1, ha2, ha3] at hr2
    cases a1
    case false =>
      clear hr2
      go_wp2_with (first | (go_at_call 55; refine (in_any _ _ _ _).mono ?_; rintro e w' ⟨rfl, rfl⟩) | (go_at_call 56; refine (word32_any _ _).mono ?_; rintro e w' ⟨rfl, rfl⟩))
      exact bodyPost_ret (v := .agg #[.int .i64 3, .slice none 0 0]) (by simp [results, Try.results14, go_sem, x0, x1]) rfl ⟨_, rfl, by rw [HE.out]; exact OwN.int _ (OwN.noD (OwN.nil (Nat.le_refl _))), bst (bst HB2.out (Nat.le_succ _) _) (Nat.le_succ _) _⟩
    cases a2
    case false =>
      clear hr2
      go_wp2_with (first | (go_at_call 55; refine (in_any _ _ _ _).mono ?_; rintro e w' ⟨rfl, rfl⟩) | (go_at_call 56; refine (word32_any _ _).mono ?_; rintro e w' ⟨rfl, rfl⟩))
      exact bodyPost_ret (v := .agg #[.int .i64 3, .slice none 0 0]) (by simp [results, Try.results14, go_sem, x0, x1]) rfl ⟨_, rfl, by rw [HE.out]; exact OwN.int _ (OwN.noD (OwN.nil (Nat.le_refl _))), bst (bst HB2.out (Nat.le_succ _) _) (Nat.le_succ _) _⟩
    have ha3f : a3 = false := by simpa using hr2
    subst ha3f
    clear hr2
    go_wp2_with (first | (go_at_call 55; refine (in_any _ _ _ _).mono ?_; rintro e w' ⟨rfl, rfl⟩) | (go_at_call 56; refine (word32_any _ _).mono ?_; rintro e w' ⟨rfl, rfl⟩))
    exact bodyPost_ret (v := .agg #[.int .i64 3, .slice none 0 0]) (by simp [results, Try.results14, go_sem, x0, x1]) rfl ⟨_, rfl, by rw [HE.out]; exact OwN.int _ (OwN.noD (OwN.nil (Nat.le_refl _))), bst (bst HB2.out (Nat.le_succ _) _) (Nat.le_succ _) _⟩
  have hr3 := hr
  simp only [Bool.and_eq_true] at hr3
  obtain ⟨⟨ha1, ha2⟩, ha3⟩ := hr3
  have s1 := inB_out ha1
  have t1 := wB_out ha2
  obtain ⟨ub, hub⟩ : ∃ b, y.Unordered = b := ⟨_, rfl⟩
  by_cases hf : y.Unordered = true ∧ q ≠ 0
  case pos =>
    have HE := hidH (show cutR y s t q = ⟨1, []⟩ from cutR_bad (cutF_form HF.out hr hf) (by decide))
    have hq : (q != 0) = true := by rw [bne_iff_ne]; exact hf.2
    rw [hf.1] at y1
    have R9 := HR2.out
    have x0 := R9.cell 0
    have x1 := R9.cell 1
    have v0 := R9.frozen 0
    have v1 := R9.frozen 1
    simp only [List.getElem?_toArray, List.getElem?_cons_succ, List.getElem?_cons_zero] at x0 x1
    have hr9 := R9.lt
    clear R9
    clear hf hr hub s1 t1
    go_wp2_with (first | (go_at_call 55; refine (in_any _ _ _ _).mono ?_; rintro e w' ⟨rfl, rfl⟩) | (go_at_call 56; refine (word32_any _ _).mono ?_; rintro e w' ⟨rfl, rfl⟩))
    exact bodyPost_ret (v := .agg #[.int .i64 1, .slice none 0 0]) (by simp [results, Try.results14, go_sem, x0, x1]) rfl ⟨_, rfl, by rw [HE.out]; exact OwN.int _ (OwN.noD (OwN.nil (Nat.le_refl _))), bst (bst HB2.out (Nat.le_succ _) _) (Nat.le_succ _) _⟩
  have HE := hidH (cutR_ok (cutF_ok HF.out hr hf))
  have hml := msF_zero HF.out
  obtain ⟨sn, rfl⟩ : ∃ n : Nat, s = (n : Int) := ⟨s.toNat, by omega⟩
  rw [Int.toNat_natCast] at HE
  have HM := hidH (show RdL w2 y.vs u.heap.size 0 from RdL.of_cells (HRA.out w2 HB2.out) (fun k hk => by rw [Nat.zero_add, HK2.out.cell]; exact arr_get _ k))
  have HC := hidH (l8Cut_any y u.heap.size sn t q w2 HM.out g1 (by omega) (by omega) t1.1 t1.2 (by omega))
  clear s1 t1 hml hr
  cases ub
  · rw [hub] at y1
    clear hf hub
    go_wp2_with (first | (go_at_call 55; refine (in_any _ _ _ _).mono ?_; rintro e w' ⟨rfl, rfl⟩) | (go_at_call 56; refine (word32_any _ _).mono ?_; rintro e w' ⟨rfl, rfl⟩) | fail)
    refine HC.out.mono ?_
    rintro e w3 h3
    obtain ⟨v3, rfl, O3, b3⟩ := h3.own
    obtain ⟨A3, c3, rfl⟩ := st_Data_sh O3.rd
    have HB3 := hidH (btr HB2.out b3)
    have R9 := HR2.out.below b3
    have x0 := R9.cell 0
    have x1 := R9.cell 1
    have v0 := R9.frozen 0
    have v1 := R9.frozen 1
    simp only [List.getElem?_toArray, List.getElem?_cons_succ, List.getElem?_cons_zero] at x0 x1
    have hr9 := R9.lt
    clear R9
    have HO3 := hidH O3
    have hs3 := HB2.out.size
    have hsz := b3.size
    have hrr := HR2.out.lt
    clear O3 h3 b3 HC
    go_wp2
    have PF : ∀ a b : Value, OwN u.heap.size ((w3.setCell ⟨u.heap.size + 1, 0, none⟩ a).setCell ⟨u.heap.size + 1, 1, none⟩ b).heap.size ((w3.setCell ⟨u.heap.size + 1, 0, none⟩ a).setCell ⟨u.heap.size + 1, 1, none⟩ b) [.int 0, st_Data (cutL y sn t q)] [.int .i64 0, .slice A3 (cutL y sn t q).length c3] := fun a b =>
      OwN.int 0 (OwN.cons (((HO3.out.win (set_win _ (u.heap.size + 1) 0 a) (.inr (by omega))).win (set_win _ (u.heap.size + 1) 1 b) (.inr (by omega))).mono (B' := u.heap.size) (by omega) (by simp [World.setCell]) (Nat.le_refl _)) (OwN.nil (Nat.le_refl _)) (by simp [World.setCell]; omega) (Nat.le_refl _))
    exact bodyPost_ret (v := .agg #[.int .i64 0, .slice A3 (cutL y sn t q).length c3]) (by simp [results, Try.results14, go_sem, x0, x1]) rfl ⟨_, rfl, by rw [HE.out]; exact PF _ _, bst (bst HB3.out (Nat.le_succ _) _) (Nat.le_succ _) _⟩
  · have hq : (q != 0) = false := by rw [bne_eq_false_iff_eq]; exact Classical.byContradiction fun h => hf ⟨hub, h⟩
    rw [hub] at y1
    clear hf hub
    go_wp2_with (first | (go_at_call 55; refine (in_any _ _ _ _).mono ?_; rintro e w' ⟨rfl, rfl⟩) | (go_at_call 56; refine (word32_any _ _).mono ?_; rintro e w' ⟨rfl, rfl⟩) | fail)
    refine HC.out.mono ?_
    rintro e w3 h3
    obtain ⟨v3, rfl, O3, b3⟩ := h3.own
    obtain ⟨A3, c3, rfl⟩ := st_Data_sh O3.rd
    have HB3 := hidH (btr HB2.out b3)
    have R9 := HR2.out.below b3
    have x0 := R9.cell 0
    have x1 := R9.cell 1
    have v0 := R9.frozen 0
    have v1 := R9.frozen 1
    simp only [List.getElem?_toArray, List.getElem?_cons_succ, List.getElem?_cons_zero] at x0 x1
    have hr9 := R9.lt
    clear R9
    have HO3 := hidH O3
    have hs3 := HB2.out.size
    have hsz := b3.size
    have hrr := HR2.out.lt
    clear O3 h3 b3 HC
    go_wp2
    have PF : ∀ a b : Value, OwN u.heap.size ((w3.setCell ⟨u.heap.size + 1, 0, none⟩ a).setCell ⟨u.heap.size + 1, 1, none⟩ b).heap.size ((w3.setCell ⟨u.heap.size + 1, 0, none⟩ a).setCell ⟨u.heap.size + 1, 1, none⟩ b) [.int 0, st_Data (cutL y sn t q)] [.int .i64 0, .slice A3 (cutL y sn t q).length c3] := fun a b =>
      OwN.int 0 (OwN.cons (((HO3.out.win (set_win _ (u.heap.size + 1) 0 a) (.inr (by omega))).win (set_win _ (u.heap.size + 1) 1 b) (.inr (by omega))).mono (B' := u.heap.size) (by omega) (by simp [World.setCell]) (Nat.le_refl _)) (OwN.nil (Nat.le_refl _)) (by simp [World.setCell]; omega) (Nat.le_refl _))
    exact bodyPost_ret (v := .agg #[.int .i64 0, .slice A3 (cutL y sn t q).length c3]) (by simp [results, Try.results14, go_sem, x0, x1]) rfl ⟨_, rfl, by rw [HE.out]; exact PF _ _, bst (bst HB3.out (Nat.le_succ _) _) (Nat.le_succ _) _⟩
end Go.Proofs.Ytbfbfimmhpijfaa
