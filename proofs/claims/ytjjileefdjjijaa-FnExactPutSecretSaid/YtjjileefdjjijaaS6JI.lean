/- Chapter 6: JoinKey, the program's. -/
import Derived.Test.YtjjileefdjjijaaS6J
import Derived.Test.YtjjileefdjjijaaBrL
namespace Go.Proofs.Ytjjileefdjjijaa
open Go.RowKit Go.Deep

theorem run_bytesOf {w : World} {A : Option Addr} {l : List Int} (h : Bs w A l) (c : Nat) : (Extern.Bytes.bytesOf (.slice A l.length c)).run Try.prog w = .ok (strOfNums l) w := by
  rcases h with rfl | ⟨b, off, rfl, _, h⟩
  · cases A <;> rfl
  · have hl := Lib.run_loadBytesX (P := Try.prog) w l ⟨b, off, none⟩ .empty (fun j x hj => by
      have hjl : j < l.length := (List.getElem?_eq_some_iff.1 hj).1
      have e : (⟨b, off, none⟩ : Addr).add j = ⟨b, off + j, none⟩ := by unfold Addr.add; split <;> simp_all
      rw [e, h j hjl, List.getD_eq_getElem?_getD, hj]
      rfl)
    show (Extern.Bytes.loadBytes ⟨b, off, none⟩ l.length .empty).run Try.prog w = _
    rw [hl]
    congr 1
    apply ByteArray.ext
    simp [Lib.bytesOf, strOfNums]
theorem run_cmpS {w : World} {A B : Option Addr} {a b : List Int} (hA : Bs w A a) (hB : Bs w B b) (ca cb : Nat) :
    (Extern.BytealgCompare.compare #[.slice A a.length ca, .slice B b.length cb]).run Try.prog w = .ok (.int .i64 (Lib.compareBytes (U8 a) (U8 b))) w := by
  change Sem.run Try.prog (do pure (goInt (Extern.BytealgCompare.cmp (← Extern.Bytes.bytesOf (.slice A a.length ca)) (← Extern.Bytes.bytesOf (.slice B b.length cb))))) w = _
  simp only [Sem.run_bind, Sem.run_pure, run_bytesOf hA, run_bytesOf hB, Result.andThen]
  rw [Lib.cmp_eq]
  rfl
set_option maxRecDepth 100000 in
set_option maxHeartbeats 1000000 in
theorem bCompare_any (A B : Option Addr) (a b : List Int) (ca cb : Nat) (w : World) (hA : Bs w A a) (hB : Bs w B b) :
    Calls Try.prog 55 #[.slice A a.length ca, .slice B b.length cb] w fun e w' => e = .returned (.int .i64 (Lib.compareBytes (U8 a) (U8 b))) ∧ w = w' := by
  have hr := run_cmpS hA hB ca cb
  clear hA hB
  go_enter Try.func55, Try.ntmps55
  go_wp2
  rw [run_callFunc_extern Try.func73 (by kernel_rfl) (by kernel_rfl) (by kernel_rfl) (e := Extern.BytealgCompare.compare) (by kernel_rfl), hr]
  simp only [Result.andThen]
  rw [Oper.upon_value]
  go_wp2
  go_ret
  exact ⟨rfl, rfl⟩
theorem run_copy_at {w : World} {g o M c T : Nat} {A : Option Addr} {l X : List Int} (hB : Brow w g X) (hX : o + M = X.length) (hl : l.length ≤ M) (hA : Bs w A l) (M' : Nat) :
    ∃ w', (Builtin.copy_ #[29, 29] T #[.slice (some ⟨g, o, none⟩) M M', .slice A l.length c]).run Try.prog w = .ok (goInt l.length) w' ∧ Brow w' g (X.take o ++ l ++ X.drop (o + l.length)) ∧ Below g w w' := by
  have hmin : Nat.min l.length M = l.length := Nat.min_eq_left hl
  rcases Nat.eq_zero_or_pos l.length with h0 | h0
  · have hl0 : l = [] := List.eq_nil_of_length_eq_zero h0
    subst hl0
    refine ⟨w, ?_, by simpa using hB, Below.refl _ _⟩
    exact run_copy_none (P := Try.prog) w 29 29 T 5 (some ⟨g, o, none⟩) A M M' 0 c (by kernel_rfl) (by kernel_rfl) (by simp)
  · obtain ⟨ad, rfl, hsrc⟩ := bs_src hA h0
    have := run_copy_row (P := Try.prog) w 29 29 T 5 g o M M' ad l.length c _ _ (l.map (Value.int .u8)) (by kernel_rfl) (by kernel_rfl) hB (by simp [hmin]) hsrc (by simp; omega) (by intro v hv; simp at hv; obtain ⟨x, _, rfl⟩ := hv; rfl)
    refine ⟨_, by simpa using this, ?_, below_setRow (Below.refl _ _) (Nat.le_refl _) _⟩
    unfold Brow Blk
    rw [setRow_heap w g _ _ _ _ hB]
    simp
theorem jrow4 {s : List Int} {N : Nat} (hN : s.length + 40 = N) : (List.replicate N (0 : Int)).take 0 ++ s ++ (List.replicate N 0).drop (0 + s.length) = s ++ List.replicate 40 0 := by
  rw [List.take_zero, List.nil_append, List.drop_replicate, show N - (0 + s.length) = 40 by omega]
theorem jrow5 {s x : List Int} (hx : x.length = 20) : (s ++ List.replicate 40 (0 : Int)).take s.length ++ x ++ (s ++ List.replicate 40 0).drop (s.length + x.length) = s ++ x ++ List.replicate 20 0 := by
  rw [List.take_left, List.drop_append, List.drop_eq_nil_of_le (by omega), List.nil_append, List.drop_replicate, show 40 - (s.length + x.length - s.length) = 20 by omega]
theorem jrow6 {s x y : List Int} (hx : x.length = 20) (hy : y.length = 20) : (s ++ x ++ List.replicate 20 (0 : Int)).take (s.length + 20) ++ y ++ (s ++ x ++ List.replicate 20 0).drop (s.length + 20 + y.length) = s ++ (x ++ y) := by
  have e : s.length + 20 = (s ++ x).length := by simp; omega
  rw [e, List.take_left, List.drop_eq_nil_of_le (by simp; omega)]
  simp
theorem info22' : Try.prog.underlying 29 = some (.slice 5) := by kernel_rfl
set_option maxRecDepth 100000 in
set_option maxHeartbeats 8000000 in
theorem jk_impl (s : List Int) (v : Value) (a : List Int) (va : Value) (b : List Int) (vb : Value) (u : World) (h : Rd u (.bs s) v) (_ : WfV (.bs s)) (_ : tot (.bs s) ≤ 1048576) (h2 : Rd u (.bs a) va) (wa : WfV (.bs a)) (_ : tot (.bs a) ≤ 1048576) (h3 : Rd u (.bs b) vb) (wb : WfV (.bs b)) (_ : tot (.bs b) ≤ 1048576) :
    Calls Try.prog 25 #[v, va, vb] u (Res u (jkR s a b).vs) := by
  obtain ⟨A, ca, rfl, lc, hA⟩ := h.bs_out
  obtain ⟨B, cb, rfl, lb, hB⟩ := h2.bs_out
  obtain ⟨C, cc, rfl, lcc, hC⟩ := h3.bs_out
  have m1 := lc.len
  have m2 := lb.len
  have m3 := lcc.len
  clear h h2 h3 lc lb lcc
  by_cases hk : s.length ≤ 40 ∧ a.length = 20 ∧ b.length = 20
  · obtain ⟨k1, k2, k3⟩ := hk
    have R1 := Blk.new u 35 #[.int .i64 0, .slice none 0 0]
    have B1 := bal (Below.refl u.heap.size u) (.cells #[.int .i64 0, .slice none 0 0] 35)
    obtain ⟨w1, hw1⟩ : ∃ w1, u.alloc (.cells #[.int .i64 0, .slice none 0 0] 35) = w1 := ⟨_, rfl⟩
    have hs1 : w1.heap.size = u.heap.size + 1 := by rw [← hw1]; simp
    rw [hw1] at R1 B1
    have HV := hidH (show (jkR s a b).vs = [.int 0, .bs (joinL s a b)] by rw [jkR_ok k1 k2 k3]; rfl)
    have q1 : ¬ (40 : Int) < (s.length : Int) := by omega
    have q2 : ((a.length : Int) != 20) = false := by rw [bne_eq_false_iff_eq]; omega
    have q3 : ((b.length : Int) != 20) = false := by rw [bne_eq_false_iff_eq]; omega
    have HCM := hidH (bCompare_any B C a b cb cc w1 (bs_below hB B1) (bs_below hC B1))
    have HPOS := hidH (cmp_U8 a b wa wb)
    have HSA := hidH (bs_below hA B1)
    have HSB := hidH (bs_below hB B1)
    have HSC := hidH (bs_below hC B1)
    have HLN := hidH (And.intro k1 (And.intro k2 k3))
    obtain ⟨i0, hi, hz0, hz1, hz2⟩ := info_parts (infoU8)
    have HI := hidH (And.intro hi (And.intro hz0 (And.intro hz1 hz2)))
    have HR := hidH R1
    have HB := hidH B1
    have HW := hidH hw1
    have HS := hidH hs1
    obtain ⟨N, hN⟩ : ∃ N, s.length + 40 = N := ⟨_, rfl⟩
    have hNI : (s.length : Int) + 40 = (N : Int) := by omega
    have HN := hidH hN
    obtain ⟨cm, hcm⟩ : ∃ cm, Lib.compareBytes (U8 a) (U8 b) = cm := ⟨_, rfl⟩
    rw [hcm] at HCM HPOS
    have HNI := hidH hNI
    clear R1 B1 hA hB hC wa wb k1 k2 k3 hw1 hs1 hi hz0 hz1 hz2 hN hcm hNI
    by_cases hc : 0 < cm
    · have HJ := hidH (show joinL s a b = s ++ (b ++ a) by rw [joinL, if_pos (HPOS.out.1 hc)])
      have HX := hidH (show b.length = 20 ∧ a.length = 20 from ⟨HLN.out.2.2, HLN.out.2.1⟩)
      go_enter Try.func25, Try.ntmps25
      go_wp2_with fail
      rw [HW.out]
      refine HCM.out.mono ?_
      rintro e w2 ⟨rfl, rfl⟩
      have hsN : (s.length : Int) < (N : Int) := by have := HN.out; omega
      have hsN2 : s.length < N := by have := HN.out; omega
      have hsN3 : s.length + 20 < N := by have := HN.out; omega
      have hsN4 : (s.length : Int) + 20 < (N : Int) := by omega
      clear HCM
      go_wp2_with (first | (refine wpList_make_full _ rfl _ _ _ rfl w1.heap.size 5 i0 _ 1 info22' HI.out.1 HI.out.2.1 HI.out.2.2.1 .i64 .i64 _ _ N rfl rfl HNI.out HNI.out (by rw [HI.out.2.2.2]; have := HN.out; have := HLN.out; omega) (by unfold maxLen; have := HN.out; have := HLN.out; omega) (Nat.le_refl _) ?_; intro w3 o3 g3; have M3 := hidH (Brow.of_own o3 rfl (made_u8 N)); have B3 := hidH ((Below.refl w1.heap.size w1).grown g3 (Nat.le_refl _) (fun k hk => by cases hk)); clear o3 g3))
      obtain ⟨w4, hr, h4, b4⟩ := run_copy_at (T := 3) (c := ca) (o := 0) (M := N) M3.out (by simp) (by omega) (bs_below HSA.out B3.out) N
      rw [jrow4 HN.out] at h4
      have M4 := hidH h4
      have B4 := hidH (B3.out.trans b4)
      rw [hr]
      clear hr h4 b4 M3 B3
      go_wp2
      obtain ⟨w5, hr, h5, b5⟩ := run_copy_at (T := 3) (c := cc) (o := s.length) (M := N - s.length) M4.out (by have := HN.out; simp; omega) (by have := HN.out; have := HX.out; omega) (bs_below HSC.out B4.out) (N - s.length)
      rw [jrow5 HX.out.1] at h5
      have M5 := hidH h5
      have B5 := hidH (B4.out.trans b5)
      rw [hr]
      clear hr h5 b5 M4 B4
      go_wp2
      obtain ⟨w6, hr, h6, b6⟩ := run_copy_at (T := 3) (c := cb) (o := s.length + 20) (M := N - (s.length + 20)) M5.out (by have := HN.out; have := HX.out; simp; omega) (by have := HN.out; have := HX.out; omega) (bs_below HSB.out B5.out) (N - (s.length + 20))
      rw [jrow6 HX.out.1 HX.out.2] at h6
      have M6 := hidH h6
      have B6 := hidH (B5.out.trans b6)
      rw [hr]
      clear hr h6 b6 M5 B5
      have R6 := (B6.out.block u.heap.size (by have := HS.out; omega)).trans HR.out
      have R6 : Blk w6 u.heap.size 35 #[.int .i64 0, .slice none 0 0] := R6
      have HOB := hidH (show OwV (u.heap.size + 1) w6.heap.size w6 (.bs (joinL s a b)) (.slice (some ⟨w1.heap.size, 0, none⟩) N N) by
        have e : N = (joinL s a b).length := by rw [HJ.out]; have := HN.out; have := HX.out; simp; omega
        have h := (M6.out.ob (B := u.heap.size + 1) (by have := HS.out; omega)).owv (Nat.le_refl _) ⟨Nat.le_refl _, by have := HN.out; have := HLN.out; have := HX.out; simp; omega⟩
        rw [HJ.out] at e ⊢
        rw [← e] at h
        exact h)
      have HB6 := hidH (HB.out.trans (B6.out.mono HB.out.size))
      have HZ := hidH B6.out.size
      have x0 := R6.cell 0
      have x1 := R6.cell 1
      have f0 := R6.frozen 0
      have f1 := R6.frozen 1
      simp only [List.getElem?_toArray, List.getElem?_cons_succ, List.getElem?_cons_zero] at x0 x1
      have hr := R6.lt
      clear R6 hsN hsN2 hsN3 hsN4
      go_wp2
      exact bodyPost_ret (v := .agg #[.int .i64 0, .slice (some ⟨w1.heap.size, 0, none⟩) N N]) (by simp [results, Try.results25, go_sem, x0, x1]) rfl ⟨_, rfl, by
        rw [HV.out]
        refine OwN.int 0 ((OwN.cons (B := u.heap.size + 1) (C := w6.heap.size) (D := w6.heap.size) ?_ (OwN.nil (by simp [World.setCell])) (by have := HS.out; have := HZ.out; omega) (Nat.le_refl _)).mono (by omega) (by simp [World.setCell]) (Nat.le_refl _))
        iterate 2 (refine OwV.win (B' := u.heap.size) (C' := u.heap.size + 1) ?_ (set_win _ _ _ _) (.inr (by omega)))
        exact HOB.out, by
        iterate 2 (refine bst ?_ (Nat.le_refl _) _)
        exact HB6.out⟩
    · have HJ := hidH (show joinL s a b = s ++ (a ++ b) by rw [joinL, if_neg (fun h => hc (HPOS.out.2 h))])
      have HX := hidH (show a.length = 20 ∧ b.length = 20 from ⟨HLN.out.2.1, HLN.out.2.2⟩)
      go_enter Try.func25, Try.ntmps25
      go_wp2_with fail
      rw [HW.out]
      refine HCM.out.mono ?_
      rintro e w2 ⟨rfl, rfl⟩
      have hsN : (s.length : Int) < (N : Int) := by have := HN.out; omega
      have hsN2 : s.length < N := by have := HN.out; omega
      have hsN3 : s.length + 20 < N := by have := HN.out; omega
      have hsN4 : (s.length : Int) + 20 < (N : Int) := by omega
      clear HCM
      go_wp2_with (first | (refine wpList_make_full _ rfl _ _ _ rfl w1.heap.size 5 i0 _ 1 info22' HI.out.1 HI.out.2.1 HI.out.2.2.1 .i64 .i64 _ _ N rfl rfl HNI.out HNI.out (by rw [HI.out.2.2.2]; have := HN.out; have := HLN.out; omega) (by unfold maxLen; have := HN.out; have := HLN.out; omega) (Nat.le_refl _) ?_; intro w3 o3 g3; have M3 := hidH (Brow.of_own o3 rfl (made_u8 N)); have B3 := hidH ((Below.refl w1.heap.size w1).grown g3 (Nat.le_refl _) (fun k hk => by cases hk)); clear o3 g3))
      obtain ⟨w4, hr, h4, b4⟩ := run_copy_at (T := 3) (c := ca) (o := 0) (M := N) M3.out (by simp) (by omega) (bs_below HSA.out B3.out) N
      rw [jrow4 HN.out] at h4
      have M4 := hidH h4
      have B4 := hidH (B3.out.trans b4)
      rw [hr]
      clear hr h4 b4 M3 B3
      go_wp2
      obtain ⟨w5, hr, h5, b5⟩ := run_copy_at (T := 3) (c := cb) (o := s.length) (M := N - s.length) M4.out (by have := HN.out; simp; omega) (by have := HN.out; have := HX.out; omega) (bs_below HSB.out B4.out) (N - s.length)
      rw [jrow5 HX.out.1] at h5
      have M5 := hidH h5
      have B5 := hidH (B4.out.trans b5)
      rw [hr]
      clear hr h5 b5 M4 B4
      go_wp2
      obtain ⟨w6, hr, h6, b6⟩ := run_copy_at (T := 3) (c := cc) (o := s.length + 20) (M := N - (s.length + 20)) M5.out (by have := HN.out; have := HX.out; simp; omega) (by have := HN.out; have := HX.out; omega) (bs_below HSC.out B5.out) (N - (s.length + 20))
      rw [jrow6 HX.out.1 HX.out.2] at h6
      have M6 := hidH h6
      have B6 := hidH (B5.out.trans b6)
      rw [hr]
      clear hr h6 b6 M5 B5
      have R6 := (B6.out.block u.heap.size (by have := HS.out; omega)).trans HR.out
      have R6 : Blk w6 u.heap.size 35 #[.int .i64 0, .slice none 0 0] := R6
      have HOB := hidH (show OwV (u.heap.size + 1) w6.heap.size w6 (.bs (joinL s a b)) (.slice (some ⟨w1.heap.size, 0, none⟩) N N) by
        have e : N = (joinL s a b).length := by rw [HJ.out]; have := HN.out; have := HX.out; simp; omega
        have h := (M6.out.ob (B := u.heap.size + 1) (by have := HS.out; omega)).owv (Nat.le_refl _) ⟨Nat.le_refl _, by have := HN.out; have := HLN.out; have := HX.out; simp; omega⟩
        rw [HJ.out] at e ⊢
        rw [← e] at h
        exact h)
      have HB6 := hidH (HB.out.trans (B6.out.mono HB.out.size))
      have HZ := hidH B6.out.size
      have x0 := R6.cell 0
      have x1 := R6.cell 1
      have f0 := R6.frozen 0
      have f1 := R6.frozen 1
      simp only [List.getElem?_toArray, List.getElem?_cons_succ, List.getElem?_cons_zero] at x0 x1
      have hr := R6.lt
      clear R6 hsN hsN2 hsN3 hsN4
      go_wp2
      exact bodyPost_ret (v := .agg #[.int .i64 0, .slice (some ⟨w1.heap.size, 0, none⟩) N N]) (by simp [results, Try.results25, go_sem, x0, x1]) rfl ⟨_, rfl, by
        rw [HV.out]
        refine OwN.int 0 ((OwN.cons (B := u.heap.size + 1) (C := w6.heap.size) (D := w6.heap.size) ?_ (OwN.nil (by simp [World.setCell])) (by have := HS.out; have := HZ.out; omega) (Nat.le_refl _)).mono (by omega) (by simp [World.setCell]) (Nat.le_refl _))
        iterate 2 (refine OwV.win (B' := u.heap.size) (C' := u.heap.size + 1) ?_ (set_win _ _ _ _) (.inr (by omega)))
        exact HOB.out, by
        iterate 2 (refine bst ?_ (Nat.le_refl _) _)
        exact HB6.out⟩
  · have PF := hidH (fun w2 : World => show OwN u.heap.size w2.heap.size w2 (jkR s a b).vs [.int .i64 2, .slice none 0 0] by rw [jkR_no hk]; exact OwN.int 2 (OwN.nb (OwN.nil (Nat.le_refl _))))
    clear hA hB hC wa wb
    by_cases k1 : s.length ≤ 40
    · have q1 : ¬ (40 : Int) < (s.length : Int) := by omega
      by_cases k2 : a.length = 20
      · have q2 : ((a.length : Int) != 20) = false := by rw [bne_eq_false_iff_eq]; omega
        have q3 : ((b.length : Int) != 20) = true := by rw [bne_iff_ne]; intro h; exact hk ⟨k1, k2, by omega⟩
        clear hk k1 k2
        go_enter Try.func25, Try.ntmps25
        go_wp2
        exact bodyPost_ret (v := .agg #[.int .i64 2, .slice none 0 0]) (by simp [results, Try.results25, go_sem]) rfl ⟨_, rfl, PF.out _, bal (Below.refl _ _) _⟩
      · have q2 : ((a.length : Int) != 20) = true := by rw [bne_iff_ne]; omega
        clear hk k1 k2
        go_enter Try.func25, Try.ntmps25
        go_wp2
        exact bodyPost_ret (v := .agg #[.int .i64 2, .slice none 0 0]) (by simp [results, Try.results25, go_sem]) rfl ⟨_, rfl, PF.out _, bal (Below.refl _ _) _⟩
    · have q1 : (40 : Int) < (s.length : Int) := by omega
      clear hk k1
      go_enter Try.func25, Try.ntmps25
      go_wp2
      exact bodyPost_ret (v := .agg #[.int .i64 2, .slice none 0 0]) (by simp [results, Try.results25, go_sem]) rfl ⟨_, rfl, PF.out _, bal (Below.refl _ _) _⟩
end Go.Proofs.Ytjjileefdjjijaa
