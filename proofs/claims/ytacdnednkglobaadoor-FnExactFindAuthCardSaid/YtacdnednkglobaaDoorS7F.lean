/- Chapter 7: the model's FindAuth. -/
import Derived.Test.YtacdnednkglobaaDoorS7C
import Derived.Test.YtacdnednkglobaaDoorRdP
namespace Go.Proofs.YtacdnednkglobaaDoor
open Go.RowKit Go.Deep

/-- An AuthResult by value. -/
theorem ar_res {w W : World} (a b c : Int) (hb : Below w.heap.size w W) : Res w [.int a, .int b, .int c] (.returned (.agg #[.int .i64 a, .int .i64 b, .int .i64 c])) W :=
  ⟨[.int .i64 a, .int .i64 b, .int .i64 c], rfl, OwN.int a (OwN.int b (OwN.int c (OwN.nil (Nat.le_refl _)))), hb⟩
theorem faL_skip {r : List ChunkM} {j : Nat} (h : ∀ x ∈ r.take j, x.Kind ≠ 15) : faL r 0 = faL (r.drop j) j := by rw [faL_step r 0 j h, Nat.zero_add]
theorem faL_hit {r : List ChunkM} {j : Nat} {x : ChunkM} (h : ∀ x ∈ r.take j, x.Kind ≠ 15) (hx : r[j]? = some x) (hk : x.Kind = 15) : faL r 0 = if isTag x then ⟨0, pairAt x.Body 0, (j : Int) + 1⟩ else ⟨5, 0, 0⟩ := by
  obtain ⟨hj, rfl⟩ := List.getElem?_eq_some_iff.1 hx
  rw [faL_skip h, List.drop_eq_getElem_cons hj, faL, if_pos hk]
theorem faL_none {r : List ChunkM} (h : ∀ x ∈ r, x.Kind ≠ 15) : faL r 0 = ⟨4, 0, 0⟩ := by
  rw [faL_skip (j := r.length) (by rw [List.take_length]; exact h), List.drop_length]; rfl
theorem take_next {r : List ChunkM} {j : Nat} {y : ChunkM} (h : ∀ x ∈ r.take j, x.Kind ≠ 15) (hy : r[j]? = some y) (hk : y.Kind ≠ 15) : ∀ x ∈ r.take (j + 1), x.Kind ≠ 15 := fun x hx => by
  rw [List.take_add_one, hy] at hx
  rcases List.mem_append.1 hx with hx | hx
  · exact h x hx
  · simp at hx; rw [hx]; exact hk
theorem pairAt_rd {w : World} {A : Option Addr} {l : List Int} {c : Nat} (h : Bs w A l) (hb : Bytes l) (hl : 2 ≤ l.length) (hm : (l.length : Int) ≤ 9223372036854775807) :
    Calls Tryd.prog 64 #[.slice A l.length c, .int .i64 0] w fun e w' => e = .returned (.int .i64 (pairAt l 0)) ∧ ∃ m, w.drewN m = w' := by
  rcases h with h | ⟨b, off, rfl, _, h3⟩
  · rw [h] at hl; simp at hl
  · have h0 := h3 0 (by omega)
    have h1 := h3 1 (by omega)
    exact l1PairAt_any b off l.length c 0 _ _ w (by omega) hm h0 h1 (hb.get 0).1 (hb.get 0).2 (hb.get 1).1 (hb.get 1).2
set_option maxRecDepth 100000 in
set_option maxHeartbeats 4000000 in
theorem fa_spec (r : List ChunkM) (v : Value) (u : World) (h : Rd u (st_Chunk r) v) (hcb : ∀ x ∈ r, Bytes x.Body) : Calls Tryd.prog 31 #[v] u (Res u (faR r).vs) := by
  have R0 := Blk.new u 77 #[.int .i64 0, .int .i64 0, .int .i64 0]
  have b0 := bal (Below.refl u.heap.size u) (.cells #[.int .i64 0, .int .i64 0, .int .i64 0] 77)
  obtain ⟨w0, hw0⟩ : ∃ w0, u.alloc (.cells #[.int .i64 0, .int .i64 0, .int .i64 0] 77) = w0 := ⟨_, rfl⟩
  rw [hw0] at R0 b0
  have HI := hidH (fun (w : World) (hb : Below u.heap.size u w) => Rd.below hb _ h)
  have HW := hidH hw0
  have HR := hidH R0
  have HB := hidH b0
  have HCB := hidH hcb
  have HCF := hidH (l7Chunks_any r v 8 w0 (HI.out _ b0) (by omega))
  obtain ⟨AR, cr, rfl⟩ := st_Chunk_sh h
  have hm : (r.length : Int) ≤ 9223372036854775807 := Rd.st_len h
  clear hw0 R0 b0 h hcb
  obtain ⟨F, hF⟩ : ∃ F, csF 8 r = F := ⟨_, rfl⟩
  rw [hF] at HCF
  go_enter Tryd.func31, Tryd.ntmps31
  go_wp2_with fail
  rw [HW.out]
  refine HCF.out.mono ?_
  rintro e w1 ⟨rfl, b1⟩
  have HB1 := hidH (btr HB.out b1)
  have HR1 := hidH (HR.out.below b1)
  clear b1 HCF
  by_cases hz : F = 0
  · have q : (F != 0) = false := by rw [bne_eq_false_iff_eq]; exact hz
    have HM := hidH (show faR r = faL r 0 by rw [faR, if_pos (hF.trans hz)])
    have HN := hidH (csF_zero (hF.trans hz)).1
    have hnI : (r.length : Int) ≤ 8 := by have := HN.out; omega
    clear hz hF hm
    go_wp2_with fail
    go_loopw [4] (fun i wr => ∃ j : Nat, j ≤ r.length ∧ i = .int .i64 j ∧ (∀ x ∈ r.take j, x.Kind ≠ 15) ∧ Blk wr u.heap.size 77 #[.int .i64 0, .int .i64 0, .int .i64 0] ∧ Below u.heap.size u wr) (fun i _ => r.length - (intOf i).toNat)
    case atStart => exact ⟨0, by omega, rfl, fun x hx => by simp at hx, HR1.out, HB1.out⟩
    case round =>
      obtain ⟨j, hj, rfl, hk, hR, hB⟩ := hrel
      by_cases hlt : j < r.length
      · have hj0 : (0 : Int) ≤ (j : Int) := by omega
        have hj1 : (j : Int) < (r.length : Int) := by omega
        obtain ⟨k, f, l, g, o, c', B, cB, hx, e, CK, hbl⟩ := chunk_x (HI.out _ hB) hlt
        injection e with e1 e2 e3
        subst e1 e3
        have p0 := CK.c0
        have p1 := CK.c1
        have p2 := CK.c2
        have hg := CK.lt
        have ba := bal (Below.refl wr.heap.size wr) (.cells #[.int .i64 k, .int .i64 f, .slice B l.length cB] 28)
        have KC := Blk.new wr 28 #[.int .i64 k, .int .i64 f, .slice B l.length cB]
        obtain ⟨w5, hw5⟩ : ∃ w5, wr.alloc (.cells #[.int .i64 k, .int .i64 f, .slice B l.length cB] 28) = w5 := ⟨_, rfl⟩
        rw [hw5] at ba KC
        have HBS := hidH (bs_below CK.body ba)
        have HBY := hidH (HCB.out _ (List.mem_of_getElem? hx))
        have HK := hidH hk
        have HR5 := hidH (hR.below ba)
        have HB5 := hidH (btr hB ba)
        have HW5 := hidH hw5
        have HKC := hidH KC
        have HLT := hidH hlt
        have HHIT := hidH (fun (q : k = 15) => faL_hit hk hx q)
        have HNXT := hidH (fun (q : k ≠ 15) => take_next hk hx q)
        clear CK hk hR hB ba KC hw5 hx
        by_cases hkd : k = 15
        · have HE := hidH (HM.out.trans (HHIT.out hkd))
          subst hkd
          have z0 := HKC.out.cell 0
          have z1 := HKC.out.cell 1
          have z2 := HKC.out.cell 2
          simp only [List.getElem?_toArray, List.getElem?_cons_succ, List.getElem?_cons_zero] at z0 z1 z2
          have hl5 := HKC.out.lt
          have HT5 := hidH (fun (q : isTag ⟨15, f, l⟩ = false) => show (faR r).vs = [.int 5, .int 0, .int 0] by rw [HE.out, q]; rfl)
          clear HNXT HHIT
          by_cases hf : f = 0
          · subst hf
            by_cases hl : l.length = 34
            · have ql : ((l.length : Int) != 34) = false := by rw [bne_eq_false_iff_eq]; omega
              have HPA := hidH (fun (w : World) (h : Bs w B l) => pairAt_rd (c := cB) h HBY.out (by omega) hbl)
              have HTT := hidH (show isTag ⟨15, 0, l⟩ = decide (pairAt l 0 ≤ 99) by simp [isTag, hl])
              obtain ⟨P, hP⟩ : ∃ P, pairAt l 0 = P := ⟨_, rfl⟩
              rw [hP] at HPA HTT
              have HPP := hidH hP
              clear hl hP hbl
              go_wp2_with fail
              rw [HW5.out]
              go_wp2_with fail
              refine (HPA.out _ HBS.out).mono ?_
              rintro e w6 ⟨rfl, m, rfl⟩
              have x0 := HR5.out.cell 0
              have x1 := HR5.out.cell 1
              have x2 := HR5.out.cell 2
              have f0 := HR5.out.frozen 0
              have f1 := HR5.out.frozen 1
              have f2 := HR5.out.frozen 2
              simp only [List.getElem?_toArray, List.getElem?_cons_succ, List.getElem?_cons_zero] at x0 x1 x2
              have hrl := HR5.out.lt
              have HB6 := hidH (below_drewN HB5.out m)
              have HBS6 := hidH (show Bs (w5.drewN m) B l from HBS.out)
              by_cases h99 : (99 : Int) < P
              · have HE5 := hidH (HT5.out (by rw [HTT.out]; exact decide_eq_false (by omega)))
                go_wp2
                exact bodyPost_ret (v := .agg #[.int .i64 5, .int .i64 0, .int .i64 0]) (by simp [results, Tryd.results31, go_sem, x0, x1, x2]) rfl (by rw [HE5.out]; exact ar_res 5 0 0 (bst (bst (bst HB6.out (Nat.le_refl _) _) (Nat.le_refl _) _) (Nat.le_refl _) _))
              · have h99' : P ≤ 99 := by omega
                have HE5 := hidH (show (faR r).vs = [.int 0, .int P, .int ((j : Int) + 1)] by
                  have h1 := HE.out
                  rw [HTT.out, decide_eq_true h99', if_pos rfl] at h1
                  rw [h1]
                  show [V.int 0, V.int (pairAt l 0), V.int ((j : Int) + 1)] = _
                  rw [HPP.out])
                clear h99
                go_wp2_with fail
                refine (HPA.out _ HBS6.out).mono ?_
                rintro e w7 ⟨rfl, m7, rfl⟩
                have HB7 := hidH (below_drewN HB5.out (m + m7))
                go_wp2
                exact bodyPost_ret (v := .agg #[.int .i64 0, .int .i64 P, .int .i64 ((j : Int) + 1)]) (by simp [results, Tryd.results31, go_sem, x0, x1, x2]) rfl (by rw [HE5.out]; exact ar_res 0 P _ (bst (bst (bst HB7.out (Nat.le_refl _) _) (Nat.le_refl _) _) (Nat.le_refl _) _))
            · have ql : ((l.length : Int) != 34) = true := by rw [bne_iff_ne]; omega
              have HE5 := hidH (HT5.out (by simp [isTag, hl]))
              have hR6 : Blk (wr.alloc (.cells #[.int .i64 15, .int .i64 0, .slice B l.length cB] 28)) u.heap.size 77 #[.int .i64 0, .int .i64 0, .int .i64 0] := by rw [HW5.out]; exact HR5.out
              have HB6 := hidH (show Below u.heap.size u (wr.alloc (.cells #[.int .i64 15, .int .i64 0, .slice B l.length cB] 28)) by rw [HW5.out]; exact HB5.out)
              clear z0 z1 z2 hl5
              have x0 := hR6.cell 0
              have x1 := hR6.cell 1
              have x2 := hR6.cell 2
              have f0 := hR6.frozen 0
              have f1 := hR6.frozen 1
              have f2 := hR6.frozen 2
              simp only [List.getElem?_toArray, List.getElem?_cons_succ, List.getElem?_cons_zero] at x0 x1 x2
              have hrl := hR6.lt
              clear hl
              go_wp2
              exact bodyPost_ret (v := .agg #[.int .i64 5, .int .i64 0, .int .i64 0]) (by simp [results, Tryd.results31, go_sem, x0, x1, x2]) rfl (by rw [HE5.out]; exact ar_res 5 0 0 (bst (bst (bst HB6.out (Nat.le_refl _) _) (Nat.le_refl _) _) (Nat.le_refl _) _))
          · have qf : (f != 0) = true := by rw [bne_iff_ne]; exact hf
            have HE5 := hidH (HT5.out (by simp [isTag, hf]))
            have hR6 : Blk (wr.alloc (.cells #[.int .i64 15, .int .i64 f, .slice B l.length cB] 28)) u.heap.size 77 #[.int .i64 0, .int .i64 0, .int .i64 0] := by rw [HW5.out]; exact HR5.out
            have HB6 := hidH (show Below u.heap.size u (wr.alloc (.cells #[.int .i64 15, .int .i64 f, .slice B l.length cB] 28)) by rw [HW5.out]; exact HB5.out)
            clear z0 z1 z2 hl5
            have x0 := hR6.cell 0
            have x1 := hR6.cell 1
            have x2 := hR6.cell 2
            have f0 := hR6.frozen 0
            have f1 := hR6.frozen 1
            have f2 := hR6.frozen 2
            simp only [List.getElem?_toArray, List.getElem?_cons_succ, List.getElem?_cons_zero] at x0 x1 x2
            have hrl := hR6.lt
            clear hf
            go_wp2
            exact bodyPost_ret (v := .agg #[.int .i64 5, .int .i64 0, .int .i64 0]) (by simp [results, Tryd.results31, go_sem, x0, x1, x2]) rfl (by rw [HE5.out]; exact ar_res 5 0 0 (bst (bst (bst HB6.out (Nat.le_refl _) _) (Nat.le_refl _) _) (Nat.le_refl _) _))
        · have qk : (k != 15) = true := by rw [bne_iff_ne]; exact hkd
          have HN2 := hidH (HNXT.out hkd)
          have z0 := HKC.out.cell 0
          simp only [List.getElem?_toArray, List.getElem?_cons_zero] at z0
          have hl5 := HKC.out.lt
          clear hkd HNXT HHIT
          go_wp2_with fail
          rw [HW5.out]
          go_wp2_with fail
          go_roundw
          case rel => exact ⟨j + 1, by omega, by go_num, HN2.out, HR5.out, HB5.out⟩
          case measure => simp [intOf]; omega
      · obtain rfl : j = r.length := by omega
        rw [List.take_length] at hk
        have HE := hidH (show (faR r).vs = [.int 4, .int 0, .int 0] by rw [HM.out, faL_none hk]; rfl)
        have x0 := hR.cell 0
        have x1 := hR.cell 1
        have x2 := hR.cell 2
        have f0 := hR.frozen 0
        have f1 := hR.frozen 1
        have f2 := hR.frozen 2
        simp only [List.getElem?_toArray, List.getElem?_cons_succ, List.getElem?_cons_zero] at x0 x1 x2
        have hrl := hR.lt
        have HBW := hidH hB
        clear hk hR hB hlt hj
        go_wp2
        exact bodyPost_ret (v := .agg #[.int .i64 4, .int .i64 0, .int .i64 0]) (by simp [results, Tryd.results31, go_sem, x0, x1, x2]) rfl (by rw [HE.out]; exact ar_res 4 0 0 (bst (bst (bst HBW.out (Nat.le_refl _) _) (Nat.le_refl _) _) (Nat.le_refl _) _))
  · have q : (F != 0) = true := by rw [bne_iff_ne]; exact hz
    have HM := hidH (show (faR r).vs = [.int F, .int 0, .int 0] by rw [faR, if_neg (by rw [hF]; exact hz), hF]; rfl)
    have x0 := HR1.out.cell 0
    have x1 := HR1.out.cell 1
    have x2 := HR1.out.cell 2
    have f0 := HR1.out.frozen 0
    have f1 := HR1.out.frozen 1
    have f2 := HR1.out.frozen 2
    simp only [List.getElem?_toArray, List.getElem?_cons_succ, List.getElem?_cons_zero] at x0 x1 x2
    have hrl := HR1.out.lt
    clear hz hF
    go_wp2
    exact bodyPost_ret (v := .agg #[.int .i64 F, .int .i64 0, .int .i64 0]) (by simp [results, Tryd.results31, go_sem, x0, x1, x2]) rfl (by rw [HM.out]; exact ar_res F 0 0 (bst (bst (bst HB1.out (Nat.le_refl _) _) (Nat.le_refl _) _) (Nat.le_refl _) _))
end Go.Proofs.YtacdnednkglobaaDoor
