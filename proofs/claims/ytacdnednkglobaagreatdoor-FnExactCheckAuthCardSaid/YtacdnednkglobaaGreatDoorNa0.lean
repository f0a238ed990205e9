import Derived.Test.YtacdnednkglobaaGreatDoorAt
import Derived.Test.YtacdnednkglobaaGreatDoorS7C
import Derived.Test.YtacdnednkglobaaGreatDoorImB
import Derived.Test.YtacdnednkglobaaGreatDoorSlB
import Derived.WalkLawsBesides
import Derived.Test.YtacdnednkglobaaGreatDoorP5
import Derived.Test.YtacdnednkglobaaGreatDoorUniL
import Derived.Test.YtacdnednkglobaaGreatDoorInts
import Derived.WalkKit
import Derived.LaidEql
import Derived.Stop.Asserts
import Derived.RowKitTokens
import Derived.Handy

/- The model's l1PairAt. -/
namespace Go.Proofs.YtacdnednkglobaaGreatDoor
open Go.RowKit Go.Deep

set_option maxHeartbeats 1000000 in
theorem l1PairAt_any (b off n c : Nat) (k : Nat) (p q : Int) (w : World) (hc : k + 2 ≤ n) (hm : (n : Int) ≤ 9223372036854775807)
    (hp : w.cell? ⟨b, off + k, none⟩ = some (.int .u8 p)) (hq : w.cell? ⟨b, off + (k + 1), none⟩ = some (.int .u8 q))
    (p0 : 0 ≤ p) (p1 : p ≤ 255) (q0 : 0 ≤ q) (q1 : q ≤ 255) :
    Calls Tryz.prog 63 #[.slice (some ⟨b, off, none⟩) n c, .int .i64 k] w fun e w' => e = .returned (.int .i64 (p * 256 + q)) ∧ ∃ m, w.drewN m = w' := by
  have i1 : IntKind.i64.wrap ((k : Int) + 1) = (k : Int) + 1 := IntWalk.i64_in _ (by omega)
  have t1 : ((k : Int) + 1).toNat = k + 1 := by omega
  have b0 : (k : Int) < (n : Int) := by omega
  have b1 : (k : Int) + 1 < (n : Int) := by omega
  have g1 : 0 ≤ (k : Int) + 1 := by omega
  go_enter Tryz.func63, Tryz.ntmps63
  go_wp2
  go_quiet (fail)
  go_wp2
  go_ret
  exact ⟨rfl, _, rfl⟩
end Go.Proofs.YtacdnednkglobaaGreatDoor

/- Chapter 7: the model's FindAuth. -/
namespace Go.Proofs.YtacdnednkglobaaGreatDoor
open Go.RowKit Go.Deep

/-- An AuthResult by value. -/
theorem ar_res {w W : World} (a b c : Int) (hb : Below w.heap.size w W) : Res w [.int a, .int b, .int c] (.returned (.agg #[.int .i64 a, .int .i64 b, .int .i64 c])) W :=
  ⟨[.int .i64 a, .int .i64 b, .int .i64 c], rfl, OwN.int a (OwN.int b (OwN.int c (OwN.nil (Nat.le_refl _)))), hb⟩
theorem faL_skip {r : List ChunkM} {j : Nat} (h : ∀ x ∈ r.take j, x.Kind ≠ 15) : faL r 0 = faL (r.drop j) j := by rw [faL_step r 0 j h, Nat.zero_add]
theorem faL_hit {r : List ChunkM} {j : Nat} {x : ChunkM} (h : ∀ x ∈ r.take j, x.Kind ≠ 15) (hx : r[j]? = some x) (hk : x.Kind = 15) : faL r 0 = if isTag x then ⟨0, pairAt x.Body 0, (j : Int) + 1⟩ else ⟨5, 0, 0⟩ := by
  obtain ⟨hj, rfl⟩ := List.getElem?_eq_some_iff.1 hx
  rw [faL_skip h, List.drop_eq_getElem_cons hj, faL, if_pos hk]
theorem faL_none {r : List ChunkM} (h : ∀ x ∈ r, x.Kind ≠ 15) : faL r 0 = ⟨4, 0, 0⟩ := by
  rw [faL_skip (j := r.length) (by rw [List.take_length]; exact h), List.drop_length]; rfl
theorem take_next {r : List ChunkM} {j : Nat} {y : ChunkM} (h : ∀ x ∈ r.take j, x.Kind ≠ 15) (hy : r[j]? = some y) (hk : y.Kind ≠ 15) : ∀ x ∈ r.take (j + 1), x.Kind ≠ 15 := fun x hx => by
  rw [List.take_add_one, hy] at hx
  rcases List.mem_append.1 hx with hx | hx
  · exact h x hx
  · simp at hx; rw [hx]; exact hk
theorem pairAt_rd {w : World} {A : Option Addr} {l : List Int} {c : Nat} (h : Bs w A l) (hb : Bytes l) (hl : 2 ≤ l.length) (hm : (l.length : Int) ≤ 9223372036854775807) :
    Calls Tryz.prog 63 #[.slice A l.length c, .int .i64 0] w fun e w' => e = .returned (.int .i64 (pairAt l 0)) ∧ ∃ m, w.drewN m = w' := by
  rcases h with h | ⟨b, off, rfl, _, h3⟩
  · rw [h] at hl; simp at hl
  · have h0 := h3 0 (by omega)
    have h1 := h3 1 (by omega)
    exact l1PairAt_any b off l.length c 0 _ _ w (by omega) hm h0 h1 (hb.get 0).1 (hb.get 0).2 (hb.get 1).1 (hb.get 1).2
set_option maxRecDepth 100000 in
set_option maxHeartbeats 4000000 in
theorem fa_spec (r : List ChunkM) (v : Value) (u : World) (h : Rd u (st_Chunk r) v) (hcb : ∀ x ∈ r, Bytes x.Body) : Calls Tryz.prog 35 #[v] u (Res u (faR r).vs) := by
  have R0 := Blk.new u 72 #[.int .i64 0, .int .i64 0, .int .i64 0]
  have b0 := bal (Below.refl u.heap.size u) (.cells #[.int .i64 0, .int .i64 0, .int .i64 0] 72)
  obtain ⟨w0, hw0⟩ : ∃ w0, u.alloc (.cells #[.int .i64 0, .int .i64 0, .int .i64 0] 72) = w0 := ⟨_, rfl⟩
  rw [hw0] at R0 b0
  have HI := hidH (fun (w : World) (hb : Below u.heap.size u w) => Rd.below hb _ h)
  have HW := hidH hw0
  have HR := hidH R0
  have HB := hidH b0
  have HCB := hidH hcb
  have HCF := hidH (l7Chunks_any r v 8 w0 (HI.out _ b0) (by omega))
  obtain ⟨AR, cr, rfl⟩ := st_Chunk_sh h
  have hm : (r.length : Int) ≤ 9223372036854775807 := Rd.st_len h
  clear hw0 R0 b0 h hcb
  obtain ⟨F, hF⟩ : ∃ F, csF 8 r = F := ⟨_, rfl⟩
  rw [hF] at HCF
  go_enter Tryz.func35, Tryz.ntmps35
  go_wp2_with fail
  rw [HW.out]
  refine HCF.out.mono ?_
  rintro e w1 ⟨rfl, b1⟩
  have HB1 := hidH (btr HB.out b1)
  have HR1 := hidH (HR.out.below b1)
  clear b1 HCF
  by_cases hz : F = 0
  · have q : (F != 0) = false := by rw [bne_eq_false_iff_eq]; exact hz
    have HM := hidH (show faR r = faL r 0 by rw [faR, if_pos (hF.trans hz)])
    have HN := hidH (csF_zero (hF.trans hz)).1
    have hnI : (r.length : Int) ≤ 8 := by have := HN.out; omega
    clear hz hF hm
    go_wp2_with fail
    go_loopw [4] (fun i wr => ∃ j : Nat, j ≤ r.length ∧ i = .int .i64 j ∧ (∀ x ∈ r.take j, x.Kind ≠ 15) ∧ Blk wr u.heap.size 72 #[.int .i64 0, .int .i64 0, .int .i64 0] ∧ Below u.heap.size u wr) (fun i _ => r.length - (intOf i).toNat)
    case atStart => exact ⟨0, by omega, rfl, fun x hx => by simp at hx, HR1.out, HB1.out⟩
    case round =>
      obtain ⟨j, hj, rfl, hk, hR, hB⟩ := hrel
      by_cases hlt : j < r.length
      · have hj0 : (0 : Int) ≤ (j : Int) := by omega
        have hj1 : (j : Int) < (r.length : Int) := by omega
        obtain ⟨k, f, l, g, o, c', B, cB, hx, e, CK, hbl⟩ := chunk_x (HI.out _ hB) hlt
        injection e with e1 e2 e3
        subst e1 e3
        have p0 := CK.c0
        have p1 := CK.c1
        have p2 := CK.c2
        have hg := CK.lt
        have ba := bal (Below.refl wr.heap.size wr) (.cells #[.int .i64 k, .int .i64 f, .slice B l.length cB] 25)
        have KC := Blk.new wr 25 #[.int .i64 k, .int .i64 f, .slice B l.length cB]
        obtain ⟨w5, hw5⟩ : ∃ w5, wr.alloc (.cells #[.int .i64 k, .int .i64 f, .slice B l.length cB] 25) = w5 := ⟨_, rfl⟩
        rw [hw5] at ba KC
        have HBS := hidH (bs_below CK.body ba)
        have HBY := hidH (HCB.out _ (List.mem_of_getElem? hx))
        have HK := hidH hk
        have HR5 := hidH (hR.below ba)
        have HB5 := hidH (btr hB ba)
        have HW5 := hidH hw5
        have HKC := hidH KC
        have HLT := hidH hlt
        have HHIT := hidH (fun (q : k = 15) => faL_hit hk hx q)
        have HNXT := hidH (fun (q : k ≠ 15) => take_next hk hx q)
        clear CK hk hR hB ba KC hw5 hx
        by_cases hkd : k = 15
        · have HE := hidH (HM.out.trans (HHIT.out hkd))
          subst hkd
          have z0 := HKC.out.cell 0
          have z1 := HKC.out.cell 1
          have z2 := HKC.out.cell 2
          simp only [List.getElem?_toArray, List.getElem?_cons_succ, List.getElem?_cons_zero] at z0 z1 z2
          have hl5 := HKC.out.lt
          have HT5 := hidH (fun (q : isTag ⟨15, f, l⟩ = false) => show (faR r).vs = [.int 5, .int 0, .int 0] by rw [HE.out, q]; rfl)
          clear HNXT HHIT
          by_cases hf : f = 0
          · subst hf
            by_cases hl : l.length = 34
            · have ql : ((l.length : Int) != 34) = false := by rw [bne_eq_false_iff_eq]; omega
              have HPA := hidH (fun (w : World) (h : Bs w B l) => pairAt_rd (c := cB) h HBY.out (by omega) hbl)
              have HTT := hidH (show isTag ⟨15, 0, l⟩ = decide (pairAt l 0 ≤ 99) by simp [isTag, hl])
              obtain ⟨P, hP⟩ : ∃ P, pairAt l 0 = P := ⟨_, rfl⟩
              rw [hP] at HPA HTT
              have HPP := hidH hP
              clear hl hP hbl
              go_wp2_with fail
              rw [HW5.out]
              go_wp2_with fail
              refine (HPA.out _ HBS.out).mono ?_
              rintro e w6 ⟨rfl, m, rfl⟩
              have x0 := HR5.out.cell 0
              have x1 := HR5.out.cell 1
              have x2 := HR5.out.cell 2
              have f0 := HR5.out.frozen 0
              have f1 := HR5.out.frozen 1
              have f2 := HR5.out.frozen 2
              simp only [List.getElem?_toArray, List.getElem?_cons_succ, List.getElem?_cons_zero] at x0 x1 x2
              have hrl := HR5.out.lt
              have HB6 := hidH (below_drewN HB5.out m)
              have HBS6 := hidH (show Bs (w5.drewN m) B l from HBS.out)
              by_cases h99 : (99 : Int) < P
              · have HE5 := hidH (HT5.out (by rw [HTT.out]; exact decide_eq_false (by omega)))
                go_wp2
                exact bodyPost_ret (v := .agg #[.int .i64 5, .int .i64 0, .int .i64 0]) (by simp [results, Tryz.results35, go_sem, x0, x1, x2]) rfl (by rw [HE5.out]; exact ar_res 5 0 0 (bst (bst (bst HB6.out (Nat.le_refl _) _) (Nat.le_refl _) _) (Nat.le_refl _) _))
              · have h99' : P ≤ 99 := by omega
                have HE5 := hidH (show (faR r).vs = [.int 0, .int P, .int ((j : Int) + 1)] by
                  have h1 := HE.out
                  rw [HTT.out, decide_eq_true h99', if_pos rfl] at h1
                  rw [h1]
                  show [V.int 0, V.int (pairAt l 0), V.int ((j : Int) + 1)] = _
                  rw [HPP.out])
                clear h99
                go_wp2_with fail
                refine (HPA.out _ HBS6.out).mono ?_
                rintro e w7 ⟨rfl, m7, rfl⟩
                have HB7 := hidH (below_drewN HB5.out (m + m7))
                go_wp2
                exact bodyPost_ret (v := .agg #[.int .i64 0, .int .i64 P, .int .i64 ((j : Int) + 1)]) (by simp [results, Tryz.results35, go_sem, x0, x1, x2]) rfl (by rw [HE5.out]; exact ar_res 0 P _ (bst (bst (bst HB7.out (Nat.le_refl _) _) (Nat.le_refl _) _) (Nat.le_refl _) _))
            · have ql : ((l.length : Int) != 34) = true := by rw [bne_iff_ne]; omega
              have HE5 := hidH (HT5.out (by simp [isTag, hl]))
              have hR6 : Blk (wr.alloc (.cells #[.int .i64 15, .int .i64 0, .slice B l.length cB] 25)) u.heap.size 72 #[.int .i64 0, .int .i64 0, .int .i64 0] := by rw [HW5.out]; exact HR5.out
              have HB6 := hidH (show Below u.heap.size u (wr.alloc (.cells #[.int .i64 15, .int .i64 0, .slice B l.length cB] 25)) by rw [HW5.out]; exact HB5.out)
              clear z0 z1 z2 hl5
              have x0 := hR6.cell 0
              have x1 := hR6.cell 1
              have x2 := hR6.cell 2
              have f0 := hR6.frozen 0
              have f1 := hR6.frozen 1
              have f2 := hR6.frozen 2
              simp only [List.getElem?_toArray, List.getElem?_cons_succ, List.getElem?_cons_zero] at x0 x1 x2
              have hrl := hR6.lt
              clear hl
              go_wp2
              exact bodyPost_ret (v := .agg #[.int .i64 5, .int .i64 0, .int .i64 0]) (by simp [results, Tryz.results35, go_sem, x0, x1, x2]) rfl (by rw [HE5.out]; exact ar_res 5 0 0 (bst (bst (bst HB6.out (Nat.le_refl _) _) (Nat.le_refl _) _) (Nat.le_refl _) _))
          · have qf : (f != 0) = true := by rw [bne_iff_ne]; exact hf
            have HE5 := hidH (HT5.out (by simp [isTag, hf]))
            have hR6 : Blk (wr.alloc (.cells #[.int .i64 15, .int .i64 f, .slice B l.length cB] 25)) u.heap.size 72 #[.int .i64 0, .int .i64 0, .int .i64 0] := by rw [HW5.out]; exact HR5.out
            have HB6 := hidH (show Below u.heap.size u (wr.alloc (.cells #[.int .i64 15, .int .i64 f, .slice B l.length cB] 25)) by rw [HW5.out]; exact HB5.out)
            clear z0 z1 z2 hl5
            have x0 := hR6.cell 0
            have x1 := hR6.cell 1
            have x2 := hR6.cell 2
            have f0 := hR6.frozen 0
            have f1 := hR6.frozen 1
            have f2 := hR6.frozen 2
            simp only [List.getElem?_toArray, List.getElem?_cons_succ, List.getElem?_cons_zero] at x0 x1 x2
            have hrl := hR6.lt
            clear hf
            go_wp2
            exact bodyPost_ret (v := .agg #[.int .i64 5, .int .i64 0, .int .i64 0]) (by simp [results, Tryz.results35, go_sem, x0, x1, x2]) rfl (by rw [HE5.out]; exact ar_res 5 0 0 (bst (bst (bst HB6.out (Nat.le_refl _) _) (Nat.le_refl _) _) (Nat.le_refl _) _))
        · have qk : (k != 15) = true := by rw [bne_iff_ne]; exact hkd
          have HN2 := hidH (HNXT.out hkd)
          have z0 := HKC.out.cell 0
          simp only [List.getElem?_toArray, List.getElem?_cons_zero] at z0
          have hl5 := HKC.out.lt
          clear hkd HNXT HHIT
          go_wp2_with fail
          rw [HW5.out]
          go_wp2_with fail
          go_roundw
          case rel => exact ⟨j + 1, by omega, by go_num, HN2.out, HR5.out, HB5.out⟩
          case measure => simp [intOf]; omega
      · obtain rfl : j = r.length := by omega
        rw [List.take_length] at hk
        have HE := hidH (show (faR r).vs = [.int 4, .int 0, .int 0] by rw [HM.out, faL_none hk]; rfl)
        have x0 := hR.cell 0
        have x1 := hR.cell 1
        have x2 := hR.cell 2
        have f0 := hR.frozen 0
        have f1 := hR.frozen 1
        have f2 := hR.frozen 2
        simp only [List.getElem?_toArray, List.getElem?_cons_succ, List.getElem?_cons_zero] at x0 x1 x2
        have hrl := hR.lt
        have HBW := hidH hB
        clear hk hR hB hlt hj
        go_wp2
        exact bodyPost_ret (v := .agg #[.int .i64 4, .int .i64 0, .int .i64 0]) (by simp [results, Tryz.results35, go_sem, x0, x1, x2]) rfl (by rw [HE.out]; exact ar_res 4 0 0 (bst (bst (bst HBW.out (Nat.le_refl _) _) (Nat.le_refl _) _) (Nat.le_refl _) _))
  · have q : (F != 0) = true := by rw [bne_iff_ne]; exact hz
    have HM := hidH (show (faR r).vs = [.int F, .int 0, .int 0] by rw [faR, if_neg (by rw [hF]; exact hz), hF]; rfl)
    have x0 := HR1.out.cell 0
    have x1 := HR1.out.cell 1
    have x2 := HR1.out.cell 2
    have f0 := HR1.out.frozen 0
    have f1 := HR1.out.frozen 1
    have f2 := HR1.out.frozen 2
    simp only [List.getElem?_toArray, List.getElem?_cons_succ, List.getElem?_cons_zero] at x0 x1 x2
    have hrl := HR1.out.lt
    clear hz hF
    go_wp2
    exact bodyPost_ret (v := .agg #[.int .i64 F, .int .i64 0, .int .i64 0]) (by simp [results, Tryz.results35, go_sem, x0, x1, x2]) rfl (by rw [HM.out]; exact ar_res F 0 0 (bst (bst (bst HB1.out (Nat.le_refl _) _) (Nat.le_refl _) _) (Nat.le_refl _) _))
end Go.Proofs.YtacdnednkglobaaGreatDoor

/- The program's byteReader: take, number, pair, word. -/
namespace Go.Proofs.YtacdnednkglobaaGreatDoor
open Go.RowKit Go.Deep

/-- A reader in block r: what is left to read is l. -/
def RdB (w : World) (r : Nat) (l : List Int) : Prop :=
  ∃ A c, Blk w r 162 #[.slice A l.length c] ∧ Bs w A l ∧ l.length ≤ c ∧ (c : Int) ≤ 9223372036854775807 ∧ ∀ a, A = some a → a.block < r
theorem RdB.below {w w' : World} {r : Nat} {l : List Int} (h : RdB w r l) (hb : Below w.heap.size w w') : RdB w' r l := by
  obtain ⟨A, c, h1, h2, h3⟩ := h
  exact ⟨A, c, h1.below hb, bs_below h2 hb, h3⟩
theorem RdB.lt {w : World} {r : Nat} {l : List Int} (h : RdB w r l) : r < w.heap.size := by
  obtain ⟨A, c, h1, _⟩ := h
  exact h1.lt
theorem win_all {B C B' C' : Nat} {w w' : World} (h : Win B C w w') (hB : B' ≤ B) (hC : C ≤ C') : Win B' C' w w' :=
  ⟨h.os, h.tape, h.output, h.size, fun k hk ho => h.block k hk (by omega), h.frozen⟩
/-- The text's own panic. -/
def PanE (E : Value) : Ending := .panicked [{ v := E, recovered := false }]
set_option maxHeartbeats 1000000 in
theorem take_ok (r n : Nat) (l : List Int) (w : World) (h : RdB w r l) (hn : n ≤ l.length) :
    Calls Tryz.prog 175 #[.pointer (some ⟨r, 0, none⟩), .int .i64 (n : Int)] w fun e w' => ∃ A c, e = .returned (.slice A n c) ∧ Bs w' A (l.take n) ∧ n ≤ c ∧ (∀ a, A = some a → a.block < r) ∧ RdB w' r (l.drop n) ∧ Win r (r + 1) w w' ∧ w'.heap.size = w.heap.size := by
  obtain ⟨A, c, K, hA, hc, hcm, hf⟩ := h
  have c0 := K.cell 0
  have f0 := K.frozen 0
  have hlt := K.lt
  simp only [List.getElem?_toArray, List.getElem?_cons_zero] at c0
  have s1 := fun u => cut_h A l.length c n (n : Int) rfl (by omega) u
  have s2 := fun u => cut_l A l.length c n (n : Int) rfl hn u
  have HK := hidH K
  have HA := hidH (And.intro hA (And.intro hc (And.intro hcm hf)))
  have hnI : (n : Int) ≤ (l.length : Int) := by omega
  have hn0 : ¬ ((n : Int) < 0) := by omega
  have hlm : (l.length : Int) ≤ 9223372036854775807 := by omega
  have HN := hidH hn
  clear K hA hc hcm hf hn
  go_enter Tryz.func175, Tryz.ntmps175
  go_wp2
  go_ret
  have W := win_set w r 0 (.slice (cutA A n c) (l.length - n) (c - n))
  have hf := HA.out.2.2.2
  have hAw : Bs (w.setCell ⟨r, 0, none⟩ (.slice (cutA A n c) (l.length - n) (c - n))) A l := bs_win HA.out.1 W (fun b off e => .inl (hf _ e))
  refine ⟨A, c, rfl, cutA_take hAw HN.out, by have := HN.out; have := HA.out.2.1; omega, hf, ⟨cutA A n c, c - n, ?_, cutA_drop hAw HN.out HA.out.2.1, ?_, ?_, ?_⟩, W, by simp [World.setCell]⟩
  · have h1 := heap_setCell_same w r 0 _ _ (.slice (cutA A n c) (l.length - n) (c - n)) HK.out
    unfold Blk
    rw [h1, List.length_drop]
    rfl
  · rw [List.length_drop]; have := HA.out.2.1; omega
  · have := HA.out.2.2.1; omega
  · intro a ha
    unfold cutA at ha
    split at ha
    · exact hf a ha
    · obtain ⟨a', e, rfl⟩ := Option.map_eq_some_iff.1 ha
      have := hf a' e
      unfold Addr.add
      split <;> simpa using this
set_option maxHeartbeats 1000000 in
theorem take_bad (r : Nat) (n : Int) (l : List Int) (w : World) (ty : TypeId) (pv : Value) (h : RdB w r l) (hn : n < 0 ∨ (l.length : Int) < n) (hE : w.cell? ⟨0, 0, none⟩ = some (.iface ty pv)) :
    Calls Tryz.prog 175 #[.pointer (some ⟨r, 0, none⟩), .int .i64 n] w fun e w' => e = PanE (.iface ty pv) ∧ w' = w := by
  obtain ⟨A, c, K, hA, hc, hcm, hf⟩ := h
  have c0 := K.cell 0
  have hlt := K.lt
  simp only [List.getElem?_toArray, List.getElem?_cons_zero] at c0
  clear hA hc hcm hf
  unfold PanE
  rcases hn with hn | hn
  · go_enter Tryz.func175, Tryz.ntmps175
    go_wp2
    exact ⟨rfl, rfl, rfl⟩
  · have h0 : ¬ (n < 0) := by omega
    go_enter Tryz.func175, Tryz.ntmps175
    go_wp2
    exact ⟨rfl, rfl, rfl⟩
/-- The reader, the text's own error, and that what is left are bytes. -/
structure RE (w : World) (r : Nat) (ty : TypeId) (pv : Value) (l : List Int) : Prop where
  rd : RdB w r l
  e : w.cell? ⟨0, 0, none⟩ = some (.iface ty pv)
  pos : 0 < r
  by_ : Bytes l
theorem RE.below {w w' : World} {r : Nat} {ty : TypeId} {pv : Value} {l : List Int} (h : RE w r ty pv l) (hb : Below w.heap.size w w') : RE w' r ty pv l :=
  ⟨h.rd.below hb, (hb.cell (p := ⟨0, 0, none⟩) (Nat.lt_trans h.pos h.rd.lt)).trans h.e, h.pos, h.by_⟩
theorem RE.turn {w w' : World} {r : Nat} {ty : TypeId} {pv : Value} {l l' : List Int} (h : RE w r ty pv l) (hw : Win r (r + 1) w w') (hr : RdB w' r l') (hl : ∀ x ∈ l', x ∈ l) : RE w' r ty pv l' :=
  ⟨hr, (hw.cell (p := ⟨0, 0, none⟩) (Nat.lt_trans h.pos h.rd.lt) (.inl h.pos)).trans h.e, h.pos, fun x hx => h.by_ x (hl x hx)⟩
set_option maxHeartbeats 1000000 in
theorem number_ok (r : Nat) (x : Int) (l : List Int) (w : World) (ty : TypeId) (pv : Value) (h : RE w r ty pv (x :: l)) :
    Calls Tryz.prog 157 #[.pointer (some ⟨r, 0, none⟩)] w fun e w' => e = .returned (.int .i64 x) ∧ RE w' r ty pv l ∧ Win r (r + 1) w w' ∧ w'.heap.size = w.heap.size := by
  have HT := hidH (take_ok r 1 (x :: l) w h.rd (by simp))
  obtain ⟨x0, x1⟩ := h.by_ x (List.mem_cons_self)
  have HH := hidH h
  clear h
  go_enter Tryz.func157, Tryz.ntmps157
  go_wp2_with fail
  refine HT.out.mono ?_
  rintro e w1 ⟨A, c, rfl, hA, hc, hf, hr, hw, hs⟩
  rcases hA with hA | ⟨b, off, rfl, hb, hA⟩
  · simp at hA
  have a0 := hA 0 (by simp)
  simp only [List.take_succ_cons, List.take_zero, List.getD_cons_zero, Nat.add_zero] at a0
  have HR := hidH (HH.out.turn hw hr (fun y hy => by simp at hy; exact List.mem_cons_of_mem _ hy))
  have HW := hidH (And.intro hw hs)
  clear HT HH hA hc hf hr hw hs
  go_wp2
  go_ret
  exact ⟨rfl, by simpa using HR.out, HW.out⟩
set_option maxHeartbeats 1000000 in
theorem number_bad (r : Nat) (w : World) (ty : TypeId) (pv : Value) (h : RE w r ty pv []) :
    Calls Tryz.prog 157 #[.pointer (some ⟨r, 0, none⟩)] w fun e w' => e = PanE (.iface ty pv) ∧ w' = w := by
  have HT := hidH (take_bad r 1 [] w ty pv h.rd (.inr (by simp)) h.e)
  clear h
  unfold PanE at HT ⊢
  go_enter Tryz.func157, Tryz.ntmps157
  go_wp2_with fail
  refine HT.out.mono ?_
  rintro e w1 ⟨rfl, rfl⟩
  clear HT
  go_wp2
  exact ⟨rfl, rfl, rfl⟩
set_option maxHeartbeats 1000000 in
theorem pair_ok (r : Nat) (x y : Int) (l : List Int) (w : World) (ty : TypeId) (pv : Value) (h : RE w r ty pv (x :: y :: l)) :
    Calls Tryz.prog 147 #[.pointer (some ⟨r, 0, none⟩)] w fun e w' => e = .returned (.int .i64 (x * 256 + y)) ∧ RE w' r ty pv l ∧ Win r (r + 1) w w' ∧ w'.heap.size = w.heap.size := by
  have HT := hidH (number_ok r x (y :: l) w ty pv h)
  obtain ⟨x0, x1⟩ := h.by_ x (List.mem_cons_self)
  obtain ⟨y0, y1⟩ := h.by_ y (List.mem_cons_of_mem _ List.mem_cons_self)
  clear h
  go_enter Tryz.func147, Tryz.ntmps147
  go_wp2_with fail
  refine HT.out.mono ?_
  rintro e w1 ⟨rfl, hr, hw, hs⟩
  have HT2 := hidH (number_ok r y l w1 ty pv hr)
  have HW := hidH (And.intro hw hs)
  clear HT hr hw hs
  go_wp2_with fail
  refine HT2.out.mono ?_
  rintro e w2 ⟨rfl, hr, hw, hs⟩
  have HR := hidH (And.intro hr (And.intro (HW.out.1.trans hw) (hs.trans HW.out.2)))
  clear HT2 HW hr hw hs
  go_wp2
  go_ret
  exact ⟨rfl, HR.out⟩
set_option maxHeartbeats 1000000 in
theorem pair_bad (r : Nat) (l : List Int) (w : World) (ty : TypeId) (pv : Value) (h : RE w r ty pv l) (hl : l.length < 2) :
    Calls Tryz.prog 147 #[.pointer (some ⟨r, 0, none⟩)] w fun e w' => e = PanE (.iface ty pv) ∧ Win r (r + 1) w w' := by
  unfold PanE
  rcases l with _ | ⟨x, _ | ⟨y, l⟩⟩
  · have HT := hidH (number_bad r w ty pv h)
    clear h
    unfold PanE at HT
    go_enter Tryz.func147, Tryz.ntmps147
    go_wp2_with fail
    refine HT.out.mono ?_
    rintro e w1 ⟨rfl, rfl⟩
    clear HT
    go_wp2
    exact ⟨rfl, rfl, Win.refl _ _ _⟩
  · have HT := hidH (number_ok r x [] w ty pv h)
    obtain ⟨x0, x1⟩ := h.by_ x (List.mem_cons_self)
    clear h
    go_enter Tryz.func147, Tryz.ntmps147
    go_wp2_with fail
    refine HT.out.mono ?_
    rintro e w1 ⟨rfl, hr, hw, hs⟩
    have HT2 := hidH (number_bad r w1 ty pv hr)
    have HW := hidH hw
    clear HT hr hw hs
    unfold PanE at HT2
    go_wp2_with fail
    refine HT2.out.mono ?_
    rintro e w2 ⟨rfl, rfl⟩
    clear HT2
    go_wp2
    exact ⟨rfl, rfl, HW.out⟩
  · simp at hl; omega
set_option maxHeartbeats 1000000 in
theorem word_ok (r : Nat) (l : List Int) (w : World) (ty : TypeId) (pv : Value) (h : RE w r ty pv l) (h4 : 4 ≤ l.length) :
    Calls Tryz.prog 155 #[.pointer (some ⟨r, 0, none⟩)] w fun e w' => e = .returned (.int .i64 (atW l 0)) ∧ RE w' r ty pv (l.drop 4) ∧ Win r (r + 1) w w' := by
  have HT := hidH (take_ok r 4 l w h.rd h4)
  have HH := hidH h
  have p := h.by_.get 0
  have q := h.by_.get 1
  have s := h.by_.get 2
  have t := h.by_.get 3
  have e0 : atW l 0 = l.getD 0 0 * 16777216 + l.getD 1 0 * 65536 + l.getD 2 0 * 256 + l.getD 3 0 := rfl
  have HE := hidH e0
  have HPQ := hidH (And.intro p (And.intro q (And.intro s t)))
  have H4 := hidH h4
  clear h h4 e0 p q s t
  go_enter Tryz.func155, Tryz.ntmps155
  go_wp2_with fail
  refine HT.out.mono ?_
  rintro e w1 ⟨A, c, rfl, hA, hc, hf, hr, hw, hs⟩
  rcases hA with hA | ⟨b, off, rfl, hb, hA⟩
  · have h9 : (l.take 4).length = 0 := by rw [hA]; rfl
    rw [List.length_take] at h9; have := H4.out; omega
  have g : ∀ j, j < 4 → w1.cell? ⟨b, off + j, none⟩ = some (.int .u8 (l.getD j 0)) := fun j hj => by
    rw [hA j (by rw [List.length_take]; have := H4.out; omega)]
    simp [List.getD_eq_getElem?_getD, List.getElem?_take_of_lt hj]
  have a0 := g 0 (by omega)
  rw [Nat.add_zero] at a0
  have a1 := g 1 (by omega)
  have a2 := g 2 (by omega)
  have a3 := g 3 (by omega)
  have HR := hidH (HH.out.turn hw hr (fun y hy => List.mem_of_mem_drop hy))
  have HW := hidH hw
  have hat : ∀ u, (Instr.arrayAt 250 (.slice (some ⟨b, off, none⟩) 4 c)).run Tryz.prog u = .ok (.pointer (some ⟨b, off, none⟩)) u := fun u => run_arrayAt u 250 5 4 _ _ _ Tryz.underlying250 (by omega)
  obtain ⟨x0, hx0⟩ : ∃ x, l.getD 0 0 = x := ⟨_, rfl⟩
  obtain ⟨x1, hx1⟩ : ∃ x, l.getD 1 0 = x := ⟨_, rfl⟩
  obtain ⟨x2, hx2⟩ : ∃ x, l.getD 2 0 = x := ⟨_, rfl⟩
  obtain ⟨x3, hx3⟩ : ∃ x, l.getD 3 0 = x := ⟨_, rfl⟩
  rw [hx0] at a0
  rw [hx1] at a1
  rw [hx2] at a2
  rw [hx3] at a3
  rw [hx0, hx1, hx2, hx3] at HPQ HE
  have HDC := hidH (fun u => decode_any x0 x1 x2 x3 u HPQ.out.1.1 HPQ.out.1.2 HPQ.out.2.1.1 HPQ.out.2.1.2 HPQ.out.2.2.1.1 HPQ.out.2.2.1.2 HPQ.out.2.2.2.1 HPQ.out.2.2.2.2)
  have hz1 : 0 ≤ x0 * 16777216 + x1 * 65536 + x2 * 256 + x3 := by have := HPQ.out; omega
  have hz2 : x0 * 16777216 + x1 * 65536 + x2 * 256 + x3 ≤ 4294967295 := by have := HPQ.out; omega
  clear HT HH hA hc hf hr hw hs g hx0 hx1 hx2 hx3
  go_wp2_with fail
  refine (HDC.out _).mono ?_
  rintro e w2 ⟨rfl, hb2⟩
  have HR2 := hidH (HR.out.below hb2)
  have HW2 := hidH (HW.out.trans (Win.of_below hb2))
  obtain ⟨z, hz⟩ : ∃ z, x0 * 16777216 + x1 * 65536 + x2 * 256 + x3 = z := ⟨_, rfl⟩
  rw [hz] at HE hz1 hz2 ⊢
  clear HDC hb2 HR HW a0 a1 a2 a3 hat hz
  go_wp2
  go_ret
  exact ⟨by rw [HE.out]; rfl, HR2.out, HW2.out⟩
end Go.Proofs.YtacdnednkglobaaGreatDoor

/- The program's byteReader in chapter 5: pair, copied, copiedRest, numbers, data. -/
namespace Go.Proofs.YtacdnednkglobaaGreatDoor
open Go.RowKit Go.Deep

theorem Win.andBelow5 {B C : Nat} {a b c : World} (h : Win B C a b) (k : Below a.heap.size b c) : Win B C a c :=
  ⟨k.os.trans h.os, k.tape.trans h.tape, k.output.trans h.output, Nat.le_trans h.size k.size, fun g hg ho => (k.block g hg).trans (h.block g hg ho), fun x hx => (k.frozen hx).trans (h.frozen x hx)⟩
theorem bsc {B : Nat} {a w : World} (h : Below B a w) {g i : Nat} (hg : B ≤ g) (u : Value) : Below B a (w.setCell ⟨g, i, none⟩ u) := h.setCell (p := ⟨g, i, none⟩) hg u
/-- Numbers of the call's own, in a row. -/
theorem own_oiI {w : World} {B : Nat} {v : Value} {d : List Int} (h : w.ownsRow B 2 1 v d.length (d.map (Value.int .i64))) :
    ∃ A cp, v = .slice A d.length cp ∧ Oi B w.heap.size w A d ∧ d.length ≤ cp ∧ (cp : Int) ≤ 9223372036854775807 := by
  have hc := fun g hg => h.cells (g := g) hg
  have hl := h.lt
  obtain ⟨_, ⟨rfl, hn⟩ | ⟨g, cap, cur, rfl, hg, hblk, hnc, hm, _, _⟩⟩ := h
  · have : d = [] := List.eq_nil_of_length_eq_zero hn
    subst this
    exact ⟨none, 0, rfl, .inl rfl, Nat.le_refl _, by omega⟩
  · unfold maxLen at hm
    refine ⟨_, cap, rfl, .inr ⟨g, 0, rfl, hg, (hl g rfl).2, Nat.le_refl _, fun j hj => ⟨?_, ?_⟩⟩, hnc, by omega⟩
    · have h1 := hc g rfl j (.int .i64 (d.getD j 0)) (by simp [hj])
      rw [add_off, Nat.zero_add] at h1
      rw [Nat.zero_add]
      exact h1
    · exact (show Blk w g 2 cur from hblk).frozen _
theorem own_oiN {w : World} {B n : Nat} {v : Value} {d : List Int} (h : w.ownsRow B 2 1 v n (d.map (Value.int .i64))) (hn : d.length = n) :
    ∃ A cp, v = .slice A n cp ∧ Oi B w.heap.size w A d ∧ d.length ≤ cp ∧ (cp : Int) ≤ 9223372036854775807 := by
  subst hn
  exact own_oiI h
theorem wpList_append_i1 {w : World} {ops : Array Oper} {rest : List Oper} {o : Oper} {a : Act} {Q : Exit → Act → World → Prop} (hgd : o.guard = none) (s x : Operand)
    (ho : o.op = .call { callee := .builtin .append, args := #[s, x], argTypes := #[38, 38] })
    (base : Nat) (v : Value) (n : Nat) (xs : List Value) (hs : a.eval s = v) (hown : w.ownsRow base 2 1 v n xs)
    (q t : Nat) (z : Int) (hx : a.eval x = .slice (some ⟨q, 0, none⟩) 1 1) (hq : Blk w q t #[.int .i64 z]) (hm : n ≤ 100000) (hbase : base ≤ w.heap.size)
    (h : ∀ v' w', w'.ownsRow base 2 1 v' (n + 1) (xs ++ [.int .i64 z]) → w.grownBy w' v.ownBlock → wpList Tryz.prog ops Q rest (a.put o.dst v') w') : wpList Tryz.prog ops Q (o :: rest) a w := by
  obtain ⟨i0, hi, hzz⟩ := Option.map_eq_some_iff.1 infoI64
  simp only [Prod.mk.injEq] at hzz
  obtain ⟨hz0, hz1, hz2⟩ := hzz
  refine wpList_append_own w hgd s x 38 ho base 2 i0 (.int .i64 0) 1 8 Tryz.underlying38 hi hz0 hz1 hz2 rfl (by decide) v n xs hs hown ⟨q, 0, none⟩ 1 1 [.int .i64 z] hx rfl
    (fun j u hu => ?_) (fun u hu => ?_) (by unfold maxLen; omega) (by omega) hbase (fun v' w' h1 h2 _ => h v' w' h1 h2)
  · have e : (⟨q, 0, none⟩ : Addr).add j = ⟨q, j, none⟩ := by rw [add_off, Nat.zero_add]
    rw [e, hq.cell, ← hu]
    simp
  · simp only [List.mem_cons, List.not_mem_nil, or_false] at hu
    subst hu; rfl
theorem RE.mem {w : World} {r : Nat} {ty : TypeId} {pv : Value} {l : List Int} (h : RE w r ty pv l) (k : Nat) : Bytes (l.drop k) := fun x hx => h.by_ x (List.mem_of_mem_drop hx)
theorem pair_ok' (r : Nat) (l : List Int) (w : World) (ty : TypeId) (pv : Value) (h : RE w r ty pv l) (h2 : 2 ≤ l.length) :
    Calls Tryz.prog 147 #[.pointer (some ⟨r, 0, none⟩)] w fun e w' => e = .returned (.int .i64 (pairAt l 0)) ∧ RE w' r ty pv (l.drop 2) ∧ Win r (r + 1) w w' ∧ w'.heap.size = w.heap.size := by
  match l, h2, h with
  | x :: y :: l, _, h => exact pair_ok r x y l w ty pv h
theorem number_ok' (r : Nat) (l : List Int) (w : World) (ty : TypeId) (pv : Value) (h : RE w r ty pv l) (h1 : 1 ≤ l.length) :
    Calls Tryz.prog 157 #[.pointer (some ⟨r, 0, none⟩)] w fun e w' => e = .returned (.int .i64 (l.getD 0 0)) ∧ RE w' r ty pv (l.drop 1) ∧ Win r (r + 1) w w' ∧ w'.heap.size = w.heap.size := by
  match l, h1, h with
  | x :: l, _, h => exact number_ok r x l w ty pv h
/-- A word that does not stand there. -/
theorem word_bad (r : Nat) (l : List Int) (w : World) (ty : TypeId) (pv : Value) (h : RE w r ty pv l) (h4 : l.length < 4) :
    Calls Tryz.prog 155 #[.pointer (some ⟨r, 0, none⟩)] w fun e w' => e = PanE (.iface ty pv) ∧ Win r (r + 1) w w' := by
  have HT := hidH (take_bad r 4 l w ty pv h.rd (.inr (by omega)) h.e)
  clear h h4
  unfold PanE at HT ⊢
  go_enter Tryz.func155, Tryz.ntmps155
  go_wp2_with fail
  refine HT.out.mono ?_
  rintro e w1 ⟨rfl, rfl⟩
  clear HT
  go_wp2
  exact ⟨rfl, rfl, Win.refl _ _ _⟩
/-- What a reader of bytes leaves: bytes of its own. -/
def CopRes (r : Nat) (ty : TypeId) (pv : Value) (d rest : List Int) (w : World) (e : Ending) (w' : World) : Prop :=
  ∃ A c, e = .returned (.slice A d.length c) ∧ OwV w.heap.size w'.heap.size w' (.bs d) (.slice A d.length c) ∧ RE w' r ty pv rest ∧ Win r (r + 1) w w'
set_option maxHeartbeats 1000000 in
theorem copied_ok (r n : Nat) (l : List Int) (w : World) (ty : TypeId) (pv : Value) (h : RE w r ty pv l) (hn : n ≤ l.length) (hm : l.length ≤ 4000000) :
    Calls Tryz.prog 158 #[.pointer (some ⟨r, 0, none⟩), .int .i64 (n : Int)] w (CopRes r ty pv (l.take n) (l.drop n) w) := by
  have HT := hidH (take_ok r n l w h.rd hn)
  have HH := hidH h
  have hll : (l.take n).length = n := by rw [List.length_take]; omega
  have HL := hidH (And.intro hll (And.intro hm hn))
  clear h hn hm hll
  go_enter Tryz.func158, Tryz.ntmps158
  go_wp2_with fail
  refine HT.out.mono ?_
  rintro e w1 ⟨A, c, rfl, hA, hc, hf, hr, hw, hs⟩
  have HCL := hidH (clone_any A (l.take n) c w1 hA (by rw [HL.out.1]; have := HL.out; omega))
  rw [HL.out.1] at HCL
  have HR := hidH (HH.out.turn hw hr (fun y hy => List.mem_of_mem_drop hy))
  have HW := hidH (And.intro hw hs)
  clear HT hA hc hf hr hw hs
  go_wp2_with fail
  refine HCL.out.mono ?_
  rintro e w2 ⟨v2, rfl, o2, b2⟩
  obtain ⟨A2, c2, e2, ob2, k2, m2⟩ := own_ob o2
  have HOB := hidH (show OwV w.heap.size w2.heap.size w2 (.bs (l.take n)) (.slice A2 (l.take n).length c2) by rw [← HW.out.2]; exact ob2.owv (Nat.le_refl _) ⟨k2, m2⟩)
  rw [HL.out.1] at e2
  subst e2
  have HR2 := hidH (HR.out.below b2)
  have HW2 := hidH (HW.out.1.trans (Win.of_below b2))
  clear HCL o2 ob2 k2 m2 b2
  go_wp2
  go_ret
  exact ⟨A2, c2, by rw [HL.out.1]; rfl, HOB.out, HR2.out, HW2.out⟩
set_option maxHeartbeats 1000000 in
theorem copied_bad (r : Nat) (n : Int) (l : List Int) (w : World) (ty : TypeId) (pv : Value) (h : RE w r ty pv l) (hn : n < 0 ∨ (l.length : Int) < n) :
    Calls Tryz.prog 158 #[.pointer (some ⟨r, 0, none⟩), .int .i64 n] w fun e w' => e = PanE (.iface ty pv) ∧ Win r (r + 1) w w' := by
  have HT := hidH (take_bad r n l w ty pv h.rd hn h.e)
  clear h hn
  unfold PanE at HT ⊢
  go_enter Tryz.func158, Tryz.ntmps158
  go_wp2_with fail
  refine HT.out.mono ?_
  rintro e w1 ⟨rfl, rfl⟩
  clear HT
  go_wp2
  exact ⟨rfl, rfl, Win.refl _ _ _⟩
set_option maxHeartbeats 1000000 in
theorem copiedRest_ok (r : Nat) (l : List Int) (w : World) (ty : TypeId) (pv : Value) (h : RE w r ty pv l) (hm : l.length ≤ 4000000) :
    Calls Tryz.prog 156 #[.pointer (some ⟨r, 0, none⟩)] w (CopRes r ty pv l [] w) := by
  have HC := copied_ok r l.length l w ty pv h (Nat.le_refl _) hm
  rw [List.take_length, List.drop_length] at HC
  replace HC := hidH HC
  obtain ⟨A, c, K, _, hc, hcm, _⟩ := h.rd
  have k0 := K.cell 0
  have hk := K.lt
  simp only [List.getElem?_toArray, List.getElem?_cons_zero] at k0
  have hlm : (l.length : Int) ≤ 4000000 := by omega
  clear h hm K hc hcm
  go_enter Tryz.func156, Tryz.ntmps156
  go_wp2_with fail
  refine HC.out.mono ?_
  rintro e w2 ⟨A2, c2, rfl, h2⟩
  have HR := hidH h2
  clear HC h2
  go_wp2
  go_ret
  exact ⟨A2, c2, rfl, HR.out⟩
end Go.Proofs.YtacdnednkglobaaGreatDoor

/- The program's isId. -/
namespace Go.Proofs.YtacdnednkglobaaGreatDoor
open Go.RowKit Go.Deep

set_option maxHeartbeats 400000 in
theorem isId_any (n : Int) (w : World) : Calls Tryz.prog 141 #[.int .i64 n] w fun e w' => e = .returned (.bool (inB n 0 99)) ∧ w = w' := by
  by_cases h1 : 0 ≤ n
  · rw [show inB n 0 99 = decide (n ≤ 99) from by simp [inB, h1]]
    go_enter Tryz.func141, Tryz.ntmps141
    go_wp2
    go_ret
    exact ⟨rfl, rfl⟩
  · have h : n < 0 := by omega
    rw [show inB n 0 99 = false from inB_lo h]
    clear h1
    go_enter Tryz.func141, Tryz.ntmps141
    go_wp2
    go_ret
    exact ⟨rfl, rfl⟩
end Go.Proofs.YtacdnednkglobaaGreatDoor

/- Chapter 7: the program's isAuth, readTag, findTag. -/
namespace Go.Proofs.YtacdnednkglobaaGreatDoor
open Go.RowKit Go.Deep

set_option maxHeartbeats 1000000 in
theorem isAuth_any (k f : Int) (A : Option Addr) (n c : Nat) (w : World) : Calls Tryz.prog 122 #[.agg #[.int .i64 k, .int .i64 f, .slice A n c]] w fun e w' => e = .returned (.bool (k == 15)) ∧ w.alloc (.cells #[.int .i64 k, .int .i64 f, .slice A n c] 25) = w' := by
  go_enter Tryz.func122, Tryz.ntmps122
  go_wp2
  go_ret
  exact ⟨rfl, rfl⟩
/-- Where the first one stands. -/
def Idx (r : List ChunkM) (n : Int) : Prop := (n = -1 ∧ ∀ x ∈ r, x.Kind ≠ 15) ∨ ∃ (j : Nat) (f : Int) (l : List Int), n = (j : Int) ∧ r[j]? = some ⟨15, f, l⟩ ∧ ∀ x ∈ r.take j, x.Kind ≠ 15
set_option maxRecDepth 100000 in
set_option maxHeartbeats 4000000 in
theorem idx_any (r : List ChunkM) (v : Value) (u : World) (h : Rd u (st_Chunk r) v) (hn : r.length ≤ 8) :
    Calls Tryz.prog 121 #[v, .func (.func 122) #[] #[]] u fun e w' => ∃ n, e = .returned (.int .i64 n) ∧ Idx r n ∧ Below u.heap.size u w' := by
  obtain ⟨AR, cr, rfl⟩ := st_Chunk_sh h
  have HI := hidH (fun (w : World) (hb : Below u.heap.size u w) => Rd.below hb _ h)
  have hnI : (r.length : Int) ≤ 8 := by omega
  clear h hn
  go_enter Tryz.func121, Tryz.ntmps121
  go_wp2
  go_loopw [8] (fun i wr => ∃ j : Nat, j ≤ r.length ∧ i = .int .i64 j ∧ (∀ x ∈ r.take j, x.Kind ≠ 15) ∧ Below u.heap.size u wr) (fun i _ => r.length - (intOf i).toNat)
  case atStart => exact ⟨0, by omega, rfl, fun x hx => by simp at hx, Below.refl _ _⟩
  case round =>
    obtain ⟨j, hj, rfl, hk, hB⟩ := hrel
    by_cases hlt : j < r.length
    · have hj0 : (0 : Int) ≤ (j : Int) := by omega
      have hj1 : (j : Int) < (r.length : Int) := by omega
      obtain ⟨k, f, l, g, o, c', B, cB, hx, e, CK, _⟩ := chunk_x (HI.out _ hB) hlt
      injection e with e1 e2 e3
      subst e1 e3
      have p0 := CK.c0
      have p1 := CK.c1
      have p2 := CK.c2
      have hg := CK.lt
      have HB5 := hidH (btr hB (bal (Below.refl wr.heap.size wr) (.cells #[.int .i64 k, .int .i64 f, .slice B l.length cB] 25)))
      have HX := hidH hx
      have HK := hidH hk
      have HNXT := hidH (fun (q : k ≠ 15) => take_next hk hx q)
      clear CK hx hk hB
      by_cases hkd : k = 15
      · subst hkd
        go_wp2_with (first | (go_at_call 122; refine (isAuth_any _ _ _ _ _ _).mono ?_; rintro e w' ⟨rfl, rfl⟩))
        go_ret
        exact ⟨_, rfl, .inr ⟨j, f, l, rfl, HX.out, HK.out⟩, HB5.out⟩
      · have qk : (k == 15) = false := by rw [beq_eq_false_iff_ne]; exact hkd
        have HN2 := hidH (HNXT.out hkd)
        clear hkd HNXT
        go_wp2_with (first | (go_at_call 122; refine (isAuth_any _ _ _ _ _ _).mono ?_; rintro e w' ⟨rfl, rfl⟩))
        go_roundw
        case rel => exact ⟨j + 1, by omega, by go_num, HN2.out, HB5.out⟩
        case measure => simp [intOf]; omega
    · obtain rfl : j = r.length := by omega
      rw [List.take_length] at hk
      have HK := hidH hk
      have HBW := hidH hB
      clear hk hB hlt hj
      go_wp2
      go_ret
      exact ⟨_, rfl, .inl ⟨rfl, HK.out⟩, HBW.out⟩
/-- An error of the program's own type. -/
def errU (c : Int) : Value := .iface 183 (.agg #[.int .i64 c])
def tagV (id : Int) (A : Option Addr) (n c : Nat) (from_ : Int) : Value := .agg #[.int .i64 id, .slice A n c, .int .i64 from_]
def RtR (f : Int) (l : List Int) (u : World) (e : Ending) (w' : World) : Prop :=
  (isTag ⟨15, f, l⟩ = false ∧ e = .returned (.tuple #[tagV 0 none 0 0 0, errU 5]) ∧ Below u.heap.size u w') ∨
  (isTag ⟨15, f, l⟩ = true ∧ ∃ (A : Option Addr) (c : Nat), e = .returned (.tuple #[tagV (pairAt l 0) A 32 c 0, .nilIface]) ∧ Bs w' A (l.drop 2) ∧ Below u.heap.size u w')
theorem readB_at {w : World} {A : Option Addr} {l : List Int} {r : Nat} (h : Bs w A l) (hl : 0 < l.length) (hr : w.heap.size ≤ r) : ∀ a, A = some a → a.block < r := by
  rcases h with h | ⟨b, off, rfl, hb, _⟩
  · rw [h] at hl; simp at hl
  · intro a e
    obtain rfl := Option.some.inj e
    exact Nat.lt_of_lt_of_le hb hr
theorem Bs.setR {w : World} {A : Option Addr} {l : List Int} (h : Bs w A l) (p : Addr) (u : Value) (hp : ∀ a, A = some a → a.block ≠ p.block) : Bs (w.setCell p u) A l := by
  rcases h with h | ⟨b, off, h1, h2, h3⟩
  · exact .inl h
  · exact .inr ⟨b, off, h1, by simpa [World.setCell] using h2, fun j hj => (World.cell?_setCell_other _ _ _ _ (fun e => hp _ h1 (by rw [e]))).trans (h3 j hj)⟩
theorem bs_far {w : World} {A : Option Addr} {l : List Int} {g : Nat} {t : TypeId} {cs : Array Value} (h : Bs w A l) (hl : 0 < l.length) (k : Blk w g t cs) (hc : ∀ v ∈ cs, ∀ x, v ≠ .int .u8 x) : ∀ a, A = some a → a.block ≠ g := by
  rcases h with h | ⟨b, off, rfl, _, h3⟩
  · rw [h] at hl; simp at hl
  · intro a e q
    obtain rfl := Option.some.inj e
    have h4 := h3 0 hl
    have q' : b = g := q
    rw [q', k.cell] at h4
    exact hc _ (Array.mem_of_getElem? h4) _ rfl
set_option maxRecDepth 100000 in
set_option maxHeartbeats 4000000 in
theorem readTag_any (f : Int) (B : Option Addr) (l : List Int) (cB : Nat) (u : World) (ty : TypeId) (pv : Value) (hE : u.cell? ⟨0, 0, none⟩ = some (.iface ty pv)) (hB : Bs u B l) (hy : Bytes l) (hc : l.length ≤ cB) (hm : (cB : Int) ≤ 9223372036854775807) :
    Calls Tryz.prog 123 #[.agg #[.int .i64 15, .int .i64 f, .slice B l.length cB]] u (RtR f l u) := by
  have h0lt := World.block_lt_of_cell? _ _ hE
  have K1 := (Blk.new u 25 #[.int .i64 15, .int .i64 f, .slice B l.length cB]).alloc (.cells #[.int .i64 0, .slice none 0 0, .int .i64 0] 141)
  have R1 := Blk.new (u.alloc (.cells #[.int .i64 15, .int .i64 f, .slice B l.length cB] 25)) 141 #[.int .i64 0, .slice none 0 0, .int .i64 0]
  have b1 := bal (bal (Below.refl u.heap.size u) (.cells #[.int .i64 15, .int .i64 f, .slice B l.length cB] 25)) (.cells #[.int .i64 0, .slice none 0 0, .int .i64 0] 141)
  rw [World.size_alloc] at R1
  obtain ⟨w1, hw1⟩ : ∃ w1, (u.alloc (.cells #[.int .i64 15, .int .i64 f, .slice B l.length cB] 25)).alloc (.cells #[.int .i64 0, .slice none 0 0, .int .i64 0] 141) = w1 := ⟨_, rfl⟩
  have hs1 : w1.heap.size = u.heap.size + 1 + 1 := by rw [← hw1]; simp
  rw [hw1] at K1 R1 b1
  have z0 := K1.cell 0
  have z1 := K1.cell 1
  have z2 := K1.cell 2
  simp only [List.getElem?_toArray, List.getElem?_cons_succ, List.getElem?_cons_zero] at z0 z1 z2
  have x0 := R1.cell 0
  have x1 := R1.cell 1
  have x2 := R1.cell 2
  have f0 := R1.frozen 0
  have f1 := R1.frozen 1
  have f2 := R1.frozen 2
  simp only [List.getElem?_toArray, List.getElem?_cons_succ, List.getElem?_cons_zero] at x0 x1 x2
  have hk1 := K1.lt
  have hr1 := R1.lt
  have HB1 := hidH b1
  have HK1 := hidH K1
  have HR1 := hidH R1
  have HS1 := hidH hs1
  have HW1 := hidH hw1
  have HBS := hidH (bs_below hB b1)
  have HE := hidH ((b1.cell (p := ⟨0, 0, none⟩) h0lt).trans hE)
  have H0 := hidH h0lt
  have HC := hidH (And.intro hc (And.intro hm hy))
  clear K1 R1 b1 hs1 hw1 hB hE h0lt hc hm hy
  by_cases hf : f = 0
  · subst hf
    by_cases hl : l.length = 34
    · have HTT := hidH (show isTag ⟨15, 0, l⟩ = decide (pairAt l 0 ≤ 99) by simp [isTag, hl])
      have ba := bal (Below.refl w1.heap.size w1) (.cells #[.slice B l.length cB] 162)
      have KR := Blk.new w1 162 #[.slice B l.length cB]
      have RE1 : RE (w1.alloc (.cells #[.slice B l.length cB] 162)) w1.heap.size ty pv l :=
        ⟨⟨B, cB, KR, bs_below HBS.out ba, HC.out.1, HC.out.2.1, readB_at HBS.out (by omega) (Nat.le_refl _)⟩, (ba.cell (p := ⟨0, 0, none⟩) (World.block_lt_of_cell? _ _ HE.out)).trans HE.out, by have := HS1.out; omega, HC.out.2.2⟩
      rw [HS1.out] at RE1
      have HPR := hidH (pair_ok' (u.heap.size + 1 + 1) l _ ty pv RE1 (by omega))
      have HBA := hidH (btr HB1.out ba)
      have HRA := hidH (HR1.out.below ba)
      obtain ⟨P, hP⟩ : ∃ P, pairAt l 0 = P := ⟨_, rfl⟩
      rw [hP] at HPR HTT
      unfold RtR
      rw [hP, HTT.out]
      have HPP := hidH hP
      have ql : ((l.length : Int) != 34) = false := by rw [bne_eq_false_iff_eq]; omega
      have HL := hidH (show (l.drop 2).length = 32 by simp [hl])
      clear hl hP ba KR RE1
      go_enter Tryz.func123, Tryz.ntmps123
      clear x0 x1 x2 f0 f1 f2 hr1
      go_wp2_with fail
      rw [HW1.out]
      refine HPR.out.mono ?_
      rintro e w2 ⟨rfl, RE2, hw2, hs2⟩
      obtain ⟨A2, c2, K2, S2, h21, h22, _⟩ := RE2.rd
      have hR2 := hw2.blk HRA.out (.inl (by omega))
      have HB2 := hidH (HBA.out.trans ((hw2.below (by rw [World.size_alloc, HS1.out]; omega)).mono (by omega)))
      have HS2 := hidH S2
      have HFA := hidH (bs_far S2 (by rw [HL.out]; omega) hR2 (fun v hv x => by
        simp only [List.mem_toArray, List.mem_cons, List.not_mem_nil, or_false] at hv
        rcases hv with rfl | rfl | rfl <;> exact fun q => by cases q))
      have hA2 := HL.out
      rw [hA2] at K2
      have y0 := K2.cell 0
      simp only [List.getElem?_toArray, List.getElem?_cons_zero] at y0
      have hl2 := K2.lt
      have HIN := hidH (show inB P 0 99 = decide (P ≤ 99) by
        have h1 := (HC.out.2.2).get 0
        have h2 := (HC.out.2.2).get 1
        have h3 : 0 ≤ P := by rw [← HPP.out]; show 0 ≤ l.getD 0 0 * 256 + l.getD 1 0; omega
        simp [inB, h3])
      have x0 := hR2.cell 0
      have x1 := hR2.cell 1
      have x2 := hR2.cell 2
      have f0 := hR2.frozen 0
      have f1 := hR2.frozen 1
      have f2 := hR2.frozen 2
      simp only [List.getElem?_toArray, List.getElem?_cons_succ, List.getElem?_cons_zero] at x0 x1 x2
      have hr1 := hR2.lt
      clear RE2 hw2 hs2 S2 h21 h22 hR2 K2 hA2
      by_cases h99 : P ≤ 99
      · have e1 := HIN.out.trans (decide_eq_true h99)
        have e2 := decide_eq_true h99
        have HE2 := hidH e2
        clear h99 e2
        go_wp2_with (first | (go_at_call 141; refine (isId_any _ _).mono ?_; rintro e w' ⟨rfl, rfl⟩))
        exact bodyPost_ret (v := .tuple #[tagV P A2 32 c2 0, .nilIface]) (by simp [results, Tryz.results123, go_sem, x0, x1, x2, tagV]) rfl (.inr ⟨HE2.out, A2, c2, rfl, Bs.setR (Bs.setR (Bs.setR HS2.out _ _ HFA.out) _ _ HFA.out) _ _ HFA.out, (bst (bst (bst HB2.out (Nat.le_succ _) _) (Nat.le_succ _) _) (Nat.le_succ _) _)⟩)
      · have e1 := HIN.out.trans (decide_eq_false h99)
        have HE2 := hidH (decide_eq_false h99)
        clear h99 y0
        go_wp2_with (first | (go_at_call 141; refine (isId_any _ _).mono ?_; rintro e w' ⟨rfl, rfl⟩))
        exact bodyPost_ret (v := .tuple #[tagV 0 none 0 0 0, errU 5]) (by simp [results, Tryz.results123, go_sem, x0, x1, x2, tagV, errU]) rfl (.inl ⟨HE2.out, rfl, (bst (bst (bst HB2.out (Nat.le_succ _) _) (Nat.le_succ _) _) (Nat.le_succ _) _)⟩)
    · have ql : ((l.length : Int) != 34) = true := by rw [bne_iff_ne]; omega
      have HF := hidH (show isTag ⟨15, 0, l⟩ = false by simp [isTag, hl])
      clear hl
      unfold RtR
      clear z0 z1 z2 x0 x1 x2 f0 f1 f2 hk1 hr1
      have K2 : Blk ((u.alloc (.cells #[.int .i64 15, .int .i64 0, .slice B l.length cB] 25)).alloc (.cells #[.int .i64 0, .slice none 0 0, .int .i64 0] 141)) u.heap.size 25 #[.int .i64 15, .int .i64 0, .slice B l.length cB] := by rw [HW1.out]; exact HK1.out
      have R2 : Blk ((u.alloc (.cells #[.int .i64 15, .int .i64 0, .slice B l.length cB] 25)).alloc (.cells #[.int .i64 0, .slice none 0 0, .int .i64 0] 141)) (u.heap.size + 1) 141 #[.int .i64 0, .slice none 0 0, .int .i64 0] := by rw [HW1.out]; exact HR1.out
      have HBB := hidH (show Below u.heap.size u ((u.alloc (.cells #[.int .i64 15, .int .i64 0, .slice B l.length cB] 25)).alloc (.cells #[.int .i64 0, .slice none 0 0, .int .i64 0] 141)) by rw [HW1.out]; exact HB1.out)
      have z1 := K2.cell 1
      have z2 := K2.cell 2
      simp only [List.getElem?_toArray, List.getElem?_cons_succ, List.getElem?_cons_zero] at z1 z2
      have hk1 := K2.lt
      have x0 := R2.cell 0
      have x1 := R2.cell 1
      have x2 := R2.cell 2
      have f0 := R2.frozen 0
      have f1 := R2.frozen 1
      have f2 := R2.frozen 2
      simp only [List.getElem?_toArray, List.getElem?_cons_succ, List.getElem?_cons_zero] at x0 x1 x2
      have hr1 := R2.lt
      clear K2 R2
      go_enter Tryz.func123, Tryz.ntmps123
      go_wp2
      exact bodyPost_ret (v := .tuple #[tagV 0 none 0 0 0, errU 5]) (by simp [results, Tryz.results123, go_sem, x0, x1, x2, tagV, errU]) rfl (.inl ⟨HF.out, rfl, HBB.out⟩)
  · have qf : (f != 0) = true := by rw [bne_iff_ne]; exact hf
    have HF := hidH (show isTag ⟨15, f, l⟩ = false by simp [isTag, hf])
    clear hf
    unfold RtR
    clear z0 z1 z2 x0 x1 x2 f0 f1 f2 hk1 hr1
    have K2 : Blk ((u.alloc (.cells #[.int .i64 15, .int .i64 f, .slice B l.length cB] 25)).alloc (.cells #[.int .i64 0, .slice none 0 0, .int .i64 0] 141)) u.heap.size 25 #[.int .i64 15, .int .i64 f, .slice B l.length cB] := by rw [HW1.out]; exact HK1.out
    have R2 : Blk ((u.alloc (.cells #[.int .i64 15, .int .i64 f, .slice B l.length cB] 25)).alloc (.cells #[.int .i64 0, .slice none 0 0, .int .i64 0] 141)) (u.heap.size + 1) 141 #[.int .i64 0, .slice none 0 0, .int .i64 0] := by rw [HW1.out]; exact HR1.out
    have HBB := hidH (show Below u.heap.size u ((u.alloc (.cells #[.int .i64 15, .int .i64 f, .slice B l.length cB] 25)).alloc (.cells #[.int .i64 0, .slice none 0 0, .int .i64 0] 141)) by rw [HW1.out]; exact HB1.out)
    have z1 := K2.cell 1
    have z2 := K2.cell 2
    simp only [List.getElem?_toArray, List.getElem?_cons_succ, List.getElem?_cons_zero] at z1 z2
    have hk1 := K2.lt
    have x0 := R2.cell 0
    have x1 := R2.cell 1
    have x2 := R2.cell 2
    have f0 := R2.frozen 0
    have f1 := R2.frozen 1
    have f2 := R2.frozen 2
    simp only [List.getElem?_toArray, List.getElem?_cons_succ, List.getElem?_cons_zero] at x0 x1 x2
    have hr1 := R2.lt
    clear K2 R2
    go_enter Tryz.func123, Tryz.ntmps123
    go_wp2
    exact bodyPost_ret (v := .tuple #[tagV 0 none 0 0 0, errU 5]) (by simp [results, Tryz.results123, go_sem, x0, x1, x2, tagV, errU]) rfl (.inl ⟨HF.out, rfl, HBB.out⟩)
end Go.Proofs.YtacdnednkglobaaGreatDoor

/- errors.As at a target of the program's own error type, a struct of one number: a nil error (false), an error of that very type (true: the target is set). After the kit's worked example on errors.As at a pointer's type. -/
namespace Go.Proofs.YtacdnednkglobaaGreatDoor
open Go.RowKit Go.Deep Go.Extern.Stop Go.Stop Go.Extern

theorem as_nil (t : Value) (w : World) :
    Calls Tryz.prog 125 #[.nilIface, t] w fun e w' => e = .returned (.bool false) ∧ w' = w := by
  go_enter Tryz.func125, Tryz.ntmps125
  go_wp2
  go_ret
  exact ⟨rfl, rfl⟩
/-- The handle of a type. -/
abbrev hdl (t : Nat) : Value := .pointer (some ⟨2, t, none⟩)
abbrev UT : Nat := 183
abbrev PT : Nat := 188
theorem as_valueOfP (t : Addr) (w : World) : (ReflectliteValue.unpack (.iface 188 (.pointer (some t)))).run Tryz.prog w
    = .ok (.agg #[.pointer (some ⟨2, 188, none⟩), .pointer (some ⟨w.heap.size, 0, none⟩), .int .u64 150]) (w.alloc (.cells #[.pointer (some t)] 188)) := by kernel_rfl
theorem as_typeP (a : Addr) (w : World) : (ReflectliteValue.methodAny (ReflectliteValue.valueError "reflectlite.Value.Type" 0) (fun t _ _ _ => ReflectliteType.toType t) #[.agg #[.pointer (some ⟨2, 188, none⟩), .pointer (some a), .int .u64 150]]).run Tryz.prog w
    = .ok (.iface 231 (.agg #[.pointer (some ⟨2, 188, none⟩)])) w := by kernel_rfl
theorem as_mKind (h : Value) (w : World) : (Go.method 213 231 (.agg #[h]) "Kind").run Tryz.prog w = .ok (208, h) w := by kernel_rfl
theorem as_kindP (w : World) : ((ReflectliteType.abiMethod fun t => (fun a : Nat => Value.int IntKind.u8 (a : Int)) <$> Rtype.kind t) #[.pointer (some ⟨2, 188, none⟩)]).run Tryz.prog w = .ok (.int .u8 22) w := by kernel_rfl
theorem as_kindU (w : World) : ((ReflectliteType.abiMethod fun t => (fun a : Nat => Value.int IntKind.u8 (a : Int)) <$> Rtype.kind t) #[.pointer (some ⟨2, 183, none⟩)]).run Tryz.prog w = .ok (.int .u8 25) w := by kernel_rfl
theorem as_rlm (z : Sem Value) (f : TypeId → Addr → Nat → Nat → Sem Value) (v : Value) :
    ReflectliteValue.method z f #[v] = (do match ← ReflectliteValue.parts v with | none => z | some (t, a, fl) => f t a fl (fl % 32)) := rfl
theorem as_partsP (a : Addr) (w : World) : (ReflectliteValue.parts (.agg #[.pointer (some ⟨2, 188, none⟩), .pointer (some a), .int .u64 150])).run Tryz.prog w = .ok (some (188, a, 150)) w := by kernel_rfl
theorem as_isNilP (a p : Addr) (W : World) (ha : W.cell? a = some (.pointer (some p))) :
    (ReflectliteValue.method (ReflectliteValue.valueError "reflectlite.Value.IsNil" 0) ReflectliteValue.isNil #[.agg #[.pointer (some ⟨2, 188, none⟩), .pointer (some a), .int .u64 150]]).run Tryz.prog W = .ok (.bool false) W := by
  rw [as_rlm]
  simp only [Sem.run_bind, as_partsP, Result.andThen]
  simp [ReflectliteValue.isNil, loadVar, isAgg, underlying, Tryz.underlying188, ha, Result.andThen]
theorem as_mElem (h : Value) (w : World) : (Go.method 213 231 (.agg #[h]) "Elem").run Tryz.prog w = .ok (240, .agg #[h]) w := by kernel_rfl
theorem as_mImpl (h : Value) (w : World) : (Go.method 213 231 (.agg #[h]) "Implements").run Tryz.prog w = .ok (241, .agg #[h]) w := by kernel_rfl
theorem as_mAssign (h : Value) (w : World) : (Go.method 213 231 (.agg #[h]) "AssignableTo").run Tryz.prog w = .ok (238, .agg #[h]) w := by kernel_rfl
theorem as_elemP (w : World) : (ReflectliteType.method ReflectliteType.elem #[.agg #[.pointer (some ⟨2, 188, none⟩)]]).run Tryz.prog w = .ok (.iface 231 (.agg #[.pointer (some ⟨2, 183, none⟩)])) w := by kernel_rfl
theorem as_implU (w : World) : (ReflectliteType.relation "Implements" ReflectliteType.implements_ #[.agg #[.pointer (some ⟨2, 183, none⟩)], .iface 231 (.agg #[.pointer (some ⟨2, 143, none⟩)])]).run Tryz.prog w = .ok (.bool true) w := by kernel_rfl
theorem as_typeOfU (v : Value) (w : World) : (ReflectliteType.typeOf #[.iface 183 v]).run Tryz.prog w = .ok (.iface 231 (.agg #[.pointer (some ⟨2, 183, none⟩)])) w := by kernel_rfl
theorem as_assignU (w : World) : (ReflectliteType.relation "AssignableTo" ReflectliteType.assignableTo #[.agg #[.pointer (some ⟨2, 183, none⟩)], .iface 231 (.agg #[.pointer (some ⟨2, 183, none⟩)])]).run Tryz.prog w = .ok (.bool true) w := by kernel_rfl
theorem as_valueOfU (c : Int) (w : World) : (ReflectliteValue.unpack (.iface 183 (.agg #[.int .i64 c]))).run Tryz.prog w
    = .ok (.agg #[.pointer (some ⟨2, 183, none⟩), .pointer (some ⟨w.heap.size, 0, none⟩), .int .u64 153]) (w.alloc (.cells #[.int .i64 c] 183)) := by kernel_rfl
theorem as_elemOfP (w : World) : (Rtype.elem? 188).run Tryz.prog w = .ok (some 183) w := by kernel_rfl
theorem as_mkU (p : Addr) (w : World) : (ReflectliteValue.mk 183 p ReflectliteValue.flagAddr).run Tryz.prog w = .ok (.agg #[.pointer (some ⟨2, 183, none⟩), .pointer (some p), .int .u64 409]) w := by kernel_rfl
theorem as_elemVP (a p : Addr) (W : World) (ha : W.cell? a = some (.pointer (some p))) :
    (ReflectliteValue.method (ReflectliteValue.valueError "reflectlite.Value.Elem" 0) ReflectliteValue.elem #[.agg #[.pointer (some ⟨2, 188, none⟩), .pointer (some a), .int .u64 150]]).run Tryz.prog W
      = .ok (.agg #[.pointer (some ⟨2, 183, none⟩), .pointer (some p), .int .u64 409]) W := by
  rw [as_rlm]
  simp only [Sem.run_bind, as_partsP, Result.andThen]
  simp [ReflectliteValue.elem, loadVar, isAgg, underlying, Tryz.underlying188, ha, Result.andThen, as_elemOfP, as_mkU]
theorem as_rls (v x : Value) : ReflectliteValue.set #[v, x] = (do
    let (some (dst, a, fl), some (src, b, _)) := (← ReflectliteValue.parts v, ← ReflectliteValue.parts x)
      | unsupported (.noEntry "extern/(internal/reflectlite.Value).Set.zeroValue")
    if fl / ReflectliteValue.flagAddr % 2 == 0 then unsupported (.noEntry "extern/(internal/reflectlite.Value).Set.unaddressable")
    let val ← loadVar src b
    if ← Rtype.directlyAssignable dst src then storeVar dst a val
    else if ← Rtype.implements dst src then
      if (← Rtype.kind src) == 20 then
        match val with
        | .nilIface => unsupported (.noEntry "extern/reflectlite: a nil value of one interface type handed on as a value of another")
        | _ => storeVar dst a val
      else storeVar dst a (.iface src val)
    else panicString ("reflectlite.Set: value of type " ++ (← Rtype.spelt src) ++ " is not assignable to type " ++ (← Rtype.spelt dst))
    pure (.tuple #[])) := rfl
theorem as_partsUa (a : Addr) (w : World) : (ReflectliteValue.parts (.agg #[.pointer (some ⟨2, 183, none⟩), .pointer (some a), .int .u64 409])).run Tryz.prog w = .ok (some (183, a, 409)) w := by kernel_rfl
theorem as_partsU (a : Addr) (w : World) : (ReflectliteValue.parts (.agg #[.pointer (some ⟨2, 183, none⟩), .pointer (some a), .int .u64 153])).run Tryz.prog w = .ok (some (183, a, 153)) w := by kernel_rfl
theorem as_directU (w : World) : (Rtype.directlyAssignable 183 183).run Tryz.prog w = .ok true w := by kernel_rfl
theorem as_sizeU (w : World) : (sizeOf 183).run Tryz.prog w = .ok 1 w := by kernel_rfl
theorem as_setU (ta b : Nat) (c : Int) (old : Value) (W : World) (hb : W.cell? ⟨b, 0, none⟩ = some (.int .i64 c)) (ht : W.cell? ⟨ta, 0, none⟩ = some old) (hf : W.frozen? ⟨ta, 0, none⟩ = false) :
    (ReflectliteValue.set #[.agg #[.pointer (some ⟨2, 183, none⟩), .pointer (some ⟨ta, 0, none⟩), .int .u64 409], .agg #[.pointer (some ⟨2, 183, none⟩), .pointer (some ⟨b, 0, none⟩), .int .u64 153]]).run Tryz.prog W
      = .ok (.tuple #[]) (W.setCell ⟨ta, 0, none⟩ (.int .i64 c)) := by
  rw [as_rls]
  have hl : (loadCells ⟨b, 0, none⟩ 1).run Tryz.prog W = .ok #[.int .i64 c] W := by
    have h := run_loadCells_list (P := Tryz.prog) (w := W) ⟨b, 0, none⟩ [.int .i64 c] (fun j v hv => by
      match j, hv with
      | 0, hv => simp at hv; subst hv; simpa [Addr.add] using hb)
    simpa using h
  simp only [Sem.run_bind, as_partsUa, as_partsU, Result.andThen]
  simp [ReflectliteValue.flagAddr, loadVar, isAgg, underlying, Tryz.underlying183, Result.andThen, as_directU, storeVar, Value.cells, storeCells, Addr.add, hl]
  rw [run_store Tryz.prog W ⟨ta, 0, none⟩ _ _ (by rfl)]
  simp [ht, hf]
end Go.Proofs.YtacdnednkglobaaGreatDoor

/- errors.As that finds its type: the target holds the error's number. -/
namespace Go.Proofs.YtacdnednkglobaaGreatDoor
open Go.RowKit Go.Deep Go.Extern.Stop Go.Stop Go.Extern

set_option maxRecDepth 100000 in
set_option maxHeartbeats 8000000 in
theorem as_hit (c old : Int) (t : Nat) (w : World) (hg : w.cell? ⟨1, 0, none⟩ = some (.iface 231 (.agg #[.pointer (some ⟨2, 143, none⟩)]))) (ht0 : Blk w t 183 #[.int .i64 old]) (h1t : 1 < t) :
    Calls Tryz.prog 125 #[.iface 183 (.agg #[.int .i64 c]), .iface 188 (.pointer (some ⟨t, 0, none⟩))] w fun ev w' => ev = .returned (.bool true) ∧ Blk w' t 183 #[.int .i64 c] ∧ Win t (t + 1) w w' := by
  have h6 := @run_callFunc_extern Tryz.prog 148 _ (fun args => ReflectliteValue.unpack (args.getD 0 (.tuple #[]))) Tryz.func148 (by kernel_rfl) (by kernel_rfl) (by kernel_rfl) (by kernel_rfl)
  have h7 := @run_callFunc_extern Tryz.prog 149 _ (ReflectliteValue.methodAny (ReflectliteValue.valueError "reflectlite.Value.Type" 0) (fun t _ _ _ => ReflectliteType.toType t)) Tryz.func149 (by kernel_rfl) (by kernel_rfl) (by kernel_rfl) (by kernel_rfl)
  have h8 := @run_callFunc_extern Tryz.prog 150 _ (ReflectliteValue.method (ReflectliteValue.valueError "reflectlite.Value.IsNil" 0) ReflectliteValue.isNil) Tryz.func150 (by kernel_rfl) (by kernel_rfl) (by kernel_rfl) (by kernel_rfl)
  have h27 := @run_callFunc_extern Tryz.prog 208 _ (ReflectliteType.abiMethod fun t => do pure (.int .u8 (← Rtype.kind t))) Tryz.func208 (by kernel_rfl) (by kernel_rfl) (by kernel_rfl) (by kernel_rfl)
  have h37 := @run_callFunc_extern Tryz.prog 240 _ (ReflectliteType.method ReflectliteType.elem) Tryz.func240 (by kernel_rfl) (by kernel_rfl) (by kernel_rfl) (by kernel_rfl)
  have h38 := @run_callFunc_extern Tryz.prog 241 _ (ReflectliteType.relation "Implements" ReflectliteType.implements_) Tryz.func241 (by kernel_rfl) (by kernel_rfl) (by kernel_rfl) (by kernel_rfl)
  have h10 := @run_callFunc_extern Tryz.prog 165 _ ReflectliteType.typeOf Tryz.func165 (by kernel_rfl) (by kernel_rfl) (by kernel_rfl) (by kernel_rfl)
  have h35 := @run_callFunc_extern Tryz.prog 238 _ (ReflectliteType.relation "AssignableTo" ReflectliteType.assignableTo) Tryz.func238 (by kernel_rfl) (by kernel_rfl) (by kernel_rfl) (by kernel_rfl)
  have h11 := @run_callFunc_extern Tryz.prog 166 _ (ReflectliteValue.method (ReflectliteValue.valueError "reflectlite.Value.Elem" 0) ReflectliteValue.elem) Tryz.func166 (by kernel_rfl) (by kernel_rfl) (by kernel_rfl) (by kernel_rfl)
  have h12 := @run_callFunc_extern Tryz.prog 167 _ ReflectliteValue.set Tryz.func167 (by kernel_rfl) (by kernel_rfl) (by kernel_rfl) (by kernel_rfl)
  have tO := as_typeOfU
  have mA := as_mAssign
  have a25 := as_assignU
  have v25 := as_valueOfU
  have f6 := as_valueOfP
  have f7 := as_typeP
  have mK := as_mKind
  have mE := as_mElem
  have mI := as_mImpl
  have k27 := as_kindP
  have k25 := as_kindU
  have e27 := as_elemP
  have i25 := as_implU
  have n8 := as_isNilP ⟨w.heap.size, 0, none⟩ ⟨t, 0, none⟩ ((w.alloc (.cells #[.pointer (some ⟨t, 0, none⟩)] 188)).alloc (.cells #[.pointer (some ⟨2, 188, none⟩), .pointer (some ⟨w.heap.size, 0, none⟩), .int .u64 150] 210)) (by simp)
  have htl := ht0.lt
  have hlt : 1 < w.heap.size := by omega
  have hg2 : ((w.alloc (.cells #[.pointer (some ⟨t, 0, none⟩)] 188)).alloc (.cells #[.pointer (some ⟨2, 188, none⟩), .pointer (some ⟨w.heap.size, 0, none⟩), .int .u64 150] 210)).cell? ⟨1, 0, none⟩ = some (.iface 231 (.agg #[.pointer (some ⟨2, 143, none⟩)])) := by
    rw [World.cell?_alloc_lt _ _ ⟨1, 0, none⟩ (by simp; omega), World.cell?_alloc_lt _ _ ⟨1, 0, none⟩ hlt]; exact hg
  have el := as_elemVP ⟨w.heap.size, 0, none⟩ ⟨t, 0, none⟩ (((w.alloc (.cells #[.pointer (some ⟨t, 0, none⟩)] 188)).alloc (.cells #[.pointer (some ⟨2, 188, none⟩), .pointer (some ⟨w.heap.size, 0, none⟩), .int .u64 150] 210)).alloc (.cells #[.pointer (some ⟨2, 188, none⟩), .pointer (some ⟨w.heap.size, 0, none⟩), .int .u64 150] 210)) (by rw [World.cell?_alloc_lt _ _ ⟨w.heap.size, 0, none⟩ (by simp; omega)]; simp)
  have k0 := ((((ht0.alloc (.cells #[.pointer (some ⟨t, 0, none⟩)] 188)).alloc (.cells #[.pointer (some ⟨2, 188, none⟩), .pointer (some ⟨w.heap.size, 0, none⟩), .int .u64 150] 210)).alloc (.cells #[.pointer (some ⟨2, 188, none⟩), .pointer (some ⟨w.heap.size, 0, none⟩), .int .u64 150] 210)).alloc (.cells #[.int .i64 c] 183))
  have st := as_setU t (w.heap.size + 1 + 1 + 1) c (.int .i64 old) ((((w.alloc (.cells #[.pointer (some ⟨t, 0, none⟩)] 188)).alloc (.cells #[.pointer (some ⟨2, 188, none⟩), .pointer (some ⟨w.heap.size, 0, none⟩), .int .u64 150] 210)).alloc (.cells #[.pointer (some ⟨2, 188, none⟩), .pointer (some ⟨w.heap.size, 0, none⟩), .int .u64 150] 210)).alloc (.cells #[.int .i64 c] 183))
    (by rw [World.cell?_alloc_at _ _ _ _ (by simp)]; rfl)
    (by rw [k0.cell]; rfl)
    (k0.frozen 0)
  have HB := hidH (bal (bal (bal (bal (Below.refl w.heap.size w) (.cells #[.pointer (some ⟨t, 0, none⟩)] 188)) (.cells #[.pointer (some ⟨2, 188, none⟩), .pointer (some ⟨w.heap.size, 0, none⟩), .int .u64 150] 210)) (.cells #[.pointer (some ⟨2, 188, none⟩), .pointer (some ⟨w.heap.size, 0, none⟩), .int .u64 150] 210)) (.cells #[.int .i64 c] 183))
  have HK := hidH k0
  clear k0 ht0
  go_enter Tryz.func125, Tryz.ntmps125
  go_wp2
  refine wp_loop_rounds 1 ?_
  rw [rounds_succ]
  go_wp2
  go_ret
  exact ⟨rfl, HK.out.put 0 (.int .i64 c), (Win.of_below HB.out).trans (set_win _ t 0 (.int .i64 c))⟩
end Go.Proofs.YtacdnednkglobaaGreatDoor

/- Chapter 7: the program's findTag, authResult, FindAuth. -/
namespace Go.Proofs.YtacdnednkglobaaGreatDoor
open Go.RowKit Go.Deep

theorem chunk_y {w : World} {r : List ChunkM} {v : Value} (h : Rd w (st_Chunk r) v) {j : Nat} (hj : j < r.length) :
    ∃ k f l g o c A cA, r[j]? = some ⟨k, f, l⟩ ∧ v = .slice (some ⟨g, o, none⟩) r.length c ∧ CkB w g (o + j * 3) k f A l cA ∧ Caps l.length cA := by
  obtain ⟨gb, ob, cb, eb, hgb, RB⟩ := Rd.row (f := ChunkM.vs) (W := 3) (fun _ => rfl) h hj
  obtain ⟨u0, p0, t0⟩ := RB 0 (.int r[j].Kind) rfl
  obtain ⟨u1, p1, t1⟩ := RB 1 (.int r[j].Flags) rfl
  obtain ⟨u2, p2, t2⟩ := RB 2 (.bs r[j].Body) rfl
  have e0 := t0.int_out
  subst e0
  have e1 := t1.int_out
  subst e1
  rw [Nat.add_zero] at p0
  obtain ⟨A, cA, e2, hc, hb⟩ := t2.bs_out
  subst e2
  exact ⟨_, _, _, gb, ob, cb, A, cA, List.getElem?_eq_getElem hj, eb, ⟨hgb, p0, p1, p2, hb⟩, hc⟩
def FtR (r : List ChunkM) (u : World) (e : Ending) (w' : World) : Prop :=
  (((faR r).Code ≠ 0 ∧ ∃ id A n c fr, e = .returned (.tuple #[tagV id A n c fr, errU (faR r).Code])) ∨
   ((faR r).Code = 0 ∧ ∃ (A : Option Addr) (c j : Nat) (f : Int) (l : List Int), e = .returned (.tuple #[tagV (faR r).KeyId A 32 c (faR r).From, .nilIface]) ∧ r[j]? = some ⟨15, f, l⟩ ∧ (faR r).From = (j : Int) + 1 ∧ (l.drop 2).length = 32 ∧ Bs w' A (l.drop 2))) ∧ Below u.heap.size u w'
set_option maxRecDepth 100000 in
set_option maxHeartbeats 4000000 in
theorem findTag_any (r : List ChunkM) (v : Value) (u : World) (ty : TypeId) (pv : Value) (hE : u.cell? ⟨0, 0, none⟩ = some (.iface ty pv)) (h : Rd u (st_Chunk r) v) (hcb : ∀ x ∈ r, Bytes x.Body) : Calls Tryz.prog 85 #[v] u (FtR r u) := by
  have h0lt := World.block_lt_of_cell? _ _ hE
  have R0 := Blk.new u 141 #[.int .i64 0, .slice none 0 0, .int .i64 0]
  have b0 := bal (Below.refl u.heap.size u) (.cells #[.int .i64 0, .slice none 0 0, .int .i64 0] 141)
  obtain ⟨w0, hw0⟩ : ∃ w0, u.alloc (.cells #[.int .i64 0, .slice none 0 0, .int .i64 0] 141) = w0 := ⟨_, rfl⟩
  rw [hw0] at R0 b0
  have HI := hidH (fun (w : World) (hb : Below u.heap.size u w) => Rd.below hb _ h)
  have HE := hidH (fun (w : World) (hb : Below u.heap.size u w) => (hb.cell (p := ⟨0, 0, none⟩) h0lt).trans hE)
  have HW := hidH hw0
  have HR := hidH R0
  have HB := hidH b0
  have HCB := hidH hcb
  have HCF := hidH (chunksFault_any r v 8 w0 (HI.out _ b0) (by omega))
  have HIX := hidH (fun (w : World) (hb : Below u.heap.size u w) (hn : r.length ≤ 8) => idx_any r v w (HI.out w hb) hn)
  obtain ⟨AR, cr, rfl⟩ := st_Chunk_sh h
  clear hw0 R0 b0 h hcb h0lt hE
  obtain ⟨F, hF⟩ : ∃ F, csF 8 r = F := ⟨_, rfl⟩
  rw [hF] at HCF
  go_enter Tryz.func85, Tryz.ntmps85
  go_wp2_with fail
  rw [HW.out]
  refine HCF.out.mono ?_
  rintro e w1 ⟨rfl, b1⟩
  have HB1 := hidH (btr HB.out b1)
  have HR1 := hidH (HR.out.below b1)
  clear b1 HCF
  by_cases hz : F = 0
  · have q : (F != 0) = false := by rw [bne_eq_false_iff_eq]; exact hz
    have HM := hidH (show faR r = faL r 0 by rw [faR, if_pos (hF.trans hz)])
    have HN := hidH (csF_zero (hF.trans hz)).1
    have hnI : (r.length : Int) ≤ 8 := by have := HN.out; omega
    clear hz hF
    go_wp2_with fail
    refine (HIX.out _ HB1.out HN.out).mono ?_
    rintro e w2 ⟨n, rfl, hidx, b2⟩
    have HB2 := hidH (btr HB1.out b2)
    have HR2 := hidH (HR1.out.below b2)
    clear b2
    rcases hidx with ⟨rfl, hno⟩ | ⟨j, f, l, rfl, hx, hk⟩
    · have HF := hidH (show (faR r).Code = 4 by rw [HM.out, faL_none hno])
      have x0 := HR2.out.cell 0
      have x1 := HR2.out.cell 1
      have x2 := HR2.out.cell 2
      have f0 := HR2.out.frozen 0
      have f1 := HR2.out.frozen 1
      have f2 := HR2.out.frozen 2
      simp only [List.getElem?_toArray, List.getElem?_cons_succ, List.getElem?_cons_zero] at x0 x1 x2
      have hrl := HR2.out.lt
      clear hno
      go_wp2
      exact bodyPost_ret (v := .tuple #[tagV 0 none 0 0 0, errU 4]) (by simp [results, Tryz.results85, go_sem, x0, x1, x2, tagV, errU]) rfl ⟨.inl ⟨by rw [HF.out]; omega, 0, none, 0, 0, 0, by rw [HF.out]⟩, bst (bst (bst HB2.out (Nat.le_refl _) _) (Nat.le_refl _) _) (Nat.le_refl _) _⟩
    · have hj : j < r.length := (List.getElem?_eq_some_iff.1 hx).1
      obtain ⟨k', f', l', g, o, c', B, cB, hx', e, CK, hcp⟩ := chunk_y (HI.out _ HB2.out) hj
      rw [hx] at hx'
      injection hx' with hx'
      injection hx' with q1 q2 q3
      subst q1 q2 q3
      injection e with e1 e2 e3
      subst e1 e3
      have hj0 : (0 : Int) ≤ (j : Int) := by omega
      have hj1 : (j : Int) < (r.length : Int) := by omega
      have p0 := CK.c0
      have p1 := CK.c1
      have p2 := CK.c2
      have hg := CK.lt
      have HRT := hidH (readTag_any f B l cB w2 ty pv (HE.out _ HB2.out) CK.body (HCB.out _ (List.mem_of_getElem? hx)) hcp.1 hcp.2)
      have HHIT := hidH (HM.out.trans (faL_hit hk hx rfl))
      have HX := hidH hx
      unfold RtR at HRT
      have hdl : isTag ⟨15, f, l⟩ = true → (l.drop 2).length = 32 := fun q => by have := (isTag_out q).2.1; simp at this ⊢; omega
      have HDL := hidH hdl
      clear CK hx hk hcp hdl hj
      go_wp2_with fail
      refine HRT.out.mono ?_
      rintro e w3 (⟨hno, rfl, b3⟩ | ⟨hyes, A3, c3, rfl, s3, b3⟩)
      · have HF := hidH (show (faR r).Code = 5 by have := HHIT.out; rw [hno] at this; rw [this]; rfl)
        have ba := bal (Below.refl w3.heap.size w3) (.cells #[.int .i64 0, .slice none 0 0, .int .i64 ((j : Int) + 1)] 141)
        have HB4 := hidH (btr (btr HB2.out b3) ba)
        have R4 := (HR2.out.below b3).below ba
        have x0 := R4.cell 0
        have x1 := R4.cell 1
        have x2 := R4.cell 2
        have f0 := R4.frozen 0
        have f1 := R4.frozen 1
        have f2 := R4.frozen 2
        simp only [List.getElem?_toArray, List.getElem?_cons_succ, List.getElem?_cons_zero] at x0 x1 x2
        have hrl := R4.lt
        clear b3 ba R4 HRT hno p0 p1 p2
        unfold tagV errU
        go_wp2
        exact bodyPost_ret (v := .tuple #[tagV 0 none 0 0 ((j : Int) + 1), errU 5]) (by simp [results, Tryz.results85, go_sem, x0, x1, x2, tagV, errU]) rfl ⟨.inl ⟨by rw [HF.out]; omega, 0, none, 0, 0, _, by rw [HF.out]⟩, bst (bst (bst HB4.out (Nat.le_refl _) _) (Nat.le_refl _) _) (Nat.le_refl _) _⟩
      · have HF := hidH (show faR r = ⟨0, pairAt l 0, (j : Int) + 1⟩ by have := HHIT.out; rw [hyes] at this; exact this)
        obtain ⟨P, hP⟩ : ∃ P, pairAt l 0 = P := ⟨_, rfl⟩
        rw [hP] at HF ⊢
        have ba := bal (Below.refl w3.heap.size w3) (.cells #[.int .i64 P, .slice A3 32 c3, .int .i64 ((j : Int) + 1)] 141)
        have HB4 := hidH (btr (btr HB2.out b3) ba)
        have R4 := (HR2.out.below b3).below ba
        have HS4 := hidH (bs_below s3 ba)
        have HD := hidH (HDL.out hyes)
        have HFA := hidH (bs_far HS4.out (by rw [HD.out]; omega) R4 (fun v hv x => by
          simp only [List.mem_toArray, List.mem_cons, List.not_mem_nil, or_false] at hv
          rcases hv with rfl | rfl | rfl <;> exact fun q => by cases q))
        have x0 := R4.cell 0
        have x1 := R4.cell 1
        have x2 := R4.cell 2
        have f0 := R4.frozen 0
        have f1 := R4.frozen 1
        have f2 := R4.frozen 2
        simp only [List.getElem?_toArray, List.getElem?_cons_succ, List.getElem?_cons_zero] at x0 x1 x2
        have hrl := R4.lt
        clear b3 ba R4 HRT hyes p0 p1 p2 s3 hP
        unfold tagV
        go_wp2
        exact bodyPost_ret (v := .tuple #[tagV P A3 32 c3 ((j : Int) + 1), .nilIface]) (by simp [results, Tryz.results85, go_sem, x0, x1, x2, tagV]) rfl ⟨.inr ⟨by rw [HF.out], A3, c3, j, f, l, by rw [HF.out], HX.out, by rw [HF.out], HD.out, Bs.setR (Bs.setR (Bs.setR HS4.out _ _ HFA.out) _ _ HFA.out) _ _ HFA.out⟩, bst (bst (bst HB4.out (Nat.le_refl _) _) (Nat.le_refl _) _) (Nat.le_refl _) _⟩
  · have q : (F != 0) = true := by rw [bne_iff_ne]; exact hz
    have HM := hidH (show (faR r).Code = F by rw [faR, if_neg (by rw [hF]; exact hz), hF])
    have HZ := hidH hz
    have x0 := HR1.out.cell 0
    have x1 := HR1.out.cell 1
    have x2 := HR1.out.cell 2
    have f0 := HR1.out.frozen 0
    have f1 := HR1.out.frozen 1
    have f2 := HR1.out.frozen 2
    simp only [List.getElem?_toArray, List.getElem?_cons_succ, List.getElem?_cons_zero] at x0 x1 x2
    have hrl := HR1.out.lt
    clear hz hF
    go_wp2
    exact bodyPost_ret (v := .tuple #[tagV 0 none 0 0 0, errU F]) (by simp [results, Tryz.results85, go_sem, x0, x1, x2, tagV, errU]) rfl ⟨.inl ⟨by rw [HM.out]; exact HZ.out, 0, none, 0, 0, 0, by rw [HM.out]⟩, bst (bst (bst HB1.out (Nat.le_refl _) _) (Nat.le_refl _) _) (Nat.le_refl _) _⟩
end Go.Proofs.YtacdnednkglobaaGreatDoor
