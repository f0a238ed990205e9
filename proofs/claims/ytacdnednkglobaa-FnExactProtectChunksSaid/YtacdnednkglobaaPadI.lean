/- The program's PadMessage. -/
import Derived.Test.YtacdnednkglobaaArr
import Derived.Test.YtacdnednkglobaaMa5
import Derived.Test.YtacdnednkglobaaBrL
namespace Go.Proofs.Ytacdnednkglobaa
open Go.RowKit Go.Deep

/-- The number of bits as it is written, k bytes of it. -/
def byteK (n : Int) (k : Nat) : Int := n / 2 ^ (8 * k) % 256
def tailK (n : Int) (k : Nat) : List Int := (List.range 8).map fun j => if 8 ≤ j + k then byteK n (7 - j) else 0
def padS (l : List Int) (n : Int) (z k : Nat) : List Int := padTo l z ++ tailK n k
theorem tailK_len (n : Int) (k : Nat) : (tailK n k).length = 8 := by simp [tailK]
theorem padS_len (l : List Int) (n : Int) (z k : Nat) : (padS l n z k).length = l.length + 9 + z := by simp [padS, padTo_len, tailK_len]; omega
theorem tailK_succ (n : Int) (k : Nat) (hk : k < 8) : (tailK n k).set (7 - k) (byteK n k) = tailK n (k + 1) := by
  apply List.ext_getElem
  · simp [tailK_len]
  · intro j h1 h2
    have hj : j < 8 := by simpa [tailK_len] using h2
    rw [List.getElem_set]
    simp only [tailK, List.getElem_map, List.getElem_range]
    split
    · next h => rw [if_pos (by omega), show 7 - j = k from by omega]
    · next h =>
      by_cases hh : 8 ≤ j + k
      · rw [if_pos hh, if_pos (by omega)]
      · rw [if_neg hh, if_neg (by omega)]
theorem padS_succ (l : List Int) (n : Int) (z k : Nat) (hk : k < 8) : (padS l n z k).set ((padS l n z k).length - 1 - k) (byteK n k) = padS l n z (k + 1) := by
  rw [padS_len, padS, List.set_append_right _ _ (by rw [padTo_len]; omega), padTo_len, show l.length + 9 + z - 1 - k - (l.length + 1 + z) = 7 - k from by omega, tailK_succ n k hk, padS]
theorem padS_zero (l : List Int) (n : Int) (z : Nat) : padS l n z 0 = (l ++ List.replicate (9 + z) 0).set l.length 128 := by
  have : tailK n 0 = List.replicate 8 0 := rfl
  rw [padS, this, padTo, List.set_append_right _ _ (by omega), Nat.sub_self, show 9 + z = (z + 8) + 1 from by omega, List.replicate_succ (n := z + 8), List.set_cons_zero, ← List.replicate_append_replicate]
  simp
theorem padS_end (l : List Int) (hl : l.length ≤ 700) : padS l (8 * (l.length : Int)) (zerosN l.length) 8 = padL l := by
  have : tailK (8 * (l.length : Int)) 8 = [0, 0, 0, 0] ++ pk (8 * (l.length : Int)) := by
    simp [tailK, List.range_succ, byteK, pk]
    omega
  rw [padS, padL, this, List.append_assoc]
set_option maxHeartbeats 1000000 in
theorem psize_any (n : Nat) (w : World) (hn : (n : Int) ≤ 50000) : Calls Try.prog 83 #[.int .i64 n] w fun e w' => e = .returned (.int .i64 ((n + 9 + zerosN n : Nat) : Int)) ∧ w = w' := by
  go_enter Try.func83, Try.ntmps83
  go_wp2
  go_ret
  refine ⟨ret_int ?_, rfl⟩
  unfold zerosN
  omega
theorem info22 : Try.prog.underlying 25 = some (.slice 5) := by kernel_rfl
set_option maxRecDepth 100000 in
set_option maxHeartbeats 2000000 in
theorem padm_impl (A : Option Addr) (l : List Int) (c : Nat) (w : World) (hA : Bs w A l) (hm : (l.length : Int) ≤ 9223372036854775807) :
    Calls Try.prog 75 #[.slice A l.length c] w (BRes w (padC l) (padM l)) := by
  by_cases h : l.length ≤ 700
  · rw [padC, padM, if_pos h, if_pos h]
    have h1 : (l.length : Int) ≤ 700 := by omega
    have H := hidH h
    obtain ⟨i0, hi, hz0, hz1, hz2⟩ := info_parts (infoU8)
    have HI := hidH (And.intro hi (And.intro hz0 (And.intro hz1 hz2)))
    clear hi hz0 hz1 hz2
    obtain ⟨X1, hX1⟩ : ∃ X1, X1 = l.map (Value.int .u8) := ⟨_, rfl⟩
    have HX := hidH hX1
    clear hX1 h
    have hA2 := hidH (bs_below hA (bal (Below.refl _ w) (.cells #[.int .i64 0, .slice none 0 0] 27)))
    clear hA
    obtain ⟨N, hN⟩ : ∃ N, l.length + 9 + zerosN l.length = N := ⟨_, rfl⟩
    have hN2 : N ≤ 800 := by rw [← hN]; unfold zerosN; omega
    have HN := hidH hN
    clear hN
    go_enter Try.func75, Try.ntmps75
    go_wp2_with fail
    refine (psize_any l.length _ (by omega)).mono ?_
    rintro e w' ⟨rfl, rfl⟩
    rw [HN.out]
    go_wp2_with (first | (refine wpList_make_full _ rfl _ _ _ rfl w.heap.size 5 i0 _ 1 info22 HI.out.1 HI.out.2.1 HI.out.2.2.1 .i64 .i64 _ _ N rfl rfl rfl rfl (by rw [HI.out.2.2.2]; omega) (by unfold maxLen; omega) (by simp) ?_; intro w1 o1 g1; simp only [World.size_alloc] at o1; have R1 := hidH (Brow.of_own o1 rfl (made_u8 N)); have B1 := hidH ((bal (Below.refl w.heap.size w) (.cells #[.int .i64 0, .slice none 0 0] 27)).grown g1 (by simp) (fun k hk => by cases hk)); have S1 := hidH ((bs_below hA2.out ((Below.refl _ _).grown g1 (Nat.le_refl _) (fun k hk => by cases hk)))); have T1 := hidH ((Blk.new w 27 #[.int .i64 0, .slice none 0 0]).below ((Below.refl _ _).grown g1 (Nat.le_refl _) (fun k hk => by cases hk))); clear o1 g1))
    obtain ⟨w2, hr, h2, b2⟩ := run_copy_b (T := 3) (c := c) R1.out (N := N) (by simp) (by have := HN.out; omega) S1.out
    rw [hr]
    have R2 := hidH h2
    have T2 := hidH ((b2.block _ (Nat.lt_succ_self _)).trans T1.out)
    have B2 := hidH (B1.out.trans (b2.mono (by omega)))
    have hlen : l.length < N := by have := HN.out; omega
    have hlenI : (l.length : Int) < (N : Int) := by omega
    have c1 := R2.out.cell l.length (by have := HN.out; simp; omega)
    have f1 := R2.out.frozen l.length
    clear h2 b2 R1 B1 S1 T1 hr
    go_wp2
    have R3 := hidH (R2.out.set l.length 128)
    have T3 := hidH ((heap_setCell_other w2 ⟨w.heap.size + 1, l.length, none⟩ w.heap.size (.int .u8 128) (by simp)).trans T2.out)
    have B3 := hidH (bst B2.out (show w.heap.size ≤ (⟨w.heap.size + 1, l.length, none⟩ : Addr).block from Nat.le_succ _) (.int .u8 128))
    go_loopw [25] (fun i wr => ∃ k : Nat, k ≤ 8 ∧ i = .int .i64 k ∧ Brow wr (w.heap.size + 1) (padS l ((l.length : Int) * 8) (zerosN l.length) k) ∧ wr.heap[w.heap.size]? = some (.cells #[.int .i64 0, .slice none 0 0] 27 (0, 0)) ∧ Below w.heap.size w wr) (fun i _ => 8 - (intOf i).toNat)
    case atStart => exact ⟨0, by omega, rfl, by rw [padS_zero]; have := R3.out; rwa [List.drop_replicate, show N - l.length = 9 + zerosN l.length from by have := HN.out; omega] at this, T3.out, B3.out⟩
    case round =>
      obtain ⟨k, hk, rfl, hR, hT, hB⟩ := hrel
      have hP := padS_len l ((l.length : Int) * 8) (zerosN l.length) k
      rw [HN.out] at hP
      by_cases hlt : k < 8
      · have hlt2 : (k : Int) < 8 := by omega
        have hlt0 : (0 : Int) ≤ (k : Int) := by omega
        obtain ⟨J, hJ⟩ : ∃ J : Nat, N - 1 - k = J := ⟨_, rfl⟩
        have hN9 : l.length + 9 ≤ N := by have := HN.out; omega
        have hJI : (N : Int) - 1 - (k : Int) = (J : Int) := by omega
        have hJN : (J : Int) < (N : Int) := by omega
        have c1 := hR.cell J (by omega)
        have f1 := Blk.frozen hR J
        have hn : (0 : Int) ≤ (l.length : Int) * 8 := by omega
        have hn2 : (l.length : Int) * 8 ≤ 5600 := by omega
        have hs := padS_succ l ((l.length : Int) * 8) (zerosN l.length) k hlt
        rw [hP, hJ] at hs
        have HS := hidH hs
        have HR := hidH hR
        have HT := hidH hT
        have HB := hidH hB
        clear hs hR hT hB hP hJ
        go_wp2
        go_round
        case rel =>
          have h2 := Brow.set HR.out J ((l.length : Int) * 8 / 2 ^ (8 * k) % 256)
          refine ⟨k + 1, by omega, by go_num, ?_, (heap_setCell_other wr ⟨w.heap.size + 1, J, none⟩ w.heap.size _ (by simp)).trans HT.out, bst HB.out (Nat.le_succ _) _⟩
          rw [← HS.out]
          exact h2
        case measure => simp [intOf]; omega
      · obtain rfl : k = 8 := by omega
        have HR := hidH hR
        have HB := hidH hB
        have X : Blk wr w.heap.size 27 #[.int .i64 0, .slice none 0 0] := hT
        obtain ⟨x0, x1, xz⟩ := X.two
        have f0 := X.frozen 0
        have f1 := X.frozen 1
        have HN2 := hidH (show (padL l).length = N by rw [padL_len, HN.out])
        clear hR hT hB X hP hlt
        go_wp2
        exact bodyPost_ret (v := .agg #[.int .i64 0, .slice (some ⟨w.heap.size + 1, 0, none⟩) N N]) (by simp [results, Try.results75, go_sem, x0, x1]) rfl (by
          have e : padS l ((l.length : Int) * 8) (zerosN l.length) 8 = padL l := by rw [Int.mul_comm]; exact padS_end l H.out
          have := HR.out
          rw [e] at this
          have r := bres_set 0 (this.ob (Nat.le_refl _)) HB.out (cp := N) (by rw [HN2.out]; exact Nat.le_refl _) (by omega) (.int .i64 0) (.slice (some ⟨w.heap.size + 1, 0, none⟩) N N)
          rw [HN2.out] at r
          exact r)
  · rw [padC, padM, if_neg h, if_neg h]
    have h1 : (700 : Int) < (l.length : Int) := by omega
    clear h hA
    go_enter Try.func75, Try.ntmps75
    go_wp2
    exact bodyPost_ret (v := .agg #[.int .i64 2, .slice none 0 0]) (by simp [results, Try.results75, go_sem]) rfl ⟨_, _, rfl, .inl rfl, bal (Below.refl _ _) _, Nat.le_refl _, by omega⟩
end Go.Proofs.Ytacdnednkglobaa
