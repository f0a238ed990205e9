import Derived.Test.YtncnibkojneejaaGreatDoorJb4
import Derived.Test.YtncnibkojneejaaGreatDoorJa6
import Derived.Test.YtncnibkojneejaaGreatDoorJb2
import Derived.Deep.MidRow

/- The program's PadMessage. -/
namespace Go.Proofs.YtncnibkojneejaaGreatDoor
open Go.RowKit Go.Deep

/-- The number of bits as it is written, k bytes of it. -/
def byteK (n : Int) (k : Nat) : Int := n / 2 ^ (8 * k) % 256
def tailK (n : Int) (k : Nat) : List Int := (List.range 8).map fun j => if 8 ≤ j + k then byteK n (7 - j) else 0
def padS (l : List Int) (n : Int) (z k : Nat) : List Int := padTo l z ++ tailK n k
theorem tailK_len (n : Int) (k : Nat) : (tailK n k).length = 8 := by simp [tailK]
theorem padS_len (l : List Int) (n : Int) (z k : Nat) : (padS l n z k).length = l.length + 9 + z := by simp [padS, padTo_len, tailK_len]; omega
theorem tailK_succ (n : Int) (k : Nat) (hk : k < 8) : (tailK n k).set (7 - k) (byteK n k) = tailK n (k + 1) := by
  apply List.ext_getElem
  · simp [tailK_len]
  · intro j h1 h2
    have hj : j < 8 := by simpa [tailK_len] using h2
    rw [List.getElem_set]
    simp only [tailK, List.getElem_map, List.getElem_range]
    split
    · next h => rw [if_pos (by omega), show 7 - j = k from by omega]
    · next h =>
      by_cases hh : 8 ≤ j + k
      · rw [if_pos hh, if_pos (by omega)]
      · rw [if_neg hh, if_neg (by omega)]
theorem padS_succ (l : List Int) (n : Int) (z k : Nat) (hk : k < 8) : (padS l n z k).set ((padS l n z k).length - 1 - k) (byteK n k) = padS l n z (k + 1) := by
  rw [padS_len, padS, List.set_append_right _ _ (by rw [padTo_len]; omega), padTo_len, show l.length + 9 + z - 1 - k - (l.length + 1 + z) = 7 - k from by omega, tailK_succ n k hk, padS]
theorem padS_zero (l : List Int) (n : Int) (z : Nat) : padS l n z 0 = (l ++ List.replicate (9 + z) 0).set l.length 128 := by
  have : tailK n 0 = List.replicate 8 0 := rfl
  rw [padS, this, padTo, List.set_append_right _ _ (by omega), Nat.sub_self, show 9 + z = (z + 8) + 1 from by omega, List.replicate_succ (n := z + 8), List.set_cons_zero, ← List.replicate_append_replicate]
  simp
theorem padS_end (l : List Int) (hl : l.length ≤ 700) : padS l (8 * (l.length : Int)) (zerosN l.length) 8 = padL l := by
  have : tailK (8 * (l.length : Int)) 8 = [0, 0, 0, 0] ++ pk (8 * (l.length : Int)) := by
    simp [tailK, List.range_succ, byteK, pk]
    omega
  rw [padS, padL, this, List.append_assoc]
set_option maxHeartbeats 1000000 in
theorem psize_any (n : Nat) (w : World) (hn : (n : Int) ≤ 50000) : Calls Tryz.prog 102 #[.int .i64 n] w fun e w' => e = .returned (.int .i64 ((n + 9 + zerosN n : Nat) : Int)) ∧ w = w' := by
  go_enter Tryz.func102, Tryz.ntmps102
  go_wp2
  go_ret
  refine ⟨ret_int ?_, rfl⟩
  unfold zerosN
  omega
theorem info22 : Tryz.prog.underlying 22 = some (.slice 5) := by kernel_rfl
set_option maxRecDepth 100000 in
set_option maxHeartbeats 2000000 in
theorem padm_impl (A : Option Addr) (l : List Int) (c : Nat) (w : World) (hA : Bs w A l) (hm : (l.length : Int) ≤ 9223372036854775807) :
    Calls Tryz.prog 93 #[.slice A l.length c] w (BRes w (padC l) (padM l)) := by
  by_cases h : l.length ≤ 700
  · rw [padC, padM, if_pos h, if_pos h]
    have h1 : (l.length : Int) ≤ 700 := by omega
    have H := hidH h
    obtain ⟨i0, hi, hz0, hz1, hz2⟩ := info_parts (infoU8)
    have HI := hidH (And.intro hi (And.intro hz0 (And.intro hz1 hz2)))
    clear hi hz0 hz1 hz2
    obtain ⟨X1, hX1⟩ : ∃ X1, X1 = l.map (Value.int .u8) := ⟨_, rfl⟩
    have HX := hidH hX1
    clear hX1 h
    have hA2 := hidH (bs_below hA (bal (Below.refl _ w) (.cells #[.int .i64 0, .slice none 0 0] 48)))
    clear hA
    obtain ⟨N, hN⟩ : ∃ N, l.length + 9 + zerosN l.length = N := ⟨_, rfl⟩
    have hN2 : N ≤ 800 := by rw [← hN]; unfold zerosN; omega
    have HN := hidH hN
    clear hN
    go_enter Tryz.func93, Tryz.ntmps93
    go_wp2_with fail
    refine (psize_any l.length _ (by omega)).mono ?_
    rintro e w' ⟨rfl, rfl⟩
    rw [HN.out]
    go_wp2_with (first | (refine wpList_make_full _ rfl _ _ _ rfl w.heap.size 5 i0 _ 1 info22 HI.out.1 HI.out.2.1 HI.out.2.2.1 .i64 .i64 _ _ N rfl rfl rfl rfl (by rw [HI.out.2.2.2]; omega) (by unfold maxLen; omega) (by simp) ?_; intro w1 o1 g1; simp only [World.size_alloc] at o1; have R1 := hidH (Brow.of_own o1 rfl (made_u8 N)); have B1 := hidH ((bal (Below.refl w.heap.size w) (.cells #[.int .i64 0, .slice none 0 0] 48)).grown g1 (by simp) (fun k hk => by cases hk)); have S1 := hidH ((bs_below hA2.out ((Below.refl _ _).grown g1 (Nat.le_refl _) (fun k hk => by cases hk)))); have T1 := hidH ((Blk.new w 48 #[.int .i64 0, .slice none 0 0]).below ((Below.refl _ _).grown g1 (Nat.le_refl _) (fun k hk => by cases hk))); clear o1 g1))
    obtain ⟨w2, hr, h2, b2⟩ := run_copy_b (T := 3) (c := c) R1.out (N := N) (by simp) (by have := HN.out; omega) S1.out
    rw [hr]
    have R2 := hidH h2
    have T2 := hidH ((b2.block _ (Nat.lt_succ_self _)).trans T1.out)
    have B2 := hidH (B1.out.trans (b2.mono (by omega)))
    have hlen : l.length < N := by have := HN.out; omega
    have hlenI : (l.length : Int) < (N : Int) := by omega
    have c1 := R2.out.cell l.length (by have := HN.out; simp; omega)
    have f1 := R2.out.frozen l.length
    clear h2 b2 R1 B1 S1 T1 hr
    go_wp2
    have R3 := hidH (R2.out.set l.length 128)
    have T3 := hidH ((heap_setCell_other w2 ⟨w.heap.size + 1, l.length, none⟩ w.heap.size (.int .u8 128) (by simp)).trans T2.out)
    have B3 := hidH (bst B2.out (show w.heap.size ≤ (⟨w.heap.size + 1, l.length, none⟩ : Addr).block from Nat.le_succ _) (.int .u8 128))
    go_loopw [25] (fun i wr => ∃ k : Nat, k ≤ 8 ∧ i = .int .i64 k ∧ Brow wr (w.heap.size + 1) (padS l ((l.length : Int) * 8) (zerosN l.length) k) ∧ wr.heap[w.heap.size]? = some (.cells #[.int .i64 0, .slice none 0 0] 48 (0, 0)) ∧ Below w.heap.size w wr) (fun i _ => 8 - (intOf i).toNat)
    case atStart => exact ⟨0, by omega, rfl, by rw [padS_zero]; have := R3.out; rwa [List.drop_replicate, show N - l.length = 9 + zerosN l.length from by have := HN.out; omega] at this, T3.out, B3.out⟩
    case round =>
      obtain ⟨k, hk, rfl, hR, hT, hB⟩ := hrel
      have hP := padS_len l ((l.length : Int) * 8) (zerosN l.length) k
      rw [HN.out] at hP
      by_cases hlt : k < 8
      · have hlt2 : (k : Int) < 8 := by omega
        have hlt0 : (0 : Int) ≤ (k : Int) := by omega
        obtain ⟨J, hJ⟩ : ∃ J : Nat, N - 1 - k = J := ⟨_, rfl⟩
        have hN9 : l.length + 9 ≤ N := by have := HN.out; omega
        have hJI : (N : Int) - 1 - (k : Int) = (J : Int) := by omega
        have hJN : (J : Int) < (N : Int) := by omega
        have c1 := hR.cell J (by omega)
        have f1 := Blk.frozen hR J
        have hn : (0 : Int) ≤ (l.length : Int) * 8 := by omega
        have hn2 : (l.length : Int) * 8 ≤ 5600 := by omega
        have hs := padS_succ l ((l.length : Int) * 8) (zerosN l.length) k hlt
        rw [hP, hJ] at hs
        have HS := hidH hs
        have HR := hidH hR
        have HT := hidH hT
        have HB := hidH hB
        clear hs hR hT hB hP hJ
        go_wp2
        go_round
        case rel =>
          have h2 := Brow.set HR.out J ((l.length : Int) * 8 / 2 ^ (8 * k) % 256)
          refine ⟨k + 1, by omega, by go_num, ?_, (heap_setCell_other wr ⟨w.heap.size + 1, J, none⟩ w.heap.size _ (by simp)).trans HT.out, bst HB.out (Nat.le_succ _) _⟩
          rw [← HS.out]
          exact h2
        case measure => simp [intOf]; omega
      · obtain rfl : k = 8 := by omega
        have HR := hidH hR
        have HB := hidH hB
        have X : Blk wr w.heap.size 48 #[.int .i64 0, .slice none 0 0] := hT
        obtain ⟨x0, x1, xz⟩ := X.two
        have f0 := X.frozen 0
        have f1 := X.frozen 1
        have HN2 := hidH (show (padL l).length = N by rw [padL_len, HN.out])
        clear hR hT hB X hP hlt
        go_wp2
        exact bodyPost_ret (v := .agg #[.int .i64 0, .slice (some ⟨w.heap.size + 1, 0, none⟩) N N]) (by simp [results, Tryz.results93, go_sem, x0, x1]) rfl (by
          have e : padS l ((l.length : Int) * 8) (zerosN l.length) 8 = padL l := by rw [Int.mul_comm]; exact padS_end l H.out
          have := HR.out
          rw [e] at this
          have r := bres_set 0 (this.ob (Nat.le_refl _)) HB.out (cp := N) (by rw [HN2.out]; exact Nat.le_refl _) (by omega) (.int .i64 0) (.slice (some ⟨w.heap.size + 1, 0, none⟩) N N)
          rw [HN2.out] at r
          exact r)
  · rw [padC, padM, if_neg h, if_neg h]
    have h1 : (700 : Int) < (l.length : Int) := by omega
    clear h hA
    go_enter Tryz.func93, Tryz.ntmps93
    go_wp2
    exact bodyPost_ret (v := .agg #[.int .i64 2, .slice none 0 0]) (by simp [results, Tryz.results93, go_sem]) rfl ⟨_, _, rfl, .inl rfl, bal (Below.refl _ _) _, Nat.le_refl _, by omega⟩
end Go.Proofs.YtncnibkojneejaaGreatDoor

/- The program's schedule of SHA-256: schedule, numbersOf, ScheduleOf. -/
namespace Go.Proofs.YtncnibkojneejaaGreatDoor
open Go.RowKit Go.Deep

def Ub (l : List Int) : Array Value := (l.map (Value.int .u8)).toArray
def Urow (w : World) (g : Nat) (t : TypeId) (ws : List Nat) : Prop := Blk w g t (U ws)
theorem Urow.cell {w : World} {g : Nat} {t : TypeId} {ws : List Nat} (h : Urow w g t ws) (j : Nat) (hj : j < ws.length) : w.cell? ⟨g, j, none⟩ = some (.int .u32 ((ws.getD j 0 : Nat) : Int)) := by
  rw [Blk.cell h j]; exact U_get ws j hj
theorem Urow.set {w : World} {g : Nat} {t : TypeId} {ws : List Nat} (h : Urow w g t ws) (j x : Nat) : Urow (w.setCell ⟨g, j, none⟩ (.int .u32 (x : Int))) g t (ws.set j x) := by
  have := heap_setCell_same w g j _ _ (.int .u32 (x : Int)) h
  unfold Urow Blk
  rw [this]
  simp [U, uv, List.map_set]
theorem Urow.far {w : World} {g : Nat} {t : TypeId} {ws : List Nat} (h : Urow w g t ws) {p : Addr} (hp : p.block ≠ g) (u : Value) : Urow (w.setCell p u) g t ws := (heap_setCell_other w p g u (fun e => hp e.symm)).trans h
theorem blk_far {w : World} {g : Nat} {t : TypeId} {cs : Array Value} (h : Blk w g t cs) {p : Addr} (hp : p.block ≠ g) (u : Value) : Blk (w.setCell p u) g t cs := (heap_setCell_other w p g u (fun e => hp e.symm)).trans h
def part1 (l : List Int) (k : Nat) : List Nat := (List.range k).map (wordN l) ++ List.replicate (64 - k) 0
def part2 (l : List Int) (n : Nat) : List Nat := schedTo l n ++ List.replicate (48 - n) 0
theorem part1_len (l : List Int) (k : Nat) (h : k ≤ 64) : (part1 l k).length = 64 := by simp [part1]; omega
theorem part2_len (l : List Int) (k : Nat) (h : k ≤ 48) : (part2 l k).length = 64 := by simp [part2, schedTo_len]; omega
theorem part1_succ (l : List Int) (k : Nat) (h : k < 64) : (part1 l k).set k (wordN l k) = part1 l (k + 1) := by
  rw [part1, List.set_append_right _ _ (by simp), part1, List.range_succ]
  simp only [List.length_map, List.length_range, Nat.sub_self, List.map_append, List.map_cons, List.map_nil, List.append_assoc]
  rw [show 64 - k = (64 - (k + 1)) + 1 from by omega, List.replicate_succ, List.set_cons_zero]
  simp
theorem part2_succ (l : List Int) (k : Nat) (h : k < 48) : (part2 l k).set (16 + k) (nextN (schedTo l k)) = part2 l (k + 1) := by
  rw [part2, List.set_append_right _ _ (by rw [schedTo_len]; omega), part2, schedTo_len, Nat.sub_self, schedTo]
  rw [show 48 - k = (48 - (k + 1)) + 1 from by omega, List.replicate_succ, List.set_cons_zero]
  simp
theorem part2_get (l : List Int) (k j : Nat) (h : j < 16 + k) : (part2 l k).getD j 0 = (schedTo l k).getD j 0 := by
  simp only [part2, List.getD_eq_getElem?_getD]
  rw [List.getElem?_append_left (by rw [schedTo_len]; exact h)]
theorem info84 : (Tryz.prog.info? 124).map (·.size) = some 64 := by kernel_rfl
theorem zero91 : (Tryz.prog.info? 164).bind (·.zero) = some (.agg (U (List.replicate 64 0))) := by kernel_rfl
theorem rot_nat (x k : Nat) (n : Int) (w : World) (hn : n = k) (hx : x < 4294967296) (hk : k ≤ 31) :
    Calls Tryz.prog 110 #[.int .u32 (x : Int), .int .i64 n] w fun e w' => e = .returned (.int .u32 ((rotN x k : Nat) : Int)) ∧ w = w' := by
  subst hn
  exact rotate_any x k w (by omega) (by omega) (by omega) (by omega)
theorem slice84 (u : World) (b k : Nat) (hk : k < 16) : (Instr.sliceAt 124 (.pointer (some ⟨b, 0, none⟩)) (some (.int .i64 ((k : Int) * 4))) (some (.int .i64 (((k : Int) + 1) * 4))) none).run Tryz.prog u = .ok (.slice (some ⟨b, 4 * k, none⟩) 4 (64 - 4 * k)) u := by
  have hal : Tryz.prog.arrayLen 124 = 64 := by kernel_rfl
  have hel : Tryz.prog.elem 124 = 5 := by kernel_rfl
  have hs : (sizeOf 5).run Tryz.prog u = .ok 1 u := by
    cases hq : Tryz.prog.info? 5 with
    | none => have := infoU8; simp [hq] at this
    | some i => have := infoU8; simp [hq] at this; simp [sizeOf, typeInfo, hq, this]
  rw [run_sliceAt_array_lh u 124 ⟨b, 0, none⟩ (by rw [hal, hel]; kernel_rfl) .i64 .i64 ((k : Int) * 4) (((k : Int) + 1) * 4) (by omega) (by omega) (by rw [hal]; omega), hel, hs, hal]
  have e : ((k : Int) * 4).toNat = 4 * k := by omega
  have e2 : (((k : Int) + 1) * 4).toNat = 4 * k + 4 := by omega
  simp only [Result.andThen, slicedAt, e, e2]
  rw [if_neg (by omega)]
  have e3 : (⟨b, 0, none⟩ : Addr).add (4 * k * 1) = ⟨b, 4 * k, none⟩ := by unfold Addr.add; split <;> simp_all
  rw [e3]
  simp
theorem small_bits (x a b c d : Nat) (hx : x < 4294967296) (ha : a ≤ 32) (hb : b ≤ 32) (hd : 2 ^ c = d) :
    bits BinOp.xor IntKind.u32 (bits BinOp.xor IntKind.u32 ((rotN x a : Nat) : Int) ((rotN x b : Nat) : Int)) ((x : Int) / (d : Int)) = ((smallN x a b c : Nat) : Int) := by
  have h1 := rotN_lt x a hx ha
  have h2 := rotN_lt x b hx hb
  have h3 : x / d < 4294967296 := Nat.lt_of_le_of_lt (Nat.div_le_self _ _) hx
  rw [u32_xor_nat _ _ h1 h2, show (x : Int) / (d : Int) = ((x / d : Nat) : Int) from by simp, u32_xor_nat _ _ (xor_lt _ _ h1 h2) h3, smallN, hd]
theorem Urow.drewN {w : World} {g : Nat} {t : TypeId} {ws : List Nat} (h : Urow w g t ws) (n : Nat) : Urow (w.drewN n) g t ws := Blk.below h (below_drewN (Below.refl _ _) n)
set_option maxRecDepth 100000 in
set_option maxHeartbeats 4000000 in
theorem sched_impl (l : List Int) (w : World) (hl : Bytes l) (h64 : l.length = 64) :
    Calls Tryz.prog 105 #[.agg (Ub l)] w fun e w' => e = .returned (.agg (U (schedN l))) ∧ Below w.heap.size w w' := by
  obtain ⟨cs, hcs⟩ : ∃ cs, Ub l = cs := ⟨_, rfl⟩
  obtain ⟨zs, hzs⟩ : ∃ zs, U (List.replicate 64 0) = zs := ⟨_, rfl⟩
  have hz := zero91
  rw [hcs]
  rw [hzs] at hz
  have HZ := hidH hz
  have hat2 : ∀ (k : Nat) (u : World), (Instr.arrayAt 168 (.slice (some ⟨w.heap.size, 4 * k, none⟩) 4 (64 - 4 * k))).run Tryz.prog u = .ok (.pointer (some ⟨w.heap.size, 4 * k, none⟩)) u := fun k u => run_arrayAt u 168 5 4 _ _ _ Tryz.underlying168 (by omega)
  clear hz
  go_enter Tryz.func105, Tryz.ntmps105
  go_wp2_with (first | refine wpList_allocRow rfl 164 rfl _ rfl zs HZ.out ?_ | refine wpList_boxRow rfl _ _ rfl _ rfl cs rfl ?_)
  have B0 := hidH (bal (bal (bal (Below.refl w.heap.size w) (.cells cs 124)) (.cells zs 164)) (.cells zs 164))
  have D0 := hidH (show Blk _ w.heap.size 124 (Ub l) from hcs ▸ ((Blk.new w 124 cs).alloc (.cells zs 164)).alloc (.cells zs 164))
  have R0 := hidH (show Blk _ (w.heap.size + 1) 164 zs from by have := (Blk.new (w.alloc (.cells cs 124)) 164 zs).alloc (.cells zs 164); simpa using this)
  have S0 := hidH (show Urow (((w.alloc (.cells cs 124)).alloc (.cells zs 164)).alloc (.cells zs 164)) (w.heap.size + 1 + 1) 164 (part1 l 0) from by
    have h := (Blk.new ((w.alloc (.cells cs 124)).alloc (.cells zs 164)) 164 zs)
    simp only [World.size_alloc] at h
    have e : part1 l 0 = List.replicate 64 0 := by simp only [part1, List.range_zero, List.map_nil, List.nil_append, Nat.sub_zero]
    rw [Urow, e, hzs]
    exact h)
  go_loopw [10] (fun i wr => ∃ k : Nat, k ≤ 16 ∧ i = .int .i64 k ∧ Urow wr (w.heap.size + 1 + 1) 164 (part1 l k) ∧ Blk wr w.heap.size 124 (Ub l) ∧ Blk wr (w.heap.size + 1) 164 zs ∧ Below w.heap.size w wr) (fun i _ => 16 - (intOf i).toNat)
  case atStart => exact ⟨0, by omega, rfl, S0.out, hcs ▸ D0.out, R0.out, B0.out⟩
  case round =>
    obtain ⟨k, hk, rfl, hS, hD, hR, hB⟩ := hrel
    by_cases hlt : k < 16
    · have hlt2 : (k : Int) < 16 := by omega
      have hlt0 : (0 : Int) ≤ (k : Int) := by omega
      have hsz := hB.size
      have p0 := hl.get (4 * k)
      have q0 := hl.get (4 * k + 1)
      have r0 := hl.get (4 * k + 2)
      have s0 := hl.get (4 * k + 3)
      have cell : ∀ j, j < 64 → wr.cell? ⟨w.heap.size, j, none⟩ = some (.int .u8 (l.getD j 0)) := fun j hj => by
        rw [Blk.cell hD j]; simp [Ub, h64, hj]
      have c0 := cell (4 * k) (by omega)
      have c1 := cell (4 * k + 1) (by omega)
      have c2 := cell (4 * k + 2) (by omega)
      have c3 := cell (4 * k + 3) (by omega)
      have hsl : ∀ u : World, (Instr.sliceAt 124 (.pointer (some ⟨w.heap.size, 0, none⟩)) (some (.int .i64 ((k : Int) * 4))) (some (.int .i64 (((k : Int) + 1) * 4))) none).run Tryz.prog u = .ok (.slice (some ⟨w.heap.size, 4 * k, none⟩) 4 (64 - 4 * k)) u := fun u => slice84 u w.heap.size k (by omega)
      have hat := hat2 k
      clear cell
      have DD := hidH hD
      have HS := hidH hS
      have HR := hidH hR
      have HB := hidH hB
      clear hD hS hR hB
      go_wp2_with fail
      refine (decode_any _ _ _ _ _ p0.1 p0.2 q0.1 q0.2 r0.1 r0.2 s0.1 s0.2).mono ?_
      rintro e w1 ⟨rfl, b1⟩
      have HS1 := hidH (Blk.below HS.out b1)
      have HD1 := hidH (DD.out.below b1)
      have HR1 := hidH (HR.out.below b1)
      have HB1 := hidH (btr HB.out b1)
      have cS := Urow.cell HS1.out k (by rw [part1_len _ _ (by omega)]; omega)
      have fS := Blk.frozen HS1.out k
      have hw := hidH (wordN_cast hl k)
      have hw2 := wordN_lt hl k
      rw [show l.getD (4 * k) 0 * 16777216 + l.getD (4 * k + 1) 0 * 65536 + l.getD (4 * k + 2) 0 * 256 + l.getD (4 * k + 3) 0 = ((wordN l k : Nat) : Int) from hw.out.symm]
      have hs := hidH (part1_succ l k (by omega))
      generalize wordN l k = x at *
      have hx : (x : Int) ≤ 4294967295 := by omega
      clear p0 q0 r0 s0 c0 c1 c2 c3 hsl hat DD HS HR HB b1 hw hsz
      go_wp2
      go_roundw
      case rel =>
        refine ⟨k + 1, by omega, by go_num, ?_, blk_far HD1.out (by simp; omega) _, blk_far HR1.out (by simp) _, bst HB1.out (by simp; omega) _⟩
        rw [← hs.out]
        exact Urow.set HS1.out k x
      case measure => simp [intOf]; omega
    · obtain rfl : k = 16 := by omega
      have HS := hidH (show Urow wr (w.heap.size + 1 + 1) 164 (part2 l 0) from hS)
      have DD := hidH hD
      have HR := hidH hR
      have HB := hidH hB
      clear hS hD hR hB hlt hk hat2
      rw [show ((16 : Nat) : Int) = 16 from rfl]
      go_wp2
      go_loopw [5] (fun i wr => ∃ k : Nat, k ≤ 48 ∧ i = .int .i64 ((16 + k : Nat) : Int) ∧ Urow wr (w.heap.size + 1 + 1) 164 (part2 l k) ∧ Blk wr (w.heap.size + 1) 164 zs ∧ Below w.heap.size w wr) (fun i _ => 64 - (intOf i).toNat)
      case atStart => exact ⟨0, by omega, rfl, HS.out, HR.out, HB.out⟩
      case round =>
        obtain ⟨k, hk, rfl, hS, hR, hB⟩ := hrel
        have hsz2 := hB.size
        by_cases hlt : k < 48
        · have hlti : (16 : Int) + (k : Int) < 64 := by omega
          have j1 : (16 : Int) + (k : Int) - 15 = ((k + 1 : Nat) : Int) := by omega
          have j2 : (16 : Int) + (k : Int) - 2 = ((k + 14 : Nat) : Int) := by omega
          have j3 : (16 : Int) + (k : Int) - 16 = (k : Int) := by omega
          have j4 : (16 : Int) + (k : Int) - 7 = ((k + 9 : Nat) : Int) := by omega
          have hW := schedTo_all hl k
          have hnx : nextN (schedTo l k) = ((part2 l k).getD k 0 + (part2 l k).getD (k + 9) 0 + smallN ((part2 l k).getD (k + 1) 0) 7 18 3 + smallN ((part2 l k).getD (k + 14) 0) 17 19 10) % 4294967296 := by
            rw [part2_get _ _ _ (by omega), part2_get _ _ _ (by omega), part2_get _ _ _ (by omega), part2_get _ _ _ (by omega), nextN, schedTo_len, show 16 + k - 16 = k from by omega, show 16 + k - 7 = k + 9 from by omega, show 16 + k - 15 = k + 1 from by omega, show 16 + k - 2 = k + 14 from by omega, Nat.add_assoc (_ + _)]
          have hsucc := part2_succ l k hlt
          rw [hnx] at hsucc
          have HSU := hidH hsucc
          have w1 : (part2 l k).getD (k + 1) 0 < 4294967296 := by rw [part2_get _ _ _ (by omega)]; exact hW.get _
          have w2 : (part2 l k).getD (k + 14) 0 < 4294967296 := by rw [part2_get _ _ _ (by omega)]; exact hW.get _
          have w3 : (part2 l k).getD k 0 < 4294967296 := by rw [part2_get _ _ _ (by omega)]; exact hW.get _
          have w4 : (part2 l k).getD (k + 9) 0 < 4294967296 := by rw [part2_get _ _ _ (by omega)]; exact hW.get _
          have hlen := part2_len l k (by omega)
          have c1 := hS.cell (k + 1) (by omega)
          have c2 := hS.cell (k + 14) (by omega)
          have c3 := hS.cell k (by omega)
          have c4 := hS.cell (k + 9) (by omega)
          have c5 := hS.cell (16 + k) (by omega)
          have f5 := Blk.frozen hS (16 + k)
          have HS := hidH hS
          have HR := hidH hR
          have HB := hidH hB
          clear hS hR hB hsucc hnx hW hlen
          generalize (part2 l k).getD (k + 1) 0 = x1 at *
          generalize (part2 l k).getD (k + 14) 0 = x2 at *
          generalize (part2 l k).getD k 0 = x3 at *
          generalize (part2 l k).getD (k + 9) 0 = x4 at *
          go_wp2
          go_quiet (fail)
          go_wp2_with (first | (go_at_call 110; (with_reducible refine (rot_nat x1 7 7 _ rfl w1 (by omega)).mono ?_); rintro e w' ⟨rfl, rfl⟩) | (go_at_call 110; (with_reducible refine (rot_nat x1 18 18 _ rfl w1 (by omega)).mono ?_); rintro e w' ⟨rfl, rfl⟩) | (go_at_call 110; (with_reducible refine (rot_nat x2 17 17 _ rfl w2 (by omega)).mono ?_); rintro e w' ⟨rfl, rfl⟩) | (go_at_call 110; (with_reducible refine (rot_nat x2 19 19 _ rfl w2 (by omega)).mono ?_); rintro e w' ⟨rfl, rfl⟩))
          have e1 : bits BinOp.xor IntKind.u32 (bits BinOp.xor IntKind.u32 ((rotN x1 7 : Nat) : Int) ((rotN x1 18 : Nat) : Int)) ((x1 : Int) / 8) = ((smallN x1 7 18 3 : Nat) : Int) := small_bits x1 7 18 3 8 w1 (by omega) (by omega) rfl
          have e2 : bits BinOp.xor IntKind.u32 (bits BinOp.xor IntKind.u32 ((rotN x2 17 : Nat) : Int) ((rotN x2 19 : Nat) : Int)) ((x2 : Int) / 1024) = ((smallN x2 17 19 10 : Nat) : Int) := small_bits x2 17 19 10 1024 w2 (by omega) (by omega) rfl
          rw [e1, e2]
          have y1 := smallN_lt x1 7 18 3 w1 (by omega) (by omega)
          have y2 := smallN_lt x2 17 19 10 w2 (by omega) (by omega)
          clear e1 e2
          generalize smallN x1 7 18 3 = s1 at *
          generalize smallN x2 17 19 10 = s2 at *
          have t5 : ((16 : Int) + (k : Int)).toNat = 16 + k := by omega
          have HS2 := hidH (HS.out.drewN (nq + 1))
          have HR2 := hidH (Blk.below HR.out (below_drewN (Below.refl _ _) (nq + 1)))
          have HB2 := hidH (below_drewN HB.out (nq + 1))
          go_region
          have hv : ((x3 : Int) + (x4 : Int) + (s1 : Int) + (s2 : Int)) % 4294967296 = (((x3 + x4 + s1 + s2) % 4294967296 : Nat) : Int) := by simp
          rw [hv]
          have hsz3 : w.heap.size + 1 + 1 < (wr.drewN (nq + 1)).heap.size := Blk.lt HS2.out
          clear hv t5 c1 c2 c3 c4 c5 f5
          go_wp2
          go_roundw
          case rel =>
            refine ⟨k + 1, by omega, by go_num, ?_, blk_far HR2.out (by simp) _, bst HB2.out (by simp; omega) _⟩
            rw [← HSU.out]
            exact Urow.set HS2.out (16 + k) _
          case measure => simp [intOf]; omega
        · obtain rfl : k = 48 := by omega
          have e : part2 l 48 = schedN l := by simp [part2, schedN]
          rw [e] at hS
          have HB := hidH (hB)
          have HS := hidH hS
          have HR := hidH hR
          have hz2 : zs.size = (U (schedN l)).size := by rw [← hzs, U_size, U_size, schedN, schedTo_len]; simp
          have hsz : (Tryz.prog.info? 164).map (·.size) = some (U (schedN l)).size := by rw [U_size, schedN, schedTo_len]; kernel_rfl
          clear hS hB hR hlt hk
          obtain ⟨os, hos⟩ : ∃ os, U (schedN l) = os := ⟨_, rfl⟩
          have hO := U_one (schedN l)
          rw [Urow, hos] at HS
          rw [hos] at hz2 hsz hO
          have HOS := hidH hos
          have HZ2 := hidH hz2
          have HSZ := hidH hsz
          have HO := hidH hO
          clear hz2 hsz hO hos hcs hzs
          go_wp2_with (first | refine wpList_load_row rfl 164 _ rfl (w.heap.size + 1 + 1) rfl 164 os (0, 0) (.array 64 150) HS.out (by kernel_rfl) rfl HSZ.out ?_ | refine wpList_store_rowTo rfl _ _ _ rfl rfl (w.heap.size + 1) os rfl rfl 164 _ HR.out HSZ.out HZ2.out HO.out ?_)
          exact bodyPost_ret (v := .agg os) (results_cell_row rfl _ _ (w.heap.size + 1) 164 _ (0, 0) (.array 64 150) rfl (setRow_heap _ _ _ _ _ _ HR.out) (by kernel_rfl) rfl HSZ.out) rfl ⟨by rw [HOS.out], below_setRow HB.out (by omega) _⟩
end Go.Proofs.YtncnibkojneejaaGreatDoor

/- The program's masked: a block of bytes, each turned by the same mask. -/
namespace Go.Proofs.YtncnibkojneejaaGreatDoor
open Go.RowKit Go.Deep

theorem zero63 : (Tryz.prog.info? 124).bind (·.zero) = some (.agg (Ub (List.replicate 64 0))) := by kernel_rfl
theorem size63 : (Tryz.prog.info? 124).map (·.size) = some 64 := by kernel_rfl
theorem Ub_len (l : List Int) : (Ub l).size = l.length := by simp [Ub]
theorem Ub_one (l : List Int) : (Ub l).all (·.oneCell') = true := by
  rw [Array.all_eq_true_iff_forall_mem]
  intro v hv
  simp [Ub] at hv
  obtain ⟨x, _, rfl⟩ := hv
  rfl
theorem ub_set {w : World} {g : Nat} {t : TypeId} {l : List Int} (h : Blk w g t (Ub l)) (j : Nat) (v : Int) : Blk (w.setCell ⟨g, j, none⟩ (.int .u8 v)) g t (Ub (l.set j v)) := by
  have := heap_setCell_same w g j _ _ (.int .u8 v) h
  unfold Blk
  rw [this]
  simp [Ub, List.map_set]
theorem ub_cell {w : World} {g : Nat} {t : TypeId} {l : List Int} (h : Blk w g t (Ub l)) (j : Nat) (v : Int) (hj : l[j]? = some v) : w.cell? ⟨g, j, none⟩ = some (.int .u8 v) := by
  rw [Blk.cell h j]; simp [Ub, hj]
set_option maxRecDepth 100000 in
set_option maxHeartbeats 1000000 in
theorem masked_any (l : List Int) (m : Int) (w : World) (hl : Bytes l) (h64 : l.length = 64) (hm0 : 0 ≤ m) (hm1 : m ≤ 255) :
    Calls Tryz.prog 78 #[.agg (Ub l), .int .u8 m] w fun e w' => e = .returned (.agg (Ub (l.map (byteX m.toNat)))) ∧ Below w.heap.size w w' := by
  obtain ⟨cs, hcs⟩ : ∃ cs, Ub l = cs := ⟨_, rfl⟩
  obtain ⟨zs, hzs⟩ : ∃ zs, Ub (List.replicate 64 0) = zs := ⟨_, rfl⟩
  have hz := zero63
  rw [hcs]
  rw [hzs] at hz
  have HZ := hidH hz
  clear hz
  go_enter Tryz.func78, Tryz.ntmps78
  go_wp2_with (first | refine wpList_allocRow rfl 124 rfl _ rfl zs HZ.out ?_ | refine wpList_boxRow rfl _ _ rfl _ rfl cs rfl ?_)
  have B0 := hidH (bal (bal (Below.refl w.heap.size w) (.cells cs 124)) (.cells zs 124))
  have D0 := hidH (show Blk _ w.heap.size 124 (Ub l) from hcs ▸ (Blk.new w 124 cs).alloc (.cells zs 124))
  have R0 := hidH (show Blk _ (w.heap.size + 1) 124 zs from by have := Blk.new (w.alloc (.cells cs 124)) 124 zs; simpa using this)
  have HCS := hidH hcs
  clear hcs
  go_loopw [6] (fun i wr => ∃ k : Nat, k ≤ 64 ∧ i = .int .i64 k ∧ Blk wr w.heap.size 124 (Ub (turnTo l m.toNat k)) ∧ Blk wr (w.heap.size + 1) 124 zs ∧ Below w.heap.size w wr) (fun i _ => 64 - (intOf i).toNat)
  case atStart => exact ⟨0, by omega, rfl, by rw [turnTo_zero, HCS.out]; exact HCS.out ▸ D0.out, R0.out, B0.out⟩
  case round =>
    obtain ⟨k, hk, rfl, hD, hR, hB⟩ := hrel
    by_cases hlt : k < 64
    · have hlt2 : (k : Int) < 64 := by omega
      have hlt0 : (0 : Int) ≤ (k : Int) := by omega
      have p0 := hl.get k
      have c0 := ub_cell hD k _ (turnTo_get l m.toNat k (by omega))
      have f0 := Blk.frozen hD k
      have hsz : w.heap.size < wr.heap.size := hD.lt
      have hx := u8_xor (l.getD k 0) m p0.1 p0.2 hm0 hm1
      have HS := hidH (turnTo_succ l m.toNat k (by omega))
      have HD := hidH hD
      have HR := hidH hR
      have HB := hidH hB
      clear hD hR hB
      generalize l.getD k 0 = x at *
      generalize byteX m.toNat x = y at *
      go_wp2
      go_roundw
      case rel =>
        refine ⟨k + 1, by omega, by go_num, ?_, blk_far HR.out (by simp) _, bst HB.out (Nat.le_refl _) _⟩
        rw [← HS.out, ← hx]
        exact ub_set HD.out k _
      case measure => simp [intOf]; omega
    · obtain rfl : k = 64 := by omega
      have e : turnTo l m.toNat 64 = l.map (byteX m.toNat) := by rw [← h64]; exact turnTo_all l _
      rw [e] at hD
      have hn : (l.map (byteX m.toNat)).length = 64 := by simp [h64]
      obtain ⟨y, hy⟩ : ∃ y, l.map (byteX m.toNat) = y := ⟨_, rfl⟩
      rw [hy] at hD hn
      have HY := hidH hy
      clear hy
      have HB := hidH hB
      have HS := hidH hD
      have HR := hidH hR
      have hz2 : zs.size = (Ub y).size := by rw [← hzs, Ub_len, Ub_len, hn]; simp
      have hsz : (Tryz.prog.info? 124).map (·.size) = some (Ub y).size := by rw [Ub_len, hn]; exact size63
      clear hD hB hR hlt hk e
      obtain ⟨os, hos⟩ : ∃ os, Ub y = os := ⟨_, rfl⟩
      have hO := Ub_one y
      rw [hos] at HS
      rw [hos] at hz2 hsz hO
      have HZ2 := hidH hz2
      have HSZ := hidH hsz
      have HO := hidH hO
      have HOS := hidH hos
      clear hz2 hsz hO hos hzs
      go_wp2_with (first | refine wpList_load_row rfl 124 _ rfl w.heap.size rfl 124 os (0, 0) (.array 64 5) HS.out (by kernel_rfl) rfl HSZ.out ?_ | refine wpList_store_rowTo rfl _ _ _ rfl rfl (w.heap.size + 1) os rfl rfl 124 _ HR.out HSZ.out HZ2.out HO.out ?_)
      exact bodyPost_ret (v := .agg os) (results_cell_row rfl _ _ (w.heap.size + 1) 124 _ (0, 0) (.array 64 5) rfl (setRow_heap _ _ _ _ _ _ HR.out) (by kernel_rfl) rfl HSZ.out) rfl ⟨by rw [HY.out, HOS.out], below_setRow HB.out (by omega) _⟩
end Go.Proofs.YtncnibkojneejaaGreatDoor

/- The program's numbersOf, ScheduleOf. -/
namespace Go.Proofs.YtncnibkojneejaaGreatDoor
open Go.RowKit Go.Deep

/-- A whole block of numbers that are words. -/
def Nrow (w : World) (g : Nat) (ws : List Nat) : Prop := Blk w g 2 (ws.map wv).toArray
theorem Nrow.cell {w : World} {g : Nat} {ws : List Nat} (h : Nrow w g ws) (j : Nat) (hj : j < ws.length) : w.cell? ⟨g, j, none⟩ = some (.int .i64 ((ws.getD j 0 : Nat) : Int)) := by
  rw [Blk.cell h j]; simp [hj, wv]
theorem Nrow.set {w : World} {g : Nat} {ws : List Nat} (h : Nrow w g ws) (j x : Nat) : Nrow (w.setCell ⟨g, j, none⟩ (.int .i64 (x : Int))) g (ws.set j x) := by
  have := heap_setCell_same w g j _ _ (.int .i64 (x : Int)) h
  unfold Nrow Blk
  rw [this]
  simp [wv, List.map_set]
theorem Nrow.of_own {w : World} {B e g n : Nat} {xs : List Value} {ws : List Nat} (h : w.ownsRow B e 1 (.slice (some ⟨g, 0, none⟩) n n) n xs) (he : e = 2) (hx : xs = ws.map wv) : Nrow w g ws := by
  rcases h.2 with ⟨h', _⟩ | ⟨g', cap', cur, h', hb, hg, hnc, hcm, hcs, htake⟩
  · simp at h'
  · simp only [Value.slice.injEq, Option.some.injEq, Addr.mk.injEq, and_true, true_and] at h'
    obtain ⟨rfl, rfl⟩ := h'
    have : cur.toList = xs := by rw [← htake, List.take_of_length_le (by simp; omega)]
    unfold Nrow Blk
    rw [hg, he, ← hx, ← this]
theorem Nrow.own {w : World} {g B : Nat} {ws : List Nat} (h : Nrow w g ws) (hB : B ≤ g) (hm : ws.length ≤ 100000) : w.ownsRow B 2 1 (.slice (some ⟨g, 0, none⟩) ws.length ws.length) ws.length (ws.map wv) :=
  ⟨by simp, .inr ⟨g, ws.length, _, rfl, hB, h, Nat.le_refl _, by unfold maxLen; omega, by simp, by rw [List.take_of_length_le (by simp)]⟩⟩
theorem made_i64 (N : Nat) : (madeCells (Value.int .i64 0).cells (N * 1)).toList = (List.replicate N (0 : Nat)).map wv := by
  rw [Nat.mul_one, show (Value.int IntKind.i64 0).cells = #[Value.int IntKind.i64 0] from rfl, toList_madeCells_one]
  simp [wv]
def partW (ws : List Nat) (k : Nat) : List Nat := ws.take k ++ List.replicate (ws.length - k) 0
theorem partW_len (ws : List Nat) (k : Nat) (h : k ≤ ws.length) : (partW ws k).length = ws.length := by simp [partW]; omega
theorem partW_succ (ws : List Nat) (k : Nat) (h : k < ws.length) : (partW ws k).set k (ws.getD k 0) = partW ws (k + 1) := by
  rw [partW, List.set_append_right _ _ (by simp; omega), partW, List.take_succ_eq_append_getElem h]
  simp only [List.length_take, Nat.min_eq_left (Nat.le_of_lt h), Nat.sub_self]
  rw [show ws.length - k = (ws.length - (k + 1)) + 1 from by omega, List.replicate_succ, List.set_cons_zero]
  rw [List.append_assoc, List.singleton_append, List.getD_eq_getElem?_getD, List.getElem?_eq_getElem h, Option.getD_some]
theorem arr84 (A : Option Addr) (n c : Nat) (hn : 64 ≤ n) (u : World) : (Instr.arrayAt 124 (.slice A n c)).run Tryz.prog u = .ok (.pointer A) u := run_arrayAt u 124 5 64 _ _ _ Tryz.underlying124 hn
theorem slice91 (u : World) (b : Nat) : (Instr.sliceAt 164 (.pointer (some ⟨b, 0, none⟩)) none none none).run Tryz.prog u = .ok (.slice (some ⟨b, 0, none⟩) 64 64) u := by
  have hal : Tryz.prog.arrayLen 164 = 64 := by kernel_rfl
  have hel : Tryz.prog.elem 164 = 150 := by kernel_rfl
  have hs : (sizeOf 150).run Tryz.prog u = .ok 1 u := by
    have h1 : (Tryz.prog.info? 150).map (·.size) = some 1 := by kernel_rfl
    cases hq : Tryz.prog.info? 150 with
    | none => simp [hq] at h1
    | some i => simp [hq] at h1; simp [sizeOf, typeInfo, hq, h1]
  rw [run_sliceAt_array_all u 164 ⟨b, 0, none⟩ (by rw [hal, hel]; kernel_rfl), hel, hs, hal]
  simp only [Result.andThen, slicedAt]
  rw [if_neg (by omega)]
  simp [Addr.add]
theorem bs_range {w : World} {b off : Nat} {l : List Int} (hc : ∀ j, j < l.length → w.cell? ⟨b, off + j, none⟩ = some (.int .u8 (l.getD j 0))) : w.rangeAt b off (l.map (Value.int .u8)) := by
  intro j v hv
  have hj : j < l.length := by
    rcases Nat.lt_or_ge j l.length with h | h
    · exact h
    · rw [List.getElem?_eq_none (by simpa using h)] at hv; cases hv
  rw [hc j hj, ← hv]
  simp [hj]
end Go.Proofs.YtncnibkojneejaaGreatDoor

/- The program's round. -/
namespace Go.Proofs.YtncnibkojneejaaGreatDoor
open Go.RowKit Go.Deep

theorem rnd_blk (w : World) (A B : Array Value) (t : TypeId) (n : Nat) : (((w.alloc (.cells A t)).alloc (.cells B t)).drewN n).heap[w.heap.size + 1]? = some (.cells B t (0, 0)) := by
  have := (Blk.new (w.alloc (.cells A t)) t B).below (below_drewN (Below.refl _ _) n)
  simpa [Blk] using this
theorem set8 {w : World} {g : Nat} {t : TypeId} {o0 o1 o2 o3 o4 o5 o6 o7 v0 v1 v2 v3 v4 v5 v6 v7 : Value} (hg : w.heap[g]? = some (.cells #[o0, o1, o2, o3, o4, o5, o6, o7] t (0, 0))) :
    ((((((((w.setCell ⟨g, 0, none⟩ v0).setCell ⟨g, 1, none⟩ v1).setCell ⟨g, 2, none⟩ v2).setCell ⟨g, 3, none⟩ v3).setCell ⟨g, 4, none⟩ v4).setCell ⟨g, 5, none⟩ v5).setCell ⟨g, 6, none⟩ v6).setCell ⟨g, 7, none⟩ v7) = w.setRow g #[v0, v1, v2, v3, v4, v5, v6, v7] := by
  have h0 := setCell_eq_setRow w g 0 _ t (0, 0) v0 hg
  have b0 := setRow_heap w g _ #[v0, o1, o2, o3, o4, o5, o6, o7] t (0, 0) hg
  have b1 := setRow_heap w g _ #[v0, v1, o2, o3, o4, o5, o6, o7] t (0, 0) hg
  have b2 := setRow_heap w g _ #[v0, v1, v2, o3, o4, o5, o6, o7] t (0, 0) hg
  have b3 := setRow_heap w g _ #[v0, v1, v2, v3, o4, o5, o6, o7] t (0, 0) hg
  have b4 := setRow_heap w g _ #[v0, v1, v2, v3, v4, o5, o6, o7] t (0, 0) hg
  have b5 := setRow_heap w g _ #[v0, v1, v2, v3, v4, v5, o6, o7] t (0, 0) hg
  have b6 := setRow_heap w g _ #[v0, v1, v2, v3, v4, v5, v6, o7] t (0, 0) hg
  have h1 := setCell_eq_setRow _ g 1 _ t (0, 0) v1 b0
  have h2 := setCell_eq_setRow _ g 2 _ t (0, 0) v2 b1
  have h3 := setCell_eq_setRow _ g 3 _ t (0, 0) v3 b2
  have h4 := setCell_eq_setRow _ g 4 _ t (0, 0) v4 b3
  have h5 := setCell_eq_setRow _ g 5 _ t (0, 0) v5 b4
  have h6 := setCell_eq_setRow _ g 6 _ t (0, 0) v6 b5
  have h7 := setCell_eq_setRow _ g 7 _ t (0, 0) v7 b6
  simp at h0 h1 h2 h3 h4 h5 h6 h7
  rw [h0, h1, setRow_setRow, h2, setRow_setRow, h3, setRow_setRow, h4, setRow_setRow, h5, setRow_setRow, h6, setRow_setRow, h7, setRow_setRow]
theorem step_cells (x0 x1 x2 x3 x4 x5 x6 x7 cc ss : Nat) : U (stepN [x0, x1, x2, x3, x4, x5, x6, x7] cc ss) =
    #[.int .u32 (((x7 : Int) + ((bigN x4 6 11 25 : Nat) : Int) + ((chN x4 x5 x6 : Nat) : Int) + (cc : Int) + (ss : Int) + (((bigN x0 2 13 22 : Nat) : Int) + ((majN x0 x1 x2 : Nat) : Int))) % 4294967296), .int .u32 (x0 : Int), .int .u32 (x1 : Int), .int .u32 (x2 : Int),
      .int .u32 (((x3 : Int) + ((x7 : Int) + ((bigN x4 6 11 25 : Nat) : Int) + ((chN x4 x5 x6 : Nat) : Int) + (cc : Int) + (ss : Int))) % 4294967296), .int .u32 (x4 : Int), .int .u32 (x5 : Int), .int .u32 (x6 : Int)] := by
  simp [U, uv, stepN, t1N, t2N]
  generalize bigN x4 6 11 25 = b1
  generalize bigN x0 2 13 22 = b2
  generalize chN x4 x5 x6 = c1
  generalize majN x0 x1 x2 = c2
  constructor <;> omega
theorem not_nat (x : Nat) (hx : x < 4294967296) : 4294967295 ^^^ x = 4294967295 - x := by
  have h := congrArg BitVec.toNat (BitVec.allOnes_xor (x := BitVec.ofNat 32 x))
  rw [BitVec.toNat_xor, BitVec.toNat_not] at h
  simp [Nat.mod_eq_of_lt hx] at h
  exact h
theorem big_bits (x a b c : Nat) (hx : x < 4294967296) (ha : a ≤ 32) (hb : b ≤ 32) (hc : c ≤ 32) :
    bits BinOp.xor IntKind.u32 (bits BinOp.xor IntKind.u32 ((rotN x a : Nat) : Int) ((rotN x b : Nat) : Int)) ((rotN x c : Nat) : Int) = ((bigN x a b c : Nat) : Int) := by
  have h1 := rotN_lt x a hx ha
  have h2 := rotN_lt x b hx hb
  have h3 := rotN_lt x c hx hc
  rw [u32_xor_nat _ _ h1 h2, u32_xor_nat _ _ (xor_lt _ _ h1 h2) h3, bigN]
theorem ch_bits (e f g : Nat) (he : e < 4294967296) (hf : f < 4294967296) (hg : g < 4294967296) :
    bits BinOp.xor IntKind.u32 (bits BinOp.and IntKind.u32 (e : Int) (f : Int)) (bits BinOp.and IntKind.u32 (bits BinOp.xor IntKind.u32 IntKind.u32.max (e : Int)) (g : Int)) = ((chN e f g : Nat) : Int) := by
  have hm : IntKind.u32.max = ((4294967295 : Nat) : Int) := by decide
  rw [hm, u32_xor_nat _ _ (by omega) he, not_nat e he, u32_and_nat _ _ he hf, u32_and_nat _ _ (by omega) hg, u32_xor_nat _ _ (and_lt _ _ hf) (and_lt _ _ hg), chN]
theorem maj_bits (a b c : Nat) (ha : a < 4294967296) (hb : b < 4294967296) (hc : c < 4294967296) :
    bits BinOp.xor IntKind.u32 (bits BinOp.xor IntKind.u32 (bits BinOp.and IntKind.u32 (a : Int) (b : Int)) (bits BinOp.and IntKind.u32 (a : Int) (c : Int))) (bits BinOp.and IntKind.u32 (b : Int) (c : Int)) = ((majN a b c : Nat) : Int) := by
  rw [u32_and_nat _ _ ha hb, u32_and_nat _ _ ha hc, u32_and_nat _ _ hb hc, u32_xor_nat _ _ (and_lt _ _ hb) (and_lt _ _ hc), u32_xor_nat _ _ (xor_lt _ _ (and_lt _ _ hb) (and_lt _ _ hc)) (and_lt _ _ hc), majN]
set_option maxRecDepth 100000 in
set_option maxHeartbeats 4000000 in
theorem rnd_any (v : List Nat) (cc ss : Nat) (w : World) (hv : AllW v) (h8 : v.length = 8) (_hc : cc < 4294967296) (_hs : ss < 4294967296) :
    Calls Tryz.prog 106 #[.agg (U v), .int .u32 (cc : Int), .int .u32 (ss : Int)] w fun e w' => e = .returned (.agg (U (stepN v cc ss))) ∧ Below w.heap.size w w' := by
  obtain ⟨x0, x1, x2, x3, x4, x5, x6, x7, rfl⟩ := eight h8
  have h0 : x0 < 4294967296 := hv.get 0
  have h1 : x1 < 4294967296 := hv.get 1
  have h2 : x2 < 4294967296 := hv.get 2
  have h3 : x3 < 4294967296 := hv.get 3
  have h4 : x4 < 4294967296 := hv.get 4
  have h5 : x5 < 4294967296 := hv.get 5
  have h6 : x6 < 4294967296 := hv.get 6
  have h7 : x7 < 4294967296 := hv.get 7
  have hU : U [x0, x1, x2, x3, x4, x5, x6, x7] = #[.int .u32 (x0 : Int), .int .u32 (x1 : Int), .int .u32 (x2 : Int), .int .u32 (x3 : Int), .int .u32 (x4 : Int), .int .u32 (x5 : Int), .int .u32 (x6 : Int), .int .u32 (x7 : Int)] := rfl
  rw [hU]
  clear h8 hv hU
  have HG := hidH (rnd_blk w #[.int .u32 (x0 : Int), .int .u32 (x1 : Int), .int .u32 (x2 : Int), .int .u32 (x3 : Int), .int .u32 (x4 : Int), .int .u32 (x5 : Int), .int .u32 (x6 : Int), .int .u32 (x7 : Int)] #[.int .u32 0, .int .u32 0, .int .u32 0, .int .u32 0, .int .u32 0, .int .u32 0, .int .u32 0, .int .u32 0] 152)
  go_enter Tryz.func106, Tryz.ntmps106
  go_wp2
  go_quiet (fail)
  go_wp2
  go_quiet (fail)
  go_wp2_with (first | (go_at_call 110; (with_reducible refine (rot_nat x4 6 6 _ rfl h4 (by omega)).mono ?_); rintro e w' ⟨rfl, rfl⟩) | (go_at_call 110; (with_reducible refine (rot_nat x4 11 11 _ rfl h4 (by omega)).mono ?_); rintro e w' ⟨rfl, rfl⟩) | (go_at_call 110; (with_reducible refine (rot_nat x4 25 25 _ rfl h4 (by omega)).mono ?_); rintro e w' ⟨rfl, rfl⟩) | (go_at_call 110; (with_reducible refine (rot_nat x0 2 2 _ rfl h0 (by omega)).mono ?_); rintro e w' ⟨rfl, rfl⟩) | (go_at_call 110; (with_reducible refine (rot_nat x0 13 13 _ rfl h0 (by omega)).mono ?_); rintro e w' ⟨rfl, rfl⟩) | (go_at_call 110; (with_reducible refine (rot_nat x0 22 22 _ rfl h0 (by omega)).mono ?_); rintro e w' ⟨rfl, rfl⟩))
  rw [set8 (HG.out _)]
  have e1 := big_bits x4 6 11 25 h4 (by omega) (by omega) (by omega)
  have e2 := big_bits x0 2 13 22 h0 (by omega) (by omega) (by omega)
  have e3 := ch_bits x4 x5 x6 h4 h5 h6
  have e4 := maj_bits x0 x1 x2 h0 h1 h2
  rw [e1, e2, e3, e4]
  have hb1 := bigN_lt x4 6 11 25 h4 (by omega) (by omega) (by omega)
  have hb2 := bigN_lt x0 2 13 22 h0 (by omega) (by omega) (by omega)
  have hb3 := chN_lt x4 x5 x6 h5 h6
  have hb4 := majN_lt x0 x1 x2 h1 h2
  have eU := step_cells x0 x1 x2 x3 x4 x5 x6 x7 cc ss
  exact bodyPost_ret (v := .agg _) (results_cell_row rfl _ _ (w.heap.size + 1) 152 _ (0, 0) (.array 8 150) rfl (setRow_heap _ _ _ _ _ _ (HG.out _)) (by kernel_rfl) rfl (by kernel_rfl)) rfl ⟨by rw [eU], below_setRow (below_drewN (bal (bal (Below.refl _ _) _) _) _) (Nat.le_succ _) _⟩
end Go.Proofs.YtncnibkojneejaaGreatDoor
