/- The program's schedule of SHA-256: schedule, numbersOf, ScheduleOf. -/
import Derived.Test.YtacdnednkglobaaPadI
namespace Go.Proofs.Ytacdnednkglobaa
open Go.RowKit Go.Deep

def Ub (l : List Int) : Array Value := (l.map (Value.int .u8)).toArray
def Urow (w : World) (g : Nat) (t : TypeId) (ws : List Nat) : Prop := Blk w g t (U ws)
theorem Urow.cell {w : World} {g : Nat} {t : TypeId} {ws : List Nat} (h : Urow w g t ws) (j : Nat) (hj : j < ws.length) : w.cell? ⟨g, j, none⟩ = some (.int .u32 ((ws.getD j 0 : Nat) : Int)) := by
  rw [Blk.cell h j]; exact U_get ws j hj
theorem Urow.set {w : World} {g : Nat} {t : TypeId} {ws : List Nat} (h : Urow w g t ws) (j x : Nat) : Urow (w.setCell ⟨g, j, none⟩ (.int .u32 (x : Int))) g t (ws.set j x) := by
  have := heap_setCell_same w g j _ _ (.int .u32 (x : Int)) h
  unfold Urow Blk
  rw [this]
  simp [U, uv, List.map_set]
theorem Urow.far {w : World} {g : Nat} {t : TypeId} {ws : List Nat} (h : Urow w g t ws) {p : Addr} (hp : p.block ≠ g) (u : Value) : Urow (w.setCell p u) g t ws := (heap_setCell_other w p g u (fun e => hp e.symm)).trans h
theorem blk_far {w : World} {g : Nat} {t : TypeId} {cs : Array Value} (h : Blk w g t cs) {p : Addr} (hp : p.block ≠ g) (u : Value) : Blk (w.setCell p u) g t cs := (heap_setCell_other w p g u (fun e => hp e.symm)).trans h
def part1 (l : List Int) (k : Nat) : List Nat := (List.range k).map (wordN l) ++ List.replicate (64 - k) 0
def part2 (l : List Int) (n : Nat) : List Nat := schedTo l n ++ List.replicate (48 - n) 0
theorem part1_len (l : List Int) (k : Nat) (h : k ≤ 64) : (part1 l k).length = 64 := by simp [part1]; omega
theorem part2_len (l : List Int) (k : Nat) (h : k ≤ 48) : (part2 l k).length = 64 := by simp [part2, schedTo_len]; omega
theorem part1_succ (l : List Int) (k : Nat) (h : k < 64) : (part1 l k).set k (wordN l k) = part1 l (k + 1) := by
  rw [part1, List.set_append_right _ _ (by simp), part1, List.range_succ]
  simp only [List.length_map, List.length_range, Nat.sub_self, List.map_append, List.map_cons, List.map_nil, List.append_assoc]
  rw [show 64 - k = (64 - (k + 1)) + 1 from by omega, List.replicate_succ, List.set_cons_zero]
  simp
theorem part2_succ (l : List Int) (k : Nat) (h : k < 48) : (part2 l k).set (16 + k) (nextN (schedTo l k)) = part2 l (k + 1) := by
  rw [part2, List.set_append_right _ _ (by rw [schedTo_len]; omega), part2, schedTo_len, Nat.sub_self, schedTo]
  rw [show 48 - k = (48 - (k + 1)) + 1 from by omega, List.replicate_succ, List.set_cons_zero]
  simp
theorem part2_get (l : List Int) (k j : Nat) (h : j < 16 + k) : (part2 l k).getD j 0 = (schedTo l k).getD j 0 := by
  simp only [part2, List.getD_eq_getElem?_getD]
  rw [List.getElem?_append_left (by rw [schedTo_len]; exact h)]
theorem info84 : (Try.prog.info? 85).map (·.size) = some 64 := by kernel_rfl
theorem zero91 : (Try.prog.info? 109).bind (·.zero) = some (.agg (U (List.replicate 64 0))) := by kernel_rfl
theorem rot_nat (x k : Nat) (n : Int) (w : World) (hn : n = k) (hx : x < 4294967296) (hk : k ≤ 31) :
    Calls Try.prog 91 #[.int .u32 (x : Int), .int .i64 n] w fun e w' => e = .returned (.int .u32 ((rotN x k : Nat) : Int)) ∧ w = w' := by
  subst hn
  exact rotate_any x k w (by omega) (by omega) (by omega) (by omega)
theorem slice84 (u : World) (b k : Nat) (hk : k < 16) : (Instr.sliceAt 85 (.pointer (some ⟨b, 0, none⟩)) (some (.int .i64 ((k : Int) * 4))) (some (.int .i64 (((k : Int) + 1) * 4))) none).run Try.prog u = .ok (.slice (some ⟨b, 4 * k, none⟩) 4 (64 - 4 * k)) u := by
  have hal : Try.prog.arrayLen 85 = 64 := by kernel_rfl
  have hel : Try.prog.elem 85 = 5 := by kernel_rfl
  have hs : (sizeOf 5).run Try.prog u = .ok 1 u := by
    cases hq : Try.prog.info? 5 with
    | none => have := infoU8; simp [hq] at this
    | some i => have := infoU8; simp [hq] at this; simp [sizeOf, typeInfo, hq, this]
  rw [run_sliceAt_array_lh u 85 ⟨b, 0, none⟩ (by rw [hal, hel]; kernel_rfl) .i64 .i64 ((k : Int) * 4) (((k : Int) + 1) * 4) (by omega) (by omega) (by rw [hal]; omega), hel, hs, hal]
  have e : ((k : Int) * 4).toNat = 4 * k := by omega
  have e2 : (((k : Int) + 1) * 4).toNat = 4 * k + 4 := by omega
  simp only [Result.andThen, slicedAt, e, e2]
  rw [if_neg (by omega)]
  have e3 : (⟨b, 0, none⟩ : Addr).add (4 * k * 1) = ⟨b, 4 * k, none⟩ := by unfold Addr.add; split <;> simp_all
  rw [e3]
  simp
theorem small_bits (x a b c d : Nat) (hx : x < 4294967296) (ha : a ≤ 32) (hb : b ≤ 32) (hd : 2 ^ c = d) :
    bits BinOp.xor IntKind.u32 (bits BinOp.xor IntKind.u32 ((rotN x a : Nat) : Int) ((rotN x b : Nat) : Int)) ((x : Int) / (d : Int)) = ((smallN x a b c : Nat) : Int) := by
  have h1 := rotN_lt x a hx ha
  have h2 := rotN_lt x b hx hb
  have h3 : x / d < 4294967296 := Nat.lt_of_le_of_lt (Nat.div_le_self _ _) hx
  rw [u32_xor_nat _ _ h1 h2, show (x : Int) / (d : Int) = ((x / d : Nat) : Int) from by simp, u32_xor_nat _ _ (xor_lt _ _ h1 h2) h3, smallN, hd]
theorem Urow.drewN {w : World} {g : Nat} {t : TypeId} {ws : List Nat} (h : Urow w g t ws) (n : Nat) : Urow (w.drewN n) g t ws := Blk.below h (below_drewN (Below.refl _ _) n)
set_option maxRecDepth 100000 in
set_option maxHeartbeats 4000000 in
theorem sched_impl (l : List Int) (w : World) (hl : Bytes l) (h64 : l.length = 64) :
    Calls Try.prog 86 #[.agg (Ub l)] w fun e w' => e = .returned (.agg (U (schedN l))) ∧ Below w.heap.size w w' := by
  obtain ⟨cs, hcs⟩ : ∃ cs, Ub l = cs := ⟨_, rfl⟩
  obtain ⟨zs, hzs⟩ : ∃ zs, U (List.replicate 64 0) = zs := ⟨_, rfl⟩
  have hz := zero91
  rw [hcs]
  rw [hzs] at hz
  have HZ := hidH hz
  have hat2 : ∀ (k : Nat) (u : World), (Instr.arrayAt 113 (.slice (some ⟨w.heap.size, 4 * k, none⟩) 4 (64 - 4 * k))).run Try.prog u = .ok (.pointer (some ⟨w.heap.size, 4 * k, none⟩)) u := fun k u => run_arrayAt u 113 5 4 _ _ _ Try.underlying113 (by omega)
  clear hz
  go_enter Try.func86, Try.ntmps86
  go_wp2_with (first | refine wpList_allocRow rfl 109 rfl _ rfl zs HZ.out ?_ | refine wpList_boxRow rfl _ _ rfl _ rfl cs rfl ?_)
  have B0 := hidH (bal (bal (bal (Below.refl w.heap.size w) (.cells cs 85)) (.cells zs 109)) (.cells zs 109))
  have D0 := hidH (show Blk _ w.heap.size 85 (Ub l) from hcs ▸ ((Blk.new w 85 cs).alloc (.cells zs 109)).alloc (.cells zs 109))
  have R0 := hidH (show Blk _ (w.heap.size + 1) 109 zs from by have := (Blk.new (w.alloc (.cells cs 85)) 109 zs).alloc (.cells zs 109); simpa using this)
  have S0 := hidH (show Urow (((w.alloc (.cells cs 85)).alloc (.cells zs 109)).alloc (.cells zs 109)) (w.heap.size + 1 + 1) 109 (part1 l 0) from by
    have h := (Blk.new ((w.alloc (.cells cs 85)).alloc (.cells zs 109)) 109 zs)
    simp only [World.size_alloc] at h
    have e : part1 l 0 = List.replicate 64 0 := by simp only [part1, List.range_zero, List.map_nil, List.nil_append, Nat.sub_zero]
    rw [Urow, e, hzs]
    exact h)
  go_loopw [10] (fun i wr => ∃ k : Nat, k ≤ 16 ∧ i = .int .i64 k ∧ Urow wr (w.heap.size + 1 + 1) 109 (part1 l k) ∧ Blk wr w.heap.size 85 (Ub l) ∧ Blk wr (w.heap.size + 1) 109 zs ∧ Below w.heap.size w wr) (fun i _ => 16 - (intOf i).toNat)
  case atStart => exact ⟨0, by omega, rfl, S0.out, hcs ▸ D0.out, R0.out, B0.out⟩
  case round =>
    obtain ⟨k, hk, rfl, hS, hD, hR, hB⟩ := hrel
    by_cases hlt : k < 16
    · have hlt2 : (k : Int) < 16 := by omega
      have hlt0 : (0 : Int) ≤ (k : Int) := by omega
      have hsz := hB.size
      have p0 := hl.get (4 * k)
      have q0 := hl.get (4 * k + 1)
      have r0 := hl.get (4 * k + 2)
      have s0 := hl.get (4 * k + 3)
      have cell : ∀ j, j < 64 → wr.cell? ⟨w.heap.size, j, none⟩ = some (.int .u8 (l.getD j 0)) := fun j hj => by
        rw [Blk.cell hD j]; simp [Ub, h64, hj]
      have c0 := cell (4 * k) (by omega)
      have c1 := cell (4 * k + 1) (by omega)
      have c2 := cell (4 * k + 2) (by omega)
      have c3 := cell (4 * k + 3) (by omega)
      have hsl : ∀ u : World, (Instr.sliceAt 85 (.pointer (some ⟨w.heap.size, 0, none⟩)) (some (.int .i64 ((k : Int) * 4))) (some (.int .i64 (((k : Int) + 1) * 4))) none).run Try.prog u = .ok (.slice (some ⟨w.heap.size, 4 * k, none⟩) 4 (64 - 4 * k)) u := fun u => slice84 u w.heap.size k (by omega)
      have hat := hat2 k
      clear cell
      have DD := hidH hD
      have HS := hidH hS
      have HR := hidH hR
      have HB := hidH hB
      clear hD hS hR hB
      go_wp2_with fail
      refine (decode_any _ _ _ _ _ p0.1 p0.2 q0.1 q0.2 r0.1 r0.2 s0.1 s0.2).mono ?_
      rintro e w1 ⟨rfl, b1⟩
      have HS1 := hidH (Blk.below HS.out b1)
      have HD1 := hidH (DD.out.below b1)
      have HR1 := hidH (HR.out.below b1)
      have HB1 := hidH (btr HB.out b1)
      have cS := Urow.cell HS1.out k (by rw [part1_len _ _ (by omega)]; omega)
      have fS := Blk.frozen HS1.out k
      have hw := hidH (wordN_cast hl k)
      have hw2 := wordN_lt hl k
      rw [show l.getD (4 * k) 0 * 16777216 + l.getD (4 * k + 1) 0 * 65536 + l.getD (4 * k + 2) 0 * 256 + l.getD (4 * k + 3) 0 = ((wordN l k : Nat) : Int) from hw.out.symm]
      have hs := hidH (part1_succ l k (by omega))
      generalize wordN l k = x at *
      have hx : (x : Int) ≤ 4294967295 := by omega
      clear p0 q0 r0 s0 c0 c1 c2 c3 hsl hat DD HS HR HB b1 hw hsz
      go_wp2
      go_roundw
      case rel =>
        refine ⟨k + 1, by omega, by go_num, ?_, blk_far HD1.out (by simp; omega) _, blk_far HR1.out (by simp) _, bst HB1.out (by simp; omega) _⟩
        rw [← hs.out]
        exact Urow.set HS1.out k x
      case measure => simp [intOf]; omega
    · obtain rfl : k = 16 := by omega
      have HS := hidH (show Urow wr (w.heap.size + 1 + 1) 109 (part2 l 0) from hS)
      have DD := hidH hD
      have HR := hidH hR
      have HB := hidH hB
      clear hS hD hR hB hlt hk hat2
      rw [show ((16 : Nat) : Int) = 16 from rfl]
      go_wp2
      go_loopw [5] (fun i wr => ∃ k : Nat, k ≤ 48 ∧ i = .int .i64 ((16 + k : Nat) : Int) ∧ Urow wr (w.heap.size + 1 + 1) 109 (part2 l k) ∧ Blk wr (w.heap.size + 1) 109 zs ∧ Below w.heap.size w wr) (fun i _ => 64 - (intOf i).toNat)
      case atStart => exact ⟨0, by omega, rfl, HS.out, HR.out, HB.out⟩
      case round =>
        obtain ⟨k, hk, rfl, hS, hR, hB⟩ := hrel
        have hsz2 := hB.size
        by_cases hlt : k < 48
        · have hlti : (16 : Int) + (k : Int) < 64 := by omega
          have j1 : (16 : Int) + (k : Int) - 15 = ((k + 1 : Nat) : Int) := by omega
          have j2 : (16 : Int) + (k : Int) - 2 = ((k + 14 : Nat) : Int) := by omega
          have j3 : (16 : Int) + (k : Int) - 16 = (k : Int) := by omega
          have j4 : (16 : Int) + (k : Int) - 7 = ((k + 9 : Nat) : Int) := by omega
          have hW := schedTo_all hl k
          have hnx : nextN (schedTo l k) = ((part2 l k).getD k 0 + (part2 l k).getD (k + 9) 0 + smallN ((part2 l k).getD (k + 1) 0) 7 18 3 + smallN ((part2 l k).getD (k + 14) 0) 17 19 10) % 4294967296 := by
            rw [part2_get _ _ _ (by omega), part2_get _ _ _ (by omega), part2_get _ _ _ (by omega), part2_get _ _ _ (by omega), nextN, schedTo_len, show 16 + k - 16 = k from by omega, show 16 + k - 7 = k + 9 from by omega, show 16 + k - 15 = k + 1 from by omega, show 16 + k - 2 = k + 14 from by omega, Nat.add_assoc (_ + _)]
          have hsucc := part2_succ l k hlt
          rw [hnx] at hsucc
          have HSU := hidH hsucc
          have w1 : (part2 l k).getD (k + 1) 0 < 4294967296 := by rw [part2_get _ _ _ (by omega)]; exact hW.get _
          have w2 : (part2 l k).getD (k + 14) 0 < 4294967296 := by rw [part2_get _ _ _ (by omega)]; exact hW.get _
          have w3 : (part2 l k).getD k 0 < 4294967296 := by rw [part2_get _ _ _ (by omega)]; exact hW.get _
          have w4 : (part2 l k).getD (k + 9) 0 < 4294967296 := by rw [part2_get _ _ _ (by omega)]; exact hW.get _
          have hlen := part2_len l k (by omega)
          have c1 := hS.cell (k + 1) (by omega)
          have c2 := hS.cell (k + 14) (by omega)
          have c3 := hS.cell k (by omega)
          have c4 := hS.cell (k + 9) (by omega)
          have c5 := hS.cell (16 + k) (by omega)
          have f5 := Blk.frozen hS (16 + k)
          have HS := hidH hS
          have HR := hidH hR
          have HB := hidH hB
          clear hS hR hB hsucc hnx hW hlen
          generalize (part2 l k).getD (k + 1) 0 = x1 at *
          generalize (part2 l k).getD (k + 14) 0 = x2 at *
          generalize (part2 l k).getD k 0 = x3 at *
          generalize (part2 l k).getD (k + 9) 0 = x4 at *
          go_wp2
          go_quiet (fail)
          go_wp2_with (first | (go_at_call 91; (with_reducible refine (rot_nat x1 7 7 _ rfl w1 (by omega)).mono ?_); rintro e w' ⟨rfl, rfl⟩) | (go_at_call 91; (with_reducible refine (rot_nat x1 18 18 _ rfl w1 (by omega)).mono ?_); rintro e w' ⟨rfl, rfl⟩) | (go_at_call 91; (with_reducible refine (rot_nat x2 17 17 _ rfl w2 (by omega)).mono ?_); rintro e w' ⟨rfl, rfl⟩) | (go_at_call 91; (with_reducible refine (rot_nat x2 19 19 _ rfl w2 (by omega)).mono ?_); rintro e w' ⟨rfl, rfl⟩))
          have e1 : bits BinOp.xor IntKind.u32 (bits BinOp.xor IntKind.u32 ((rotN x1 7 : Nat) : Int) ((rotN x1 18 : Nat) : Int)) ((x1 : Int) / 8) = ((smallN x1 7 18 3 : Nat) : Int) := small_bits x1 7 18 3 8 w1 (by omega) (by omega) rfl
          have e2 : bits BinOp.xor IntKind.u32 (bits BinOp.xor IntKind.u32 ((rotN x2 17 : Nat) : Int) ((rotN x2 19 : Nat) : Int)) ((x2 : Int) / 1024) = ((smallN x2 17 19 10 : Nat) : Int) := small_bits x2 17 19 10 1024 w2 (by omega) (by omega) rfl
          rw [e1, e2]
          have y1 := smallN_lt x1 7 18 3 w1 (by omega) (by omega)
          have y2 := smallN_lt x2 17 19 10 w2 (by omega) (by omega)
          clear e1 e2
          generalize smallN x1 7 18 3 = s1 at *
          generalize smallN x2 17 19 10 = s2 at *
          have t5 : ((16 : Int) + (k : Int)).toNat = 16 + k := by omega
          have HS2 := hidH (HS.out.drewN (nq + 1))
          have HR2 := hidH (Blk.below HR.out (below_drewN (Below.refl _ _) (nq + 1)))
          have HB2 := hidH (below_drewN HB.out (nq + 1))
          go_region
          have hv : ((x3 : Int) + (x4 : Int) + (s1 : Int) + (s2 : Int)) % 4294967296 = (((x3 + x4 + s1 + s2) % 4294967296 : Nat) : Int) := by simp
          rw [hv]
          have hsz3 : w.heap.size + 1 + 1 < (wr.drewN (nq + 1)).heap.size := Blk.lt HS2.out
          clear hv t5 c1 c2 c3 c4 c5 f5
          go_wp2
          go_roundw
          case rel =>
            refine ⟨k + 1, by omega, by go_num, ?_, blk_far HR2.out (by simp) _, bst HB2.out (by simp; omega) _⟩
            rw [← HSU.out]
            exact Urow.set HS2.out (16 + k) _
          case measure => simp [intOf]; omega
        · obtain rfl : k = 48 := by omega
          have e : part2 l 48 = schedN l := by simp [part2, schedN]
          rw [e] at hS
          have HB := hidH (hB)
          have HS := hidH hS
          have HR := hidH hR
          have hz2 : zs.size = (U (schedN l)).size := by rw [← hzs, U_size, U_size, schedN, schedTo_len]; simp
          have hsz : (Try.prog.info? 109).map (·.size) = some (U (schedN l)).size := by rw [U_size, schedN, schedTo_len]; kernel_rfl
          clear hS hB hR hlt hk
          obtain ⟨os, hos⟩ : ∃ os, U (schedN l) = os := ⟨_, rfl⟩
          have hO := U_one (schedN l)
          rw [Urow, hos] at HS
          rw [hos] at hz2 hsz hO
          have HOS := hidH hos
          have HZ2 := hidH hz2
          have HSZ := hidH hsz
          have HO := hidH hO
          clear hz2 hsz hO hos hcs hzs
          go_wp2_with (first | refine wpList_load_row rfl 109 _ rfl (w.heap.size + 1 + 1) rfl 109 os (0, 0) (.array 64 94) HS.out (by kernel_rfl) rfl HSZ.out ?_ | refine wpList_store_rowTo rfl _ _ _ rfl rfl (w.heap.size + 1) os rfl rfl 109 _ HR.out HSZ.out HZ2.out HO.out ?_)
          exact bodyPost_ret (v := .agg os) (results_cell_row rfl _ _ (w.heap.size + 1) 109 _ (0, 0) (.array 64 94) rfl (setRow_heap _ _ _ _ _ _ HR.out) (by kernel_rfl) rfl HSZ.out) rfl ⟨by rw [HOS.out], below_setRow HB.out (by omega) _⟩
end Go.Proofs.Ytacdnednkglobaa
