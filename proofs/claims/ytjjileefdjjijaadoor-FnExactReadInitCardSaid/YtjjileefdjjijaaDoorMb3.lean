import Derived.Test.YtjjileefdjjijaaDoorMa7
import Derived.StillTailTactics
import Derived.Laws.Slices
import Derived.Test.YtjjileefdjjijaaDoorMb1

/- Addresses: l1Has, slices.Contains; l5Addrs, addrsFault. -/
namespace Go.Proofs.YtjjileefdjjijaaDoor
open Go.RowKit Go.Deep

theorem sizeI64 (u : World) : (sizeOf (Tryd.prog.elem 37)).run Tryd.prog u = .ok 1 u := by
  obtain ⟨i0, hi, hzz⟩ := Option.map_eq_some_iff.1 infoI64
  simp only [Prod.mk.injEq] at hzz
  have he : Tryd.prog.elem 37 = 2 := by kernel_rfl
  rw [he]
  simp [sizeOf, typeInfo, hi, hzz.2.1]
theorem undI : Tryd.prog.underlying 37 = some (.slice (Tryd.prog.elem 37)) := by kernel_rfl
theorem cutI_h (A : Option Addr) (z c n : Nat) (H : Int) (hH : H = (n : Int)) (hc : n ≤ c) (u : World) :
    (Instr.slice 37 (.slice A z c) none (some (.int .i64 H)) none).run Tryd.prog u = .ok (.slice A n c) u := by
  subst hH
  rw [run_slice_h (w := u) 37 A z c undI .i64 (n : Int) (by omega) (by omega)]
  simp only [sizeI64, Result.andThen, sliced]
  rw [Int.toNat_natCast, Nat.sub_zero, Nat.sub_zero, Nat.zero_mul]
  split
  · rfl
  · rcases A with _ | ⟨b, off, sp⟩
    · rfl
    · simp [Addr.add]
theorem is_take {w : World} {A : Option Addr} {l : List Int} {n : Nat} (hA : Is w A l) (hn : n ≤ l.length) : Is w A (l.take n) := by
  rcases hA with h | ⟨b, off, rfl, h2, h3⟩
  · exact .inl (by rw [h]; simp)
  · exact .inr ⟨b, off, rfl, h2, fun j hj => by
      rw [List.length_take] at hj
      rw [h3 j (by omega)]
      simp [List.getD_eq_getElem?_getD, List.getElem?_take_of_lt (show j < n by omega)]⟩
theorem getD_mem {l : List Int} {j : Nat} (hj : j < l.length) : l.getD j 0 ∈ l := by
  rw [List.getD_eq_getElem?_getD, List.getElem?_eq_getElem hj]; exact List.getElem_mem hj
theorem mem_getD {l : List Int} {x : Int} (h : x ∈ l) : ∃ j, j < l.length ∧ l.getD j 0 = x := by
  obtain ⟨j, hj, e⟩ := List.getElem_of_mem h
  exact ⟨j, hj, by rw [List.getD_eq_getElem?_getD, List.getElem?_eq_getElem hj]; exact e⟩
theorem adF_step {l : List Int} {j : Nat} (hj : j < l.length) (h : adF (l.take j) (l.drop j) = adF [] l) :
    adF [] l = if inB (l.getD j 0) 1 255 then (if l.getD j 0 ∈ l.take j then 6 else adF (l.take (j + 1)) (l.drop (j + 1))) else 3 := by
  rw [← h, List.drop_eq_getElem_cons hj, adF, List.take_add_one, List.getElem?_eq_getElem hj, Option.toList_some, List.getD_eq_getElem?_getD, List.getElem?_eq_getElem hj]
  rfl
set_option maxRecDepth 100000 in
set_option maxHeartbeats 1000000 in
theorem l1Has_any (A : Option Addr) (l : List Int) (c : Nat) (x : Int) (w : World) (hA : Is w A l) (hm : (l.length : Int) ≤ 1000000) :
    Calls Tryd.prog 105 #[.slice A l.length c, .int .i64 x] w fun e w' => e = .returned (.bool (decide (x ∈ l))) ∧ w = w' := by
  have HA := hidH hA
  clear hA
  go_enter Tryd.func105, Tryd.ntmps105
  go_wp2
  go_loopw [5] (fun i wr => ∃ j : Nat, j ≤ l.length ∧ i = .int .i64 j ∧ wr = w ∧ ∀ k, k < j → l.getD k 0 ≠ x) (fun i _ => l.length - (intOf i).toNat)
  case atStart => exact ⟨0, by omega, rfl, rfl, fun k hk => by omega⟩
  case round =>
    obtain ⟨j, hj, rfl, rfl, hk⟩ := hrel
    by_cases hlt : j < l.length
    · have hj0 : (0 : Int) ≤ (j : Int) := by omega
      have hj1 : (j : Int) < (l.length : Int) := by omega
      obtain ⟨b, off, rfl, hcell⟩ : ∃ b off, A = some ⟨b, off, none⟩ ∧ wr.cell? ⟨b, off + j, none⟩ = some (.int .i64 (l.getD j 0)) := by
        rcases HA.out with h | ⟨b, off, e, _, h⟩
        · rw [h] at hlt; simp at hlt
        · exact ⟨b, off, e, h j hlt⟩
      have HK := hidH hk
      have HM := hidH (getD_mem hlt)
      obtain ⟨y, hy⟩ : ∃ y, l.getD j 0 = y := ⟨_, rfl⟩
      rw [hy] at hcell HM
      have HY := hidH hy
      clear hk hy
      by_cases e : y = x
      · have e1 : (y == x) = true := by rw [beq_iff_eq]; exact e
        have HD := hidH (show true = decide (x ∈ l) from (decide_eq_true (e ▸ HM.out)).symm)
        clear e
        go_wp2
        go_ret
        exact ⟨by rw [← HD.out]; rfl, rfl⟩
      · have e1 : (y == x) = false := by rw [beq_eq_false_iff_ne]; exact e
        have HN := hidH (show ∀ k, k < j + 1 → l.getD k 0 ≠ x from fun k hk => by
          by_cases e2 : k = j
          · subst e2; rw [HY.out]; exact e
          · exact HK.out k (by omega))
        clear e
        go_wp2
        go_roundw
        case rel => exact ⟨j + 1, by omega, by go_num, trivial, HN.out⟩
        case measure => simp [intOf]; omega
    · obtain rfl : j = l.length := by omega
      have HD := hidH (show false = decide (x ∈ l) from (decide_eq_false (fun h => by obtain ⟨k, h1, h2⟩ := mem_getD h; exact hk k h1 h2)).symm)
      clear hk hlt hj
      go_wp2
      go_ret
      exact ⟨by rw [← HD.out]; rfl, rfl⟩
set_option maxRecDepth 100000 in
set_option maxHeartbeats 1000000 in
theorem index_any (A : Option Addr) (l : List Int) (c : Nat) (x : Int) (w : World) (hA : Is w A l) (hm : (l.length : Int) ≤ 1000000) :
    Calls Tryd.prog 183 #[.slice A l.length c, .int .i64 x] w fun e w' => ∃ i : Int, e = .returned (.int .i64 i) ∧ decide (0 ≤ i) = decide (x ∈ l) ∧ w = w' := by
  have HA := hidH hA
  clear hA
  go_enter Tryd.func183, Tryd.ntmps183
  go_wp2
  go_loopw [8] (fun i wr => ∃ j : Nat, j ≤ l.length ∧ i = .int .i64 j ∧ wr = w ∧ ∀ k, k < j → l.getD k 0 ≠ x) (fun i _ => l.length - (intOf i).toNat)
  case atStart => exact ⟨0, by omega, rfl, rfl, fun k hk => by omega⟩
  case round =>
    obtain ⟨j, hj, rfl, rfl, hk⟩ := hrel
    by_cases hlt : j < l.length
    · have hj0 : (0 : Int) ≤ (j : Int) := by omega
      have hj1 : (j : Int) < (l.length : Int) := by omega
      obtain ⟨b, off, rfl, hcell⟩ : ∃ b off, A = some ⟨b, off, none⟩ ∧ wr.cell? ⟨b, off + j, none⟩ = some (.int .i64 (l.getD j 0)) := by
        rcases HA.out with h | ⟨b, off, e, _, h⟩
        · rw [h] at hlt; simp at hlt
        · exact ⟨b, off, e, h j hlt⟩
      have HK := hidH hk
      have HM := hidH (getD_mem hlt)
      obtain ⟨y, hy⟩ : ∃ y, l.getD j 0 = y := ⟨_, rfl⟩
      rw [hy] at hcell HM
      have HY := hidH hy
      clear hk hy
      by_cases e : y = x
      · have e1 : (x == y) = true := by rw [beq_iff_eq]; exact e.symm
        have HD := hidH (show decide ((0 : Int) ≤ (j : Int)) = decide (x ∈ l) by rw [decide_eq_true (e ▸ HM.out : x ∈ l), decide_eq_true hj0])
        clear e
        go_wp2
        go_ret
        exact ⟨_, rfl, HD.out, rfl⟩
      · have e1 : (x == y) = false := by rw [beq_eq_false_iff_ne]; exact fun h => e h.symm
        have HN := hidH (show ∀ k, k < j + 1 → l.getD k 0 ≠ x from fun k hk => by
          by_cases e2 : k = j
          · subst e2; rw [HY.out]; exact e
          · exact HK.out k (by omega))
        clear e
        go_wp2
        go_roundw
        case rel => exact ⟨j + 1, by omega, by go_num, trivial, HN.out⟩
        case measure => simp [intOf]; omega
    · obtain rfl : j = l.length := by omega
      have HD := hidH (show decide ((0 : Int) ≤ -1) = decide (x ∈ l) by rw [decide_eq_false (fun h => by obtain ⟨k, h1, h2⟩ := mem_getD h; exact hk k h1 h2 : ¬ x ∈ l)]; rfl)
      clear hk hlt hj
      go_wp2
      go_ret
      exact ⟨_, rfl, HD.out, rfl⟩
set_option maxHeartbeats 400000 in
theorem contains_any (A : Option Addr) (l : List Int) (c : Nat) (x : Int) (w : World) (hA : Is w A l) (hm : (l.length : Int) ≤ 1000000) :
    Calls Tryd.prog 182 #[.slice A l.length c, .int .i64 x] w fun e w' => e = .returned (.bool (decide (x ∈ l))) ∧ w = w' := by
  have HI := hidH (index_any A l c x w hA hm)
  clear hA
  go_enter Tryd.func182, Tryd.ntmps182
  go_wp2_with fail
  refine HI.out.mono ?_
  rintro e w2 ⟨i, rfl, hi, rfl⟩
  have HD := hidH hi
  clear HI hi
  go_wp2
  go_ret
  exact ⟨by rw [← HD.out]; rfl, rfl⟩
set_option maxRecDepth 100000 in
set_option maxHeartbeats 2000000 in
theorem l5Addrs_any (A : Option Addr) (l : List Int) (c : Nat) (w : World) (hA : Is w A l) (hm : (l.length : Int) ≤ 1000) (hc : l.length ≤ c) :
    Calls Tryd.prog 110 #[.slice A l.length c] w fun e w' => e = .returned (.int .i64 (adF [] l)) ∧ Below w.heap.size w w' := by
  have HA := hidH hA
  have HC := hidH hc
  clear hA hc
  go_enter Tryd.func110, Tryd.ntmps110
  go_wp2
  go_loopw [3] (fun i wr => ∃ j : Nat, j ≤ l.length ∧ i = .int .i64 j ∧ Below w.heap.size w wr ∧ adF (l.take j) (l.drop j) = adF [] l) (fun i _ => l.length - (intOf i).toNat)
  case atStart => exact ⟨0, by omega, rfl, Below.refl _ _, by simp⟩
  case round =>
    obtain ⟨j, hj, rfl, hB, hk⟩ := hrel
    by_cases hlt : j < l.length
    · have hj0 : (0 : Int) ≤ (j : Int) := by omega
      have hj1 : (j : Int) < (l.length : Int) := by omega
      have hAr := is_below HA.out hB
      obtain ⟨b, off, rfl, hcell⟩ : ∃ b off, A = some ⟨b, off, none⟩ ∧ wr.cell? ⟨b, off + j, none⟩ = some (.int .i64 (l.getD j 0)) := by
        rcases hAr with h | ⟨b, off, e, _, h⟩
        · rw [h] at hlt; simp at hlt
        · exact ⟨b, off, e, h j hlt⟩
      have HS := hidH (adF_step hlt hk)
      have HH := hidH (fun x => l1Has_any (some ⟨b, off, none⟩) (l.take j) c x wr.drew (is_below (is_take hAr (Nat.le_of_lt hlt)) (Below.refl _ _).drew) (by rw [List.length_take]; omega))
      have hlen : (l.take j).length = j := by rw [List.length_take]; omega
      rw [hlen] at HH
      have hcut := fun u => cutI_h (some ⟨b, off, none⟩) l.length c j (j : Int) rfl (by have := HC.out; omega) u
      have HB := hidH (show Below w.heap.size w wr.drew from hB.drew)
      obtain ⟨x, hx⟩ : ∃ x, l.getD j 0 = x := ⟨_, rfl⟩
      rw [hx] at hcell HS
      clear hk hx hlen hAr hB
      by_cases hv : inB x 1 255 = true
      · go_wp2_with (first | (go_at_call 115; refine (l5Addr_any _ _).mono ?_; rintro e w' ⟨rfl, rfl⟩))
        go_still_tail 7, (by kernel_rfl)
        change wpList _ _ _ _ _ wr.drew
        go_wp2_with fail
        refine (HH.out _).mono ?_
        rintro e w3 ⟨rfl, rfl⟩
        by_cases hm2 : x ∈ l.take j
        · have HR := hidH (show adF [] l = 6 by rw [HS.out, hv, if_pos rfl, if_pos hm2])
          rw [decide_eq_true hm2]
          clear hm2 HH
          go_wp2
          go_ret
          exact ⟨ret_int HR.out.symm, HB.out⟩
        · have HR := hidH (show adF (l.take (j + 1)) (l.drop (j + 1)) = adF [] l by rw [HS.out, hv, if_pos rfl, if_neg hm2])
          rw [decide_eq_false hm2]
          clear hm2 HH
          go_wp2
          go_roundw
          case rel => exact ⟨j + 1, by omega, by go_num, HB.out, HR.out⟩
          case measure => simp [intOf]; omega
      · have hv : inB x 1 255 = false := by simpa using hv
        have HR := hidH (show adF [] l = 3 by rw [HS.out, hv]; rfl)
        have HBB := hidH (show Below w.heap.size w wr from ⟨HB.out.os, HB.out.tape, HB.out.output, HB.out.size, HB.out.block⟩)
        clear HH
        go_wp2_with (first | (go_at_call 115; refine (l5Addr_any _ _).mono ?_; rintro e w' ⟨rfl, rfl⟩))
        go_ret
        exact ⟨ret_int HR.out.symm, HBB.out⟩
    · obtain rfl : j = l.length := by omega
      have HR := hidH (show adF [] l = 0 by rw [← hk, List.drop_length]; rfl)
      have HBB := hidH hB
      clear hk hlt hj hB
      go_wp2
      go_ret
      exact ⟨ret_int HR.out.symm, HBB.out⟩
end Go.Proofs.YtjjileefdjjijaaDoor

/- The program's addrsFault, greeting: fault. -/
namespace Go.Proofs.YtjjileefdjjijaaDoor
open Go.RowKit Go.Deep

set_option maxRecDepth 100000 in
set_option maxHeartbeats 4000000 in
theorem addrsF_any (A : Option Addr) (l : List Int) (c : Nat) (w : World) (hA : Is w A l) (hm : (l.length : Int) ≤ 9223372036854775807) (hc : l.length ≤ c) :
    Calls Tryd.prog 181 #[.slice A l.length c] w fun e w' => e = .returned (.int .i64 (if 1 ≤ l.length ∧ l.length ≤ 5 then adF [] l else 2)) ∧ w = w' := by
  by_cases h0 : l.length < 1
  · rw [if_neg (by omega)]
    have h0' : ((l.length : Int) == 0) = true := by rw [beq_iff_eq]; omega
    clear h0
    go_enter Tryd.func181, Tryd.ntmps181
    go_wp2
    go_ret
    exact ⟨rfl, rfl⟩
  · have h0' : ((l.length : Int) == 0) = false := by rw [beq_eq_false_iff_ne]; omega
    by_cases h5 : 5 < l.length
    · rw [if_neg (by omega)]
      have h5' : (5 : Int) < (l.length : Int) := by omega
      clear h0 h5
      go_enter Tryd.func181, Tryd.ntmps181
      go_wp2
      go_ret
      exact ⟨rfl, rfl⟩
    · rw [if_pos (by omega)]
      have h5' : ¬ (5 : Int) < (l.length : Int) := by omega
      have HA := hidH hA
      have HC := hidH hc
      have hlm : (l.length : Int) ≤ 5 := by omega
      clear hA hc h0 h5
      go_enter Tryd.func181, Tryd.ntmps181
      go_wp2
      go_loopw [15] (fun i wr => ∃ j : Nat, j ≤ l.length ∧ i = .int .i64 j ∧ wr = w ∧ adF (l.take j) (l.drop j) = adF [] l) (fun i _ => l.length - (intOf i).toNat)
      case atStart => exact ⟨0, by omega, rfl, rfl, by simp⟩
      case round =>
        obtain ⟨j, hj, rfl, rfl, hk⟩ := hrel
        by_cases hlt : j < l.length
        · have hj0 : (0 : Int) ≤ (j : Int) := by omega
          have hj1 : (j : Int) < (l.length : Int) := by omega
          obtain ⟨b, off, rfl, hcell⟩ : ∃ b off, A = some ⟨b, off, none⟩ ∧ wr.cell? ⟨b, off + j, none⟩ = some (.int .i64 (l.getD j 0)) := by
            rcases HA.out with h | ⟨b, off, e, _, h⟩
            · rw [h] at hlt; simp at hlt
            · exact ⟨b, off, e, h j hlt⟩
          have HS := hidH (adF_step hlt hk)
          have HH := hidH (fun x => contains_any (some ⟨b, off, none⟩) (l.take j) c x wr (is_take HA.out (Nat.le_of_lt hlt)) (by rw [List.length_take]; omega))
          have hlen : (l.take j).length = j := by rw [List.length_take]; omega
          rw [hlen] at HH
          have hcut := fun u => cutI_h (some ⟨b, off, none⟩) l.length c j (j : Int) rfl (by have := HC.out; omega) u
          obtain ⟨x, hx⟩ : ∃ x, l.getD j 0 = x := ⟨_, rfl⟩
          rw [hx] at hcell HS
          clear hk hx hlen
          by_cases hv : inB x 1 255 = true
          · go_wp2_with (first | (go_at_call 175; refine (isAddr_any _ _).mono ?_; rintro e w' ⟨rfl, rfl⟩))
            refine (HH.out _).mono ?_
            rintro e w3 ⟨rfl, rfl⟩
            by_cases hm2 : x ∈ l.take j
            · have HR := hidH (show adF [] l = 6 by rw [HS.out, hv, if_pos rfl, if_pos hm2])
              rw [decide_eq_true hm2]
              clear hm2 HH
              go_wp2
              go_ret
              exact ⟨ret_int HR.out.symm, rfl⟩
            · have HR := hidH (show adF (l.take (j + 1)) (l.drop (j + 1)) = adF [] l by rw [HS.out, hv, if_pos rfl, if_neg hm2])
              rw [decide_eq_false hm2]
              clear hm2 HH
              go_wp2
              go_roundw
              case rel => exact ⟨j + 1, by omega, by go_num, trivial, HR.out⟩
              case measure => simp [intOf]; omega
          · have hv : inB x 1 255 = false := by simpa using hv
            have HR := hidH (show adF [] l = 3 by rw [HS.out, hv]; rfl)
            clear HH
            go_wp2_with (first | (go_at_call 175; refine (isAddr_any _ _).mono ?_; rintro e w' ⟨rfl, rfl⟩))
            go_ret
            exact ⟨ret_int HR.out.symm, rfl⟩
        · obtain rfl : j = l.length := by omega
          have HR := hidH (show adF [] l = 0 by rw [← hk, List.drop_length]; rfl)
          clear hk hlt hj
          go_wp2
          go_ret
          exact ⟨ret_int HR.out.symm, rfl⟩
theorem piF_no {y : InitM} {k : Int} (h : ¬ (k = 1 ∨ k = 2)) : piF y k = 3 := by rw [piF, if_neg h]
theorem piF_yes {y : InitM} {k : Int} (h : k = 1 ∨ k = 2) : piF y k = inF y := by rw [piF, if_pos h]
theorem inF_range {y : InitM} (h : ¬ (inB y.Tag 1 4294967295 && wB y.Tsn) = true) : inF y = 3 := by rw [inF, if_neg h]
theorem inF_rand {y : InitM} (h : (inB y.Tag 1 4294967295 && wB y.Tsn) = true) (h2 : y.Random.length ≠ 16) : inF y = 2 := by rw [inF, if_pos h, if_neg (fun q => h2 q.1)]
theorem inF_many {y : InitM} (h : (inB y.Tag 1 4294967295 && wB y.Tsn) = true) (h2 : ¬ (1 ≤ y.Addrs.length ∧ y.Addrs.length ≤ 5)) : inF y = 2 := by rw [inF, if_pos h, if_neg (fun q => h2 q.2)]
theorem inF_addr {y : InitM} (h : (inB y.Tag 1 4294967295 && wB y.Tsn) = true) (h1 : y.Random.length = 16) (h2 : 1 ≤ y.Addrs.length ∧ y.Addrs.length ≤ 5) (h3 : adF [] y.Addrs ≠ 0) : inF y = adF [] y.Addrs := by rw [inF, if_pos h, if_pos ⟨h1, h2⟩, if_neg h3]
theorem inF_last {y : InitM} (h : (inB y.Tag 1 4294967295 && wB y.Tsn) = true) (h1 : y.Random.length = 16) (h2 : 1 ≤ y.Addrs.length ∧ y.Addrs.length ≤ 5) (h3 : adF [] y.Addrs = 0) : inF y = if y.Cookie.length ≤ 100 then 0 else 2 := by rw [inF, if_pos h, if_pos ⟨h1, h2⟩, if_pos h3]
theorem tag_b {t : Int} : inB t 1 4294967295 = (!(t == 0) && wB t) := by
  unfold wB inB
  by_cases e : t = 0
  · subst e; rfl
  · have : (t == 0) = false := by rw [beq_eq_false_iff_ne]; exact e
    rw [this]
    by_cases h1 : t ≤ 4294967295
    · by_cases h0 : 0 ≤ t
      · simp [h1, h0]; omega
      · simp [h1, h0]; omega
    · simp [h1]
set_option maxRecDepth 100000 in
set_option maxHeartbeats 8000000 in
theorem inF_impl (y : InitM) (k : Int) (A2 : Option Addr) (c2 : Nat) (A3 : Option Addr) (c3 : Nat) (A4 : Option Addr) (c4 : Nat) (w : World) (h : RdA w y.vs [.int .i64 y.Tag, .int .i64 y.Tsn, .slice A2 y.Random.length c2, .slice A3 y.Addrs.length c3, .slice A4 y.Cookie.length c4]) :
    Calls Tryd.prog 179 #[.agg #[.int .i64 y.Tag, .int .i64 y.Tsn, .slice A2 y.Random.length c2, .slice A3 y.Addrs.length c3, .slice A4 y.Cookie.length c4, .int .i64 k]] w fun e w' => e = .returned (.int .i64 (piF y k)) ∧ Below w.heap.size w w' := by
  have h' : RdA w [.int y.Tag, .int y.Tsn, .bs y.Random, .is y.Addrs, .bs y.Cookie] _ := h
  obtain ⟨_, _, e2, l2, _⟩ := h'.tl.tl.hd.bs_out
  obtain ⟨A3', c3', e3, l3, hA3⟩ := h'.tl.tl.tl.hd.is_out
  injection e3 with q1 q2 q3
  subst q1 q3
  obtain ⟨_, _, e4, l4, _⟩ := h'.tl.tl.tl.tl.hd.bs_out
  have hm2 := l2.len
  have hm3 := l3.len
  have hm4 := l4.len
  have B1 := bal (Below.refl w.heap.size w) (.cells #[.int .i64 y.Tag, .int .i64 y.Tsn, .slice A2 y.Random.length c2, .slice A3 y.Addrs.length c3, .slice A4 y.Cookie.length c4, .int .i64 k] 100)
  have K1 := Blk.new w 100 #[.int .i64 y.Tag, .int .i64 y.Tsn, .slice A2 y.Random.length c2, .slice A3 y.Addrs.length c3, .slice A4 y.Cookie.length c4, .int .i64 k]
  obtain ⟨w1, hw1⟩ : ∃ w1, w.alloc (.cells #[.int .i64 y.Tag, .int .i64 y.Tsn, .slice A2 y.Random.length c2, .slice A3 y.Addrs.length c3, .slice A4 y.Cookie.length c4, .int .i64 k] 100) = w1 := ⟨_, rfl⟩
  rw [hw1] at B1 K1
  have k0 := K1.cell 0
  have k1 := K1.cell 1
  have k2 := K1.cell 2
  have k3 := K1.cell 3
  have k4 := K1.cell 4
  have k5 := K1.cell 5
  simp only [List.getElem?_toArray, List.getElem?_cons_succ, List.getElem?_cons_zero] at k0 k1 k2 k3 k4 k5
  have hk := K1.lt
  have HB := hidH B1
  have HF := hidH (addrsF_any A3 y.Addrs c3 w1 (is_below hA3 B1) hm3 l3.1)
  clear h h' e2 l2 l3 hA3 e4 l4 B1 K1
  by_cases hkk : k = 1 ∨ k = 2
  · have HP := hidH (piF_yes (y := y) hkk)
    have hkb : (k != 1 && k != 2) = false := by rcases hkk with rfl | rfl <;> rfl
    have hk1 : (k != 1) = true → (k != 2) = false := by intro h; rw [h] at hkb; simpa using hkb
    rw [HP.out]
    by_cases ht : (inB y.Tag 1 4294967295 && wB y.Tsn) = true
    · have ht2 := ht
      rw [tag_b, Bool.and_eq_true, Bool.and_eq_true] at ht2
      obtain ⟨⟨t0, t1⟩, t2⟩ := ht2
      have t0 : (y.Tag == 0) = false := by simpa using t0
      by_cases hr : y.Random.length = 16
      · have hrb : ((y.Random.length : Int) != 16) = false := by rw [bne_eq_false_iff_eq]; omega
        by_cases ha : 1 ≤ y.Addrs.length ∧ y.Addrs.length ≤ 5
        · rw [if_pos ha] at HF
          by_cases hz : adF [] y.Addrs = 0
          · have HE := hidH (inF_last ht hr ha hz)
            rw [hz] at HF
            rw [HE.out]
            clear ht hr ha hz HE
            by_cases hc : y.Cookie.length ≤ 100
            · rw [if_pos hc]
              have hc' : ¬ (100 : Int) < (y.Cookie.length : Int) := by omega
              clear hc
              rcases hkk with rfl | rfl
              all_goals
                clear hkb hk1
                go_enter Tryd.func179, Tryd.ntmps179
                go_wp2_with (first | (go_at_call 161; refine (isWord_any _ _).mono ?_; rintro e w' ⟨rfl, rfl⟩))
                refine HF.out.mono ?_
                rintro e w3 ⟨rfl, rfl⟩
                clear HF
                go_wp2
                go_ret
                exact ⟨rfl, HB.out⟩
            · rw [if_neg hc]
              have hc' : (100 : Int) < (y.Cookie.length : Int) := by omega
              clear hc
              rcases hkk with rfl | rfl
              all_goals
                clear hkb hk1
                go_enter Tryd.func179, Tryd.ntmps179
                go_wp2_with (first | (go_at_call 161; refine (isWord_any _ _).mono ?_; rintro e w' ⟨rfl, rfl⟩))
                refine HF.out.mono ?_
                rintro e w3 ⟨rfl, rfl⟩
                clear HF
                go_wp2
                go_ret
                exact ⟨rfl, HB.out⟩
          · have HE := hidH (inF_addr ht hr ha hz)
            rw [HE.out]
            obtain ⟨F, hF⟩ : ∃ F, adF [] y.Addrs = F := ⟨_, rfl⟩
            rw [hF] at HF hz ⊢
            have hne : (F != 0) = true := by rw [bne_iff_ne]; exact hz
            clear ht hr ha hz HE hF
            rcases hkk with rfl | rfl
            all_goals
              clear hkb hk1
              go_enter Tryd.func179, Tryd.ntmps179
              go_wp2_with (first | (go_at_call 161; refine (isWord_any _ _).mono ?_; rintro e w' ⟨rfl, rfl⟩))
              refine HF.out.mono ?_
              rintro e w3 ⟨rfl, rfl⟩
              clear HF
              go_wp2
              go_ret
              exact ⟨rfl, HB.out⟩
        · rw [if_neg ha] at HF
          rw [inF_many ht ha]
          clear ht hr ha
          rcases hkk with rfl | rfl
          all_goals
            clear hkb hk1
            go_enter Tryd.func179, Tryd.ntmps179
            go_wp2_with (first | (go_at_call 161; refine (isWord_any _ _).mono ?_; rintro e w' ⟨rfl, rfl⟩))
            refine HF.out.mono ?_
            rintro e w3 ⟨rfl, rfl⟩
            clear HF
            go_wp2
            go_ret
            exact ⟨rfl, HB.out⟩
      · have hrb : ((y.Random.length : Int) != 16) = true := by rw [bne_iff_ne]; omega
        rw [inF_rand ht hr]
        clear ht hr HF
        rcases hkk with rfl | rfl
        all_goals
          clear hkb hk1
          go_enter Tryd.func179, Tryd.ntmps179
          go_wp2_with (first | (go_at_call 161; refine (isWord_any _ _).mono ?_; rintro e w' ⟨rfl, rfl⟩))
          go_ret
          exact ⟨rfl, HB.out⟩
    · rw [inF_range ht]
      rw [tag_b, Bool.and_assoc] at ht
      clear HF
      by_cases t0 : (y.Tag == 0) = true
      · rcases hkk with rfl | rfl
        all_goals
          clear hkb hk1 ht
          go_enter Tryd.func179, Tryd.ntmps179
          go_wp2_with (first | (go_at_call 161; refine (isWord_any _ _).mono ?_; rintro e w' ⟨rfl, rfl⟩))
          go_ret
          exact ⟨rfl, HB.out⟩
      · have t0 : (y.Tag == 0) = false := by simpa using t0
        rw [t0] at ht
        by_cases t1 : wB y.Tag = true
        · have t2 : wB y.Tsn = false := by rw [t1] at ht; simpa using ht
          rcases hkk with rfl | rfl
          all_goals
            clear hkb hk1 ht
            go_enter Tryd.func179, Tryd.ntmps179
            go_wp2_with (first | (go_at_call 161; refine (isWord_any _ _).mono ?_; rintro e w' ⟨rfl, rfl⟩))
            go_ret
            exact ⟨rfl, HB.out⟩
        · have t1 : wB y.Tag = false := by simpa using t1
          rcases hkk with rfl | rfl
          all_goals
            clear hkb hk1 ht
            go_enter Tryd.func179, Tryd.ntmps179
            go_wp2_with (first | (go_at_call 161; refine (isWord_any _ _).mono ?_; rintro e w' ⟨rfl, rfl⟩))
            go_ret
            exact ⟨rfl, HB.out⟩
  · rw [piF_no hkk]
    have n1 : (k != 1) = true := by rw [bne_iff_ne]; exact fun h => hkk (.inl h)
    have n2 : (k != 2) = true := by rw [bne_iff_ne]; exact fun h => hkk (.inr h)
    clear HF hkk
    go_enter Tryd.func179, Tryd.ntmps179
    go_wp2_with (first | (go_at_call 161; refine (isWord_any _ _).mono ?_; rintro e w' ⟨rfl, rfl⟩))
    go_ret
    exact ⟨rfl, HB.out⟩
end Go.Proofs.YtjjileefdjjijaaDoor

/- The program's greeting: write. -/
namespace Go.Proofs.YtjjileefdjjijaaDoor
open Go.RowKit Go.Deep

set_option maxRecDepth 100000 in
set_option maxHeartbeats 4000000 in
theorem inW_impl (r : Nat) (y : InitM) (k : Int) (A2 : Option Addr) (c2 : Nat) (A3 : Option Addr) (c3 : Nat) (A4 : Option Addr) (c4 : Nat) (w0 w : World) (h : RdA w0 y.vs [.int .i64 y.Tag, .int .i64 y.Tsn, .slice A2 y.Random.length c2, .slice A3 y.Addrs.length c3, .slice A4 y.Cookie.length c4]) (hb0 : Below w0.heap.size w0 w) (h0 : w0.heap.size ≤ r) (hr : WR w r []) (hf : piF y k = 0) :
    Calls Tryd.prog 180 #[.agg #[.int .i64 y.Tag, .int .i64 y.Tsn, .slice A2 y.Random.length c2, .slice A3 y.Addrs.length c3, .slice A4 y.Cookie.length c4, .int .i64 k], .pointer (some ⟨r, 0, none⟩)] w (Wrote r (piC y k).Body w) := by
  obtain ⟨⟨a1, a2⟩, ⟨b1, b2⟩, ⟨d1, d2, d3⟩, had, d4⟩ := inF_zero (piF_zero hf).2
  have h' : RdA w0 [.int y.Tag, .int y.Tsn, .bs y.Random, .is y.Addrs, .bs y.Cookie] _ := h
  have hA2 := bsOf h'.tl.tl.hd
  have hA3 := isOf h'.tl.tl.tl.hd
  have hA4 := bsOf h'.tl.tl.tl.tl.hd
  have HA2 := hidH (And.intro (bs_below hA2 hb0) (bs_lo0 hA2 h0))
  have HA3 := hidH (And.intro (is_below hA3 hb0) (is_lo0 hA3 h0))
  have HA4 := hidH (And.intro (bs_below hA4 hb0) (bs_lo0 hA4 h0))
  have HV := hidH (show ∀ j, j < y.Addrs.length → 0 ≤ y.Addrs.getD j 0 ∧ y.Addrs.getD j 0 ≤ 255 from fun j hj => by
    have := adF_zero _ _ had (y.Addrs.getD j 0) (by rw [List.getD_eq_getElem?_getD, List.getElem?_eq_getElem hj]; exact List.getElem_mem hj)
    omega)
  have HRL := hidH hr.lt
  have HD := hidH (And.intro d1 (And.intro d2 (And.intro d3 d4)))
  have d1I : (y.Random.length : Int) = 16 := by omega
  have d4I : (y.Cookie.length : Int) ≤ 100 := by omega
  have t0 : 0 ≤ y.Tag := by omega
  have K1 := Blk.new w 100 #[.int .i64 y.Tag, .int .i64 y.Tsn, .slice A2 y.Random.length c2, .slice A3 y.Addrs.length c3, .slice A4 y.Cookie.length c4, .int .i64 k]
  have B1 := bal (Below.refl w.heap.size w) (.cells #[.int .i64 y.Tag, .int .i64 y.Tsn, .slice A2 y.Random.length c2, .slice A3 y.Addrs.length c3, .slice A4 y.Cookie.length c4, .int .i64 k] 100)
  obtain ⟨w1, hw1⟩ : ∃ w1, w.alloc (.cells #[.int .i64 y.Tag, .int .i64 y.Tsn, .slice A2 y.Random.length c2, .slice A3 y.Addrs.length c3, .slice A4 y.Cookie.length c4, .int .i64 k] 100) = w1 := ⟨_, rfl⟩
  rw [hw1] at K1 B1
  have hne : w.heap.size ≠ r := by have := hr.lt; omega
  have HW1 := hidH hw1
  have HN := hidH hne
  have HT := hidH (And.intro (hr.below B1) (And.intro (B1.mono (Nat.le_of_lt hr.lt)) (And.intro (OthK.of_below (r := r) B1) K1)))
  clear hw1 K1 B1 hne hr
  clear h h' hA2 hA3 hA4 hb0 h0 hf had d1 d2 d3 d4 a1
  go_enter Tryd.func180, Tryd.ntmps180
  have k0 := HT.out.2.2.2.cell 0
  simp only [List.getElem?_toArray, List.getElem?_cons_zero] at k0
  have hk := HT.out.2.2.2.lt
  have HP := hidH (wword_any r ([]) y.Tag w1 HT.out.1 t0 a2 (by simp))
  unfold Wrote at HP
  go_wp2_with fail
  rw [HW1.out]
  go_wp2_with fail
  refine HP.out.mono ?_
  rintro e w2 ⟨rfl, hw, hb, ho⟩
  replace HT := hidH (And.intro hw (And.intro (HT.out.2.1.trans hb) (And.intro (OthK.trans HT.out.2.2.1 ho) (ho _ _ _ HN.out (by decide) HT.out.2.2.2))))
  clear HP hw hb ho k0 hk
  have k1 := HT.out.2.2.2.cell 1
  simp only [List.getElem?_toArray, List.getElem?_cons_succ, List.getElem?_cons_zero] at k1
  have hk := HT.out.2.2.2.lt
  have HP := hidH (wword_any r ([] ++ pk y.Tag) y.Tsn w2 HT.out.1 b1 b2 (by simp [pk]))
  unfold Wrote at HP
  go_wp2_with fail
  refine HP.out.mono ?_
  rintro e w3 ⟨rfl, hw, hb, ho⟩
  replace HT := hidH (And.intro hw (And.intro (HT.out.2.1.trans hb) (And.intro (OthK.trans HT.out.2.2.1 ho) (ho _ _ _ HN.out (by decide) HT.out.2.2.2))))
  clear HP hw hb ho k1 hk
  have HB2 := hidH (bs_lo HA2.out.1 HA2.out.2 HT.out.2.1 HRL.out)
  have k2 := HT.out.2.2.2.cell 2
  simp only [List.getElem?_toArray, List.getElem?_cons_succ, List.getElem?_cons_zero] at k2
  have hk := HT.out.2.2.2.lt
  have HP := hidH (put_any r ([] ++ pk y.Tag ++ pk y.Tsn) y.Random A2 c2 w3 HT.out.1 HB2.out (by have := HD.out; simp [pk]; omega))
  unfold Wrote at HP
  go_wp2_with fail
  refine HP.out.mono ?_
  rintro e w4 ⟨rfl, hw, hb, ho⟩
  replace HT := hidH (And.intro hw (And.intro (HT.out.2.1.trans hb) (And.intro (OthK.trans HT.out.2.2.1 ho) (ho _ _ _ HN.out (by decide) HT.out.2.2.2))))
  clear HP hw hb ho k2 hk
  have HB3 := hidH (is_lo HA3.out.1 HA3.out.2 HT.out.2.1 HRL.out)
  have k3 := HT.out.2.2.2.cell 3
  simp only [List.getElem?_toArray, List.getElem?_cons_succ, List.getElem?_cons_zero] at k3
  have hk := HT.out.2.2.2.lt
  have HP := hidH (wnumbers_any r ([] ++ pk y.Tag ++ pk y.Tsn ++ y.Random) y.Addrs A3 c3 w4 HT.out.1 HB3.out HA3.out.2 HV.out (by have := HD.out; simp [pk]; omega) (by have := HD.out; omega))
  unfold Wrote at HP
  go_wp2_with fail
  refine HP.out.mono ?_
  rintro e w5 ⟨rfl, hw, hb, ho⟩
  replace HT := hidH (And.intro hw (And.intro (HT.out.2.1.trans hb) (And.intro (OthK.trans HT.out.2.2.1 ho) (ho _ _ _ HN.out (by decide) HT.out.2.2.2))))
  clear HP hw hb ho k3 hk
  have k4 := HT.out.2.2.2.cell 4
  simp only [List.getElem?_toArray, List.getElem?_cons_succ, List.getElem?_cons_zero] at k4
  have hk := HT.out.2.2.2.lt
  have HP := hidH (wcount_any r ([] ++ pk y.Tag ++ pk y.Tsn ++ y.Random ++ ((y.Addrs.length : Int) :: y.Addrs)) (y.Cookie.length : Int) w5 HT.out.1 (by omega) (by omega) (by have := HD.out; simp [pk]; omega))
  unfold Wrote at HP
  go_wp2_with fail
  refine HP.out.mono ?_
  rintro e w6 ⟨rfl, hw, hb, ho⟩
  replace HT := hidH (And.intro hw (And.intro (HT.out.2.1.trans hb) (And.intro (OthK.trans HT.out.2.2.1 ho) (ho _ _ _ HN.out (by decide) HT.out.2.2.2))))
  clear HP hw hb ho k4 hk
  have HB4 := hidH (bs_lo HA4.out.1 HA4.out.2 HT.out.2.1 HRL.out)
  have k4 := HT.out.2.2.2.cell 4
  simp only [List.getElem?_toArray, List.getElem?_cons_succ, List.getElem?_cons_zero] at k4
  have hk := HT.out.2.2.2.lt
  have HP := hidH (put_any r ([] ++ pk y.Tag ++ pk y.Tsn ++ y.Random ++ ((y.Addrs.length : Int) :: y.Addrs) ++ [(y.Cookie.length : Int)]) y.Cookie A4 c4 w6 HT.out.1 HB4.out (by have := HD.out; simp [pk]; omega))
  unfold Wrote at HP
  go_wp2_with fail
  refine HP.out.mono ?_
  rintro e w7 ⟨rfl, hw, hb, ho⟩
  replace HT := hidH (And.intro hw (And.intro (HT.out.2.1.trans hb) (And.intro (OthK.trans HT.out.2.2.1 ho) (ho _ _ _ HN.out (by decide) HT.out.2.2.2))))
  clear HP hw hb ho k4 hk
  go_wp2
  exact bodyPost_ret (v := .tuple #[]) (by simp [results, Tryd.results180, go_sem]) rfl ⟨rfl, by simpa [piC, inL] using HT.out.1, HT.out.2.1, HT.out.2.2.1⟩
end Go.Proofs.YtjjileefdjjijaaDoor
