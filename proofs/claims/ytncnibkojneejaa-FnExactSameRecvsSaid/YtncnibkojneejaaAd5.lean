/- Addresses: l1Has, slices.Contains; l5Addrs, addrsFault. -/
import Derived.Test.YtncnibkojneejaaP5
import Derived.StillTailTactics
import Derived.Laws.Slices
namespace Go.Proofs.Ytncnibkojneejaa
open Go.RowKit Go.Deep

theorem sizeI64 (u : World) : (sizeOf (Try.prog.elem 24)).run Try.prog u = .ok 1 u := by
  obtain ⟨i0, hi, hzz⟩ := Option.map_eq_some_iff.1 infoI64
  simp only [Prod.mk.injEq] at hzz
  have he : Try.prog.elem 24 = 2 := by kernel_rfl
  rw [he]
  simp [sizeOf, typeInfo, hi, hzz.2.1]
theorem undI : Try.prog.underlying 24 = some (.slice (Try.prog.elem 24)) := by kernel_rfl
theorem cutI_h (A : Option Addr) (z c n : Nat) (H : Int) (hH : H = (n : Int)) (hc : n ≤ c) (u : World) :
    (Instr.slice 24 (.slice A z c) none (some (.int .i64 H)) none).run Try.prog u = .ok (.slice A n c) u := by
  subst hH
  rw [run_slice_h (w := u) 24 A z c undI .i64 (n : Int) (by omega) (by omega)]
  simp only [sizeI64, Result.andThen, sliced]
  rw [Int.toNat_natCast, Nat.sub_zero, Nat.sub_zero, Nat.zero_mul]
  split
  · rfl
  · rcases A with _ | ⟨b, off, sp⟩
    · rfl
    · simp [Addr.add]
theorem is_take {w : World} {A : Option Addr} {l : List Int} {n : Nat} (hA : Is w A l) (hn : n ≤ l.length) : Is w A (l.take n) := by
  rcases hA with h | ⟨b, off, rfl, h2, h3⟩
  · exact .inl (by rw [h]; simp)
  · exact .inr ⟨b, off, rfl, h2, fun j hj => by
      rw [List.length_take] at hj
      rw [h3 j (by omega)]
      simp [List.getD_eq_getElem?_getD, List.getElem?_take_of_lt (show j < n by omega)]⟩
theorem getD_mem {l : List Int} {j : Nat} (hj : j < l.length) : l.getD j 0 ∈ l := by
  rw [List.getD_eq_getElem?_getD, List.getElem?_eq_getElem hj]; exact List.getElem_mem hj
theorem mem_getD {l : List Int} {x : Int} (h : x ∈ l) : ∃ j, j < l.length ∧ l.getD j 0 = x := by
  obtain ⟨j, hj, e⟩ := List.getElem_of_mem h
  exact ⟨j, hj, by rw [List.getD_eq_getElem?_getD, List.getElem?_eq_getElem hj]; exact e⟩
theorem adF_step {l : List Int} {j : Nat} (hj : j < l.length) (h : adF (l.take j) (l.drop j) = adF [] l) :
    adF [] l = if inB (l.getD j 0) 1 255 then (if l.getD j 0 ∈ l.take j then 6 else adF (l.take (j + 1)) (l.drop (j + 1))) else 3 := by
  rw [← h, List.drop_eq_getElem_cons hj, adF, List.take_add_one, List.getElem?_eq_getElem hj, Option.toList_some, List.getD_eq_getElem?_getD, List.getElem?_eq_getElem hj]
  rfl
set_option maxRecDepth 100000 in
set_option maxHeartbeats 1000000 in
theorem l1Has_any (A : Option Addr) (l : List Int) (c : Nat) (x : Int) (w : World) (hA : Is w A l) (hm : (l.length : Int) ≤ 1000000) :
    Calls Try.prog 41 #[.slice A l.length c, .int .i64 x] w fun e w' => e = .returned (.bool (decide (x ∈ l))) ∧ w = w' := by
  have HA := hidH hA
  clear hA
  go_enter Try.func41, Try.ntmps41
  go_wp2
  go_loopw [5] (fun i wr => ∃ j : Nat, j ≤ l.length ∧ i = .int .i64 j ∧ wr = w ∧ ∀ k, k < j → l.getD k 0 ≠ x) (fun i _ => l.length - (intOf i).toNat)
  case atStart => exact ⟨0, by omega, rfl, rfl, fun k hk => by omega⟩
  case round =>
    obtain ⟨j, hj, rfl, rfl, hk⟩ := hrel
    by_cases hlt : j < l.length
    · have hj0 : (0 : Int) ≤ (j : Int) := by omega
      have hj1 : (j : Int) < (l.length : Int) := by omega
      obtain ⟨b, off, rfl, hcell⟩ : ∃ b off, A = some ⟨b, off, none⟩ ∧ wr.cell? ⟨b, off + j, none⟩ = some (.int .i64 (l.getD j 0)) := by
        rcases HA.out with h | ⟨b, off, e, _, h⟩
        · rw [h] at hlt; simp at hlt
        · exact ⟨b, off, e, h j hlt⟩
      have HK := hidH hk
      have HM := hidH (getD_mem hlt)
      obtain ⟨y, hy⟩ : ∃ y, l.getD j 0 = y := ⟨_, rfl⟩
      rw [hy] at hcell HM
      have HY := hidH hy
      clear hk hy
      by_cases e : y = x
      · have e1 : (y == x) = true := by rw [beq_iff_eq]; exact e
        have HD := hidH (show true = decide (x ∈ l) from (decide_eq_true (e ▸ HM.out)).symm)
        clear e
        go_wp2
        go_ret
        exact ⟨by rw [← HD.out]; rfl, rfl⟩
      · have e1 : (y == x) = false := by rw [beq_eq_false_iff_ne]; exact e
        have HN := hidH (show ∀ k, k < j + 1 → l.getD k 0 ≠ x from fun k hk => by
          by_cases e2 : k = j
          · subst e2; rw [HY.out]; exact e
          · exact HK.out k (by omega))
        clear e
        go_wp2
        go_roundw
        case rel => exact ⟨j + 1, by omega, by go_num, trivial, HN.out⟩
        case measure => simp [intOf]; omega
    · obtain rfl : j = l.length := by omega
      have HD := hidH (show false = decide (x ∈ l) from (decide_eq_false (fun h => by obtain ⟨k, h1, h2⟩ := mem_getD h; exact hk k h1 h2)).symm)
      clear hk hlt hj
      go_wp2
      go_ret
      exact ⟨by rw [← HD.out]; rfl, rfl⟩
set_option maxRecDepth 100000 in
set_option maxHeartbeats 1000000 in
theorem index_any (A : Option Addr) (l : List Int) (c : Nat) (x : Int) (w : World) (hA : Is w A l) (hm : (l.length : Int) ≤ 1000000) :
    Calls Try.prog 104 #[.slice A l.length c, .int .i64 x] w fun e w' => ∃ i : Int, e = .returned (.int .i64 i) ∧ decide (0 ≤ i) = decide (x ∈ l) ∧ w = w' := by
  have HA := hidH hA
  clear hA
  go_enter Try.func104, Try.ntmps104
  go_wp2
  go_loopw [8] (fun i wr => ∃ j : Nat, j ≤ l.length ∧ i = .int .i64 j ∧ wr = w ∧ ∀ k, k < j → l.getD k 0 ≠ x) (fun i _ => l.length - (intOf i).toNat)
  case atStart => exact ⟨0, by omega, rfl, rfl, fun k hk => by omega⟩
  case round =>
    obtain ⟨j, hj, rfl, rfl, hk⟩ := hrel
    by_cases hlt : j < l.length
    · have hj0 : (0 : Int) ≤ (j : Int) := by omega
      have hj1 : (j : Int) < (l.length : Int) := by omega
      obtain ⟨b, off, rfl, hcell⟩ : ∃ b off, A = some ⟨b, off, none⟩ ∧ wr.cell? ⟨b, off + j, none⟩ = some (.int .i64 (l.getD j 0)) := by
        rcases HA.out with h | ⟨b, off, e, _, h⟩
        · rw [h] at hlt; simp at hlt
        · exact ⟨b, off, e, h j hlt⟩
      have HK := hidH hk
      have HM := hidH (getD_mem hlt)
      obtain ⟨y, hy⟩ : ∃ y, l.getD j 0 = y := ⟨_, rfl⟩
      rw [hy] at hcell HM
      have HY := hidH hy
      clear hk hy
      by_cases e : y = x
      · have e1 : (x == y) = true := by rw [beq_iff_eq]; exact e.symm
        have HD := hidH (show decide ((0 : Int) ≤ (j : Int)) = decide (x ∈ l) by rw [decide_eq_true (e ▸ HM.out : x ∈ l), decide_eq_true hj0])
        clear e
        go_wp2
        go_ret
        exact ⟨_, rfl, HD.out, rfl⟩
      · have e1 : (x == y) = false := by rw [beq_eq_false_iff_ne]; exact fun h => e h.symm
        have HN := hidH (show ∀ k, k < j + 1 → l.getD k 0 ≠ x from fun k hk => by
          by_cases e2 : k = j
          · subst e2; rw [HY.out]; exact e
          · exact HK.out k (by omega))
        clear e
        go_wp2
        go_roundw
        case rel => exact ⟨j + 1, by omega, by go_num, trivial, HN.out⟩
        case measure => simp [intOf]; omega
    · obtain rfl : j = l.length := by omega
      have HD := hidH (show decide ((0 : Int) ≤ -1) = decide (x ∈ l) by rw [decide_eq_false (fun h => by obtain ⟨k, h1, h2⟩ := mem_getD h; exact hk k h1 h2 : ¬ x ∈ l)]; rfl)
      clear hk hlt hj
      go_wp2
      go_ret
      exact ⟨_, rfl, HD.out, rfl⟩
set_option maxHeartbeats 400000 in
theorem contains_any (A : Option Addr) (l : List Int) (c : Nat) (x : Int) (w : World) (hA : Is w A l) (hm : (l.length : Int) ≤ 1000000) :
    Calls Try.prog 95 #[.slice A l.length c, .int .i64 x] w fun e w' => e = .returned (.bool (decide (x ∈ l))) ∧ w = w' := by
  have HI := hidH (index_any A l c x w hA hm)
  clear hA
  go_enter Try.func95, Try.ntmps95
  go_wp2_with fail
  refine HI.out.mono ?_
  rintro e w2 ⟨i, rfl, hi, rfl⟩
  have HD := hidH hi
  clear HI hi
  go_wp2
  go_ret
  exact ⟨by rw [← HD.out]; rfl, rfl⟩
end Go.Proofs.Ytncnibkojneejaa
