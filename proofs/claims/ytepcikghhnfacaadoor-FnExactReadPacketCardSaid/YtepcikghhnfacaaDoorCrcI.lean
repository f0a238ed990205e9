/- The program's Crc32c. -/
import Derived.Test.YtepcikghhnfacaaDoorCrcS
namespace Go.Proofs.YtepcikghhnfacaaDoor
open Go.RowKit Go.Deep

set_option maxHeartbeats 1000000 in
theorem div_any (n : Nat) (w : World) (hn : n < 4294967296) : Calls Tryd.prog 74 #[.int .u32 (n : Int)] w fun e w' => e = .returned (.int .u32 ((crcBit n : Nat) : Int)) ∧ w = w' := by
  have hn3 : (n : Int) ≤ 4294967295 := by omega
  by_cases hodd : n % 2 = 1
  · have hI : (((n : Int) % 2) == 1) = true := by rw [beq_iff_eq]; omega
    have hv : crcBit n = n / 2 ^^^ 2197175160 := by rw [crcBit, if_pos hodd]
    have hxq := u32_xor_nat (n / 2) 2197175160 (by omega) (by omega)
    rw [show ((n / 2 : Nat) : Int) = (n : Int) / 2 from by simp, show ((2197175160 : Nat) : Int) = 2197175160 from rfl] at hxq
    rw [hv]
    clear hodd hv
    go_enter Tryd.func74, Tryd.ntmps74
    go_wp2
    go_ret
    exact ⟨rfl, rfl⟩
  · have hI : (((n : Int) % 2) == 1) = false := by rw [beq_eq_false_iff_ne]; omega
    have hv : ((crcBit n : Nat) : Int) = (n : Int) / 2 := by rw [crcBit, if_neg hodd]; simp
    rw [hv]
    clear hodd hv
    go_enter Tryd.func74, Tryd.ntmps74
    go_wp2
    go_ret
    exact ⟨rfl, rfl⟩
set_option maxHeartbeats 2000000 in
theorem crc_impl (A : Option Addr) (l : List Int) (c : Nat) (w : World) (hA : Bs w A l) (hl : Bytes l) (hm : (l.length : Int) ≤ 9223372036854775807) :
    Calls Tryd.prog 61 #[.slice A l.length c] w (fun e w' => e = .returned (.agg #[.int .i64 (crcC l), .int .i64 (crcN l)]) ∧ Below w.heap.size w w') := by
  by_cases h : l.length ≤ 700
  · have e1 : crcC l = 0 := by rw [crcC, if_pos h]
    have e2 : crcN l = ((crcV (nB l) : Nat) : Int) := by rw [crcN, if_pos h]
    rw [e1, e2]
    have h1 : (l.length : Int) ≤ 700 := by omega
    have hb := nB_lt hl
    have hgt := nB_get l
    have hnl : (nB l).length = l.length := by simp [nB]
    have hend : crcV (nB l) = crcP (nB l) l.length ^^^ 4294967295 := by rw [crcV, crcP, ← hnl, List.take_length]
    have hvlt : crcV (nB l) < 4294967296 := crcV_lt hb
    obtain ⟨nb, hnb⟩ : ∃ nb, nB l = nb := ⟨_, rfl⟩
    simp only [hnb] at hb hgt hnl hend hvlt ⊢
    have HA := hidH (bs_below hA (bal (Below.refl _ w) (.cells #[.int .i64 0, .int .i64 0] 59)))
    have HB := hidH hb
    have HG := hidH hgt
    have HN := hidH hnl
    have HE := hidH hend
    have HV := hidH hvlt
    have X0 := hidH (Blk.new w 59 #[.int .i64 0, .int .i64 0])
    have B0 := hidH (bal (Below.refl w.heap.size w) (.cells #[.int .i64 0, .int .i64 0] 59))
    clear hA hb hgt hnl hend hnb e1 e2 h hvlt
    go_enter Tryd.func61, Tryd.ntmps61
    go_wp2
    obtain ⟨W, hW⟩ : ∃ W, w.alloc (.cells #[.int .i64 0, .int .i64 0] 59) = W := ⟨_, rfl⟩
    rw [hW] at HA X0 B0 ⊢
    go_loopw [3, 12] (fun n i wr => ∃ k : Nat, k ≤ l.length ∧ i = .int .i64 k ∧ n = .int .u32 ((crcP nb k : Nat) : Int) ∧ wr = W) (fun _ i _ => l.length - (intOf i).toNat)
    case atStart => exact ⟨0, Nat.zero_le _, rfl, rfl, rfl⟩
    case round =>
      obtain ⟨k, hk, rfl, rfl, rfl⟩ := hrel
      have hP := crcP_lt HB.out k
      by_cases hlt : k < l.length
      · have hi0 : (0 : Int) ≤ (k : Int) := by omega
        have hi1 : (k : Int) < (l.length : Int) := by omega
        obtain ⟨b, off, rfl, _, hcc⟩ : ∃ b off, A = some ⟨b, off, none⟩ ∧ b < wr.heap.size ∧ ∀ j, j < l.length → wr.cell? ⟨b, off + j, none⟩ = some (.int .u8 (l.getD j 0)) := by
          rcases HA.out with h | h
          · rw [h] at hlt; simp at hlt
          · exact h
        have c1 : wr.cell? ⟨b, off + k, none⟩ = some (.int .u8 (l.getD k 0)) := hcc k hlt
        have hx := hl.get k
        have hsuc := crcP_succ nb k (by rw [HN.out]; exact hlt)
        rw [HG.out k] at hsuc
        obtain ⟨x, hxe⟩ : ∃ x : Nat, l.getD k 0 = x := ⟨(l.getD k 0).toNat, by omega⟩
        rw [hxe] at c1 hx hsuc
        rw [Int.toNat_natCast] at hsuc
        have hx2 : x < 256 := by omega
        have HS := hidH hsuc
        obtain ⟨y, hy⟩ : ∃ y, crcP nb k = y := ⟨_, rfl⟩
        rw [hy] at hP HS ⊢
        have hxx := u32_xor_nat y x hP (by omega)
        obtain ⟨z, hz⟩ : ∃ z, y ^^^ x = z := ⟨_, rfl⟩
        have hz2 : z < 4294967296 := by rw [← hz]; exact crc_xor_lt hP hx2
        rw [hz] at hxx HS
        clear hcc hxe hsuc hy hz hP
        go_wp2
        go_loopw [3, 20] (fun n j wq => ∃ t : Nat, t ≤ 8 ∧ j = .int .i64 t ∧ n = .int .u32 ((crcBits z t : Nat) : Int) ∧ wq = wr) (fun _ j _ => 8 - (intOf j).toNat)
        case atStart => exact ⟨0, by omega, rfl, rfl, rfl⟩
        case round =>
          obtain ⟨t, ht, rfl, rfl, rfl⟩ := hrel
          have hq := crcBits_lt hz2 t
          have hstep : crcBits z (t + 1) = crcBit (crcBits z t) := rfl
          have HST := hidH hstep
          obtain ⟨q, hqe⟩ : ∃ q, crcBits z t = q := ⟨_, rfl⟩
          rw [hqe] at hq HST ⊢
          clear hstep
          by_cases h8 : t < 8
          · have ht0 : (0 : Int) ≤ (t : Int) := by omega
            have ht1 : (t : Int) < 8 := by omega
            clear hqe
            go_wp2_with (go_at_call 74; refine (div_any _ _ hq).mono ?_; rintro e w' ⟨rfl, rfl⟩)
            go_roundw
            case rel => exact ⟨t + 1, by omega, by go_num, by rw [HST.out], trivial⟩
            case measure => simp [intOf]; omega
          · obtain rfl : t = 8 := by omega
            rw [hqe] at HS
            clear hqe h8 ht
            rw [show ((8 : Nat) : Int) = 8 from rfl]
            go_wp2
            go_roundw
            case rel => exact ⟨k + 1, by omega, by go_num, by rw [HS.out], trivial⟩
            case measure => simp [intOf]; omega
      · obtain rfl : k = l.length := by omega
        have hxx := u32_xor_nat (crcP nb l.length) 4294967295 hP (by decide)
        rw [show ((4294967295 : Nat) : Int) = 4294967295 from rfl, ← HE.out] at hxx
        have hlt2 : ¬ ((l.length : Int) < (l.length : Int)) := by omega
        have hv0 : (0 : Int) ≤ ((crcV nb : Nat) : Int) := by omega
        have hv1 : ((crcV nb : Nat) : Int) ≤ 4294967295 := by have := HV.out; omega
        obtain ⟨x0, x1, xz⟩ := X0.out.two
        have f0 := X0.out.frozen 0
        have f1 := X0.out.frozen 1
        go_wp2
        exact bodyPost_ret (v := .agg #[.int .i64 0, .int .i64 ((crcV nb : Nat) : Int)]) (by simp [results, Tryd.results61, go_sem, x0, x1]) rfl ⟨rfl, bst (bst B0.out (Nat.le_refl _) _) (Nat.le_refl _) _⟩
  · rw [crcC, crcN, if_neg h, if_neg h]
    have h1 : (700 : Int) < (l.length : Int) := by omega
    clear h hA
    go_enter Tryd.func61, Tryd.ntmps61
    go_wp2
    exact bodyPost_ret (v := .agg #[.int .i64 2, .int .i64 0]) (by simp [results, Tryd.results61, go_sem]) rfl ⟨rfl, bal (Below.refl _ _) _⟩
end Go.Proofs.YtepcikghhnfacaaDoor
