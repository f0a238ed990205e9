/- The model's Crc32c. -/
import Derived.Test.YtepcikghhnfacaaDoorCrcM
import Derived.Test.YtepcikghhnfacaaDoorBytes
import Derived.Test.YtepcikghhnfacaaDoorLess
import Derived.Laws.BitsAllLaws
import Derived.IntWalk
import Derived.Deep.QuietTactic
namespace Go.Proofs.YtepcikghhnfacaaDoor
open Go.RowKit Go.Deep

theorem i64_xor_nat (a b : Nat) (ha : a < 4294967296) (hb : b < 4294967296) : bits .xor .i64 (a : Int) (b : Int) = ((a ^^^ b : Nat) : Int) := by
  have hx : a ^^^ b < 4294967296 := Nat.xor_lt_two_pow (n := 32) ha hb
  show IntKind.i64.wrap ((BitVec.ofInt 64 (a : Int) ^^^ BitVec.ofInt 64 (b : Int)).toNat : Int) = _
  rw [BitVec.toNat_xor, ofInt_u64 a (by omega), ofInt_u64 b (by omega)]
  exact IntWalk.i64_in _ (by omega)
def nB (l : List Int) : List Nat := l.map Int.toNat
theorem nB_lt {l : List Int} (h : Bytes l) : ∀ x ∈ nB l, x < 256 := by
  intro x hx
  simp only [nB, List.mem_map] at hx
  obtain ⟨y, hy, rfl⟩ := hx
  have := h y hy
  omega
theorem nB_get (l : List Int) (k : Nat) : (nB l).getD k 0 = (l.getD k 0).toNat := by
  simp only [nB, List.getD_eq_getElem?_getD, List.getElem?_map]
  cases l[k]? <;> rfl
def crcP (l : List Nat) (k : Nat) : Nat := crcTo 4294967295 (l.take k)
theorem crcP_succ (l : List Nat) (k : Nat) (hk : k < l.length) : crcP l (k + 1) = crcBits (crcP l k ^^^ l.getD k 0) 8 := by
  rw [crcP, List.take_succ_eq_append_getElem hk, crcTo, List.foldl_append, List.getD_eq_getElem?_getD, List.getElem?_eq_getElem hk]
  rfl
theorem crcP_lt {l : List Nat} (hl : ∀ x ∈ l, x < 256) (k : Nat) : crcP l k < 4294967296 := crcTo_lt (by decide) (fun x hx => hl x (List.mem_of_mem_take hx))
set_option maxHeartbeats 2000000 in
theorem crc_any (A : Option Addr) (l : List Int) (c : Nat) (w : World) (hA : Bs w A l) (hl : Bytes l) (hm : (l.length : Int) ≤ 9223372036854775807) :
    Calls Tryd.prog 34 #[.slice A l.length c] w fun e w' => e = .returned (.int .i64 ((crcV (nB l) : Nat) : Int)) ∧ ∃ k, w.drewN k = w' := by
  have hb := nB_lt hl
  have hgt := nB_get l
  have hnl : (nB l).length = l.length := by simp [nB]
  have hend : crcV (nB l) = crcP (nB l) l.length ^^^ 4294967295 := by rw [crcV, crcP, ← hnl, List.take_length]
  obtain ⟨nb, hnb⟩ : ∃ nb, nB l = nb := ⟨_, rfl⟩
  simp only [hnb] at hb hgt hnl hend ⊢
  have HB := hidH hb
  have HA := hidH hA
  have HG := hidH hgt
  have HN := hidH hnl
  have HE := hidH hend
  clear hA hb hgt hnl hend hnb
  go_enter Tryd.func34, Tryd.ntmps34
  go_wp2
  go_loopw [3, 4] (fun n i wr => ∃ k m : Nat, k ≤ l.length ∧ i = .int .i64 k ∧ n = .int .i64 ((crcP nb k : Nat) : Int) ∧ wr = w.drewN m) (fun _ i _ => l.length - (intOf i).toNat)
  case atStart => exact ⟨0, 0, Nat.zero_le _, rfl, rfl, rfl⟩
  case round =>
    obtain ⟨k, m, hk, rfl, rfl, rfl⟩ := hrel
    have hP := crcP_lt HB.out k
    by_cases hlt : k < l.length
    · have hi0 : (0 : Int) ≤ (k : Int) := by omega
      have hi1 : (k : Int) < (l.length : Int) := by omega
      obtain ⟨b, off, rfl, _, hcc⟩ : ∃ b off, A = some ⟨b, off, none⟩ ∧ b < w.heap.size ∧ ∀ j, j < l.length → w.cell? ⟨b, off + j, none⟩ = some (.int .u8 (l.getD j 0)) := by
        rcases HA.out with h | h
        · rw [h] at hlt; simp at hlt
        · exact h
      have c1 : (w.drewN m).cell? ⟨b, off + k, none⟩ = some (.int .u8 (l.getD k 0)) := hcc k hlt
      have hx := hl.get k
      have hsuc := crcP_succ nb k (by rw [HN.out]; exact hlt)
      rw [HG.out k] at hsuc
      obtain ⟨x, hxe⟩ : ∃ x : Nat, l.getD k 0 = x := ⟨(l.getD k 0).toNat, by omega⟩
      rw [hxe] at c1 hx hsuc
      rw [Int.toNat_natCast] at hsuc
      have hx2 : x < 256 := by omega
      have HS := hidH hsuc
      obtain ⟨y, hy⟩ : ∃ y, crcP nb k = y := ⟨_, rfl⟩
      rw [hy] at hP HS ⊢
      have hxx := i64_xor_nat y x hP (by omega)
      obtain ⟨z, hz⟩ : ∃ z, y ^^^ x = z := ⟨_, rfl⟩
      have hz2 : z < 4294967296 := by rw [← hz]; exact crc_xor_lt hP hx2
      rw [hz] at hxx HS
      have hz3 : (z : Int) ≤ 4294967295 := by omega
      clear hcc hxe hsuc hy hz hP
      go_wp2
      go_loopw [3, 5] (fun n j wr => ∃ t : Nat, t ≤ 8 ∧ j = .int .i64 t ∧ n = .int .i64 ((crcBits z t : Nat) : Int) ∧ wr = w.drewN m) (fun _ j _ => 8 - (intOf j).toNat)
      case atStart => exact ⟨0, by omega, rfl, rfl, rfl⟩
      case round =>
        obtain ⟨t, ht, rfl, rfl, rfl⟩ := hrel
        have hq := crcBits_lt hz2 t
        have hstep : crcBits z (t + 1) = crcBit (crcBits z t) := rfl
        have HST := hidH hstep
        obtain ⟨q, hqe⟩ : ∃ q, crcBits z t = q := ⟨_, rfl⟩
        rw [hqe] at hq HST ⊢
        clear hstep
        have hq3 : (q : Int) ≤ 4294967295 := by omega
        by_cases h8 : t < 8
        · have ht0 : (0 : Int) ≤ (t : Int) := by omega
          have ht1 : (t : Int) < 8 := by omega
          clear hqe
          by_cases hodd : q % 2 = 1
          · have hI : (((q : Int) % 2) == 1) = true := by rw [beq_iff_eq]; omega
            have hv := hidH (show crcBit q = q / 2 ^^^ 2197175160 by rw [crcBit, if_pos hodd])
            have hxq := i64_xor_nat (q / 2) 2197175160 (by omega) (by omega)
            rw [show ((q / 2 : Nat) : Int) = (q : Int) / 2 from by simp, show ((2197175160 : Nat) : Int) = 2197175160 from rfl] at hxq
            clear hodd
            go_wp2
            go_roundw
            case rel => exact ⟨t + 1, by omega, by go_num, by rw [HST.out, hv.out], trivial⟩
            case measure => simp [intOf]; omega
          · have hI : (((q : Int) % 2) == 1) = false := by rw [beq_eq_false_iff_ne]; omega
            have hv := hidH (show crcBit q = q / 2 by rw [crcBit, if_neg hodd])
            clear hodd
            go_wp2
            go_roundw
            case rel => exact ⟨t + 1, by omega, by go_num, by rw [HST.out, hv.out]; simp, trivial⟩
            case measure => simp [intOf]; omega
        · obtain rfl : t = 8 := by omega
          rw [hqe] at HS
          clear hqe h8 ht
          rw [show ((8 : Nat) : Int) = 8 from rfl]
          go_wp2
          go_roundw
          case rel => exact ⟨k + 1, m, by omega, by go_num, by rw [HS.out], rfl⟩
          case measure => simp [intOf]; omega
    · obtain rfl : k = l.length := by omega
      have hxx := i64_xor_nat (crcP nb l.length) 4294967295 hP (by decide)
      rw [show ((4294967295 : Nat) : Int) = 4294967295 from rfl] at hxx
      have hlt2 : ¬ ((l.length : Int) < (l.length : Int)) := by omega
      go_wp2
      exact bodyPost_ret (v := .int .i64 ((crcP nb l.length ^^^ 4294967295 : Nat) : Int)) (by simp [results, Tryd.results34, go_sem]) rfl ⟨by rw [HE.out], _, rfl⟩
def crcC (l : List Int) : Int := if l.length ≤ 700 then 0 else 2
def crcN (l : List Int) : Int := if l.length ≤ 700 then ((crcV (nB l) : Nat) : Int) else 0
end Go.Proofs.YtepcikghhnfacaaDoor
