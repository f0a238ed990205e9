/- Parts of a slice of bytes: what s[i:h], s[:h], s[i:] hand back. -/
import Derived.Test.YtbfbfimmhpijfaaBytes
import Derived.Laws.Slices
namespace Go.Proofs.Ytbfbfimmhpijfaa
open Go.RowKit Go.Deep

theorem sizeU8 (u : World) : (sizeOf (Try.prog.elem 22)).run Try.prog u = .ok 1 u := by
  obtain ⟨i0, hi, hzz⟩ := Option.map_eq_some_iff.1 infoU8
  simp only [Prod.mk.injEq] at hzz
  have he : Try.prog.elem 22 = 5 := by kernel_rfl
  rw [he]
  simp [sizeOf, typeInfo, hi, hzz.2.1]
theorem undB : Try.prog.underlying 22 = some (.slice (Try.prog.elem 22)) := by kernel_rfl
theorem add_off (b off i : Nat) : (⟨b, off, none⟩ : Addr).add i = ⟨b, off + i, none⟩ := by unfold Addr.add; split <;> simp_all
/-- The address behind i elements: the old one where nothing is left of the capacity. -/
def cutA (A : Option Addr) (i c : Nat) : Option Addr := if c = i then A else A.map (·.add i)
theorem cutA_bs {w : World} {A : Option Addr} {l m : List Int} {i c : Nat} (hA : Bs w A l) (hm : i + m.length ≤ l.length) (hc : l.length ≤ c) (he : ∀ j, j < m.length → l.getD (i + j) 0 = m.getD j 0) : Bs w (cutA A i c) m := by
  rcases hA with h | ⟨b, off, rfl, h2, h3⟩
  · rw [h] at hm
    exact .inl (List.eq_nil_of_length_eq_zero (by rw [List.length_nil] at hm; omega))
  · unfold cutA
    split
    · exact .inl (List.eq_nil_of_length_eq_zero (by omega))
    · exact .inr ⟨b, off + i, by simp [add_off], h2, fun j hj => by rw [show off + i + j = off + (i + j) by omega, h3 (i + j) (by omega), he j hj]⟩
theorem cutA_drop {w : World} {A : Option Addr} {l : List Int} {i c : Nat} (hA : Bs w A l) (hi : i ≤ l.length) (hc : l.length ≤ c) : Bs w (cutA A i c) (l.drop i) :=
  cutA_bs hA (by rw [List.length_drop]; omega) hc (fun j _ => by simp [List.getD_eq_getElem?_getD])
theorem cutA_take {w : World} {A : Option Addr} {l : List Int} {n : Nat} (hA : Bs w A l) (hn : n ≤ l.length) : Bs w A (l.take n) := by
  rcases hA with h | ⟨b, off, rfl, h2, h3⟩
  · exact .inl (by rw [h]; simp)
  · exact .inr ⟨b, off, rfl, h2, fun j hj => by
      rw [List.length_take] at hj
      rw [h3 j (by omega)]
      simp [List.getD_eq_getElem?_getD, List.getElem?_take_of_lt (show j < n by omega)]⟩
theorem cut_lh (A : Option Addr) (z c i n : Nat) (H : Int) (hH : H = (i : Int) + (n : Int)) (hc : i + n ≤ c) (u : World) :
    (Instr.slice 22 (.slice A z c) (some (.int .i64 (i : Int))) (some (.int .i64 H)) none).run Try.prog u = .ok (.slice (cutA A i c) n (c - i)) u := by
  subst hH
  rw [run_slice_lh (w := u) 22 A z c undB .i64 .i64 (i : Int) ((i : Int) + (n : Int)) (by omega) (by omega) (by omega)]
  simp only [sizeU8, Result.andThen, sliced]
  rw [show ((i : Int) + (n : Int)).toNat - (i : Int).toNat = n by omega, Int.toNat_natCast, Nat.mul_one]
  rfl
theorem cut_h (A : Option Addr) (z c n : Nat) (H : Int) (hH : H = (n : Int)) (hc : n ≤ c) (u : World) :
    (Instr.slice 22 (.slice A z c) none (some (.int .i64 H)) none).run Try.prog u = .ok (.slice A n c) u := by
  subst hH
  rw [run_slice_h (w := u) 22 A z c undB .i64 (n : Int) (by omega) (by omega)]
  simp only [sizeU8, Result.andThen, sliced]
  rw [Int.toNat_natCast, Nat.sub_zero, Nat.sub_zero, Nat.zero_mul]
  split
  · rfl
  · rcases A with _ | ⟨b, off, sp⟩
    · rfl
    · simp [Addr.add]
theorem cut_l (A : Option Addr) (z c i : Nat) (H : Int) (hH : H = (i : Int)) (hz : i ≤ z) (u : World) :
    (Instr.slice 22 (.slice A z c) (some (.int .i64 H)) none none).run Try.prog u = .ok (.slice (cutA A i c) (z - i) (c - i)) u := by
  subst hH
  rw [run_slice_l (w := u) 22 A z c undB .i64 (i : Int) (by omega) (by omega)]
  simp only [sizeU8, Result.andThen, sliced]
  rw [Int.toNat_natCast, Nat.mul_one]
  rfl
end Go.Proofs.Ytbfbfimmhpijfaa
