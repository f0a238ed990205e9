/- Chapter 8: the pieces that the program's CutMessage makes, on lists. -/
import Derived.Test.YtbfbfimmhpijfaaS8C
import Derived.Test.YtbfbfimmhpijfaaS8IR
namespace Go.Proofs.Ytbfbfimmhpijfaa
open Go.RowKit Go.Deep

theorem getD_at8 {r : List DataM} {j : Nat} (hj : j < r.length) : r.getD j dat0 = r[j] := by
  rw [List.getD_eq_getElem?_getD, List.getElem?_eq_getElem hj]; rfl
/-- The row of the list r whose bytes lie as ks says. -/
def RowZ (r : List DataM) (ks : List (Value × Nat × Nat)) : List RowE := List.zipWith (fun x k => daE x k.1 k.2.1 k.2.2) r ks
theorem RowZ.snoc {r : List DataM} {ks : List (Value × Nat × Nat)} (h : ks.length = r.length) (x : DataM) (k : Value × Nat × Nat) : RowZ (r ++ [x]) (ks ++ [k]) = RowZ r ks ++ [daE x k.1 k.2.1 k.2.2] := by
  unfold RowZ
  rw [List.zipWith_append h.symm]
  rfl
theorem RowZ.da : ∀ {r : List DataM} {ks : List (Value × Nat × Nat)}, ks.length = r.length → RowDa (RowZ r ks) r
  | [], [], _ => RowDa.nil
  | x :: r, k :: ks, h => (RowZ.da (r := r) (ks := ks) (by simpa using h)).cons x k.1 k.2.1 k.2.2
  | [], _ :: _, h => by simp at h
  | _ :: _, [], h => by simp at h
theorem flatZ_cons (x : DataM) (r : List DataM) (k : Value × Nat × Nat) (ks : List (Value × Nat × Nat)) : flatR (RowZ (x :: r) (k :: ks)) = [.int .i64 x.Tsn, .int .i64 x.Stream, .int .i64 x.Seq, .bool x.First, .bool x.Last, .bool x.Unordered, k.1] ++ flatR (RowZ r ks) := rfl
theorem flatZ_first : ∀ (r : List DataM) (ks : List (Value × Nat × Nat)) (i : Nat) (b : Bool), i < r.length → ks.length = r.length → (flatR (RowZ r ks)).set (i * 7 + 3) (.bool b) = flatR (RowZ (r.set i { r.getD i dat0 with First := b }) ks)
  | [], _, _, _, h, _ => by simp at h
  | _ :: _, [], _, _, _, h => by simp at h
  | x :: r, k :: ks, 0, b, _, _ => by rw [flatZ_cons]; simp [flatZ_cons]
  | x :: r, k :: ks, i + 1, b, h, h2 => by
    have ih := flatZ_first r ks i b (by simpa using h) (by simpa using h2)
    rw [flatZ_cons, show (i + 1) * 7 + 3 = (i * 7 + 3) + 7 by omega]
    simp only [List.cons_append, List.nil_append, List.set_cons_succ, List.set_cons_succ, ih]
    simp [flatZ_cons]
theorem flatZ_last : ∀ (r : List DataM) (ks : List (Value × Nat × Nat)) (i : Nat) (b : Bool), i < r.length → ks.length = r.length → (flatR (RowZ r ks)).set (i * 7 + 4) (.bool b) = flatR (RowZ (r.set i { r.getD i dat0 with Last := b }) ks)
  | [], _, _, _, h, _ => by simp at h
  | _ :: _, [], _, _, _, h => by simp at h
  | x :: r, k :: ks, 0, b, _, _ => by rw [flatZ_cons]; simp [flatZ_cons]
  | x :: r, k :: ks, i + 1, b, h, h2 => by
    have ih := flatZ_last r ks i b (by simpa using h) (by simpa using h2)
    rw [flatZ_cons, show (i + 1) * 7 + 4 = (i * 7 + 4) + 7 by omega]
    simp only [List.cons_append, List.nil_append, List.set_cons_succ, List.set_cons_succ, ih]
    simp [flatZ_cons]
/-- Rows whose bytes lie alike are owned alike. -/
theorem RTs.alike {B : Nat} {w : World} : ∀ {r r' : List DataM} {ks : List (Value × Nat × Nat)}, r.map DataM.Piece = r'.map DataM.Piece → ks.length = r.length → RTs B w (RowZ r ks) → RTs B w (RowZ r' ks)
  | [], [], _, _, _, h => h
  | [], _ :: _, _, h, _, _ => by simp at h
  | _ :: _, [], _, h, _, _ => by simp at h
  | _ :: _, _ :: _, [], _, h, _ => by simp at h
  | x :: r, x' :: r', k :: ks, h, h2, h3 => by
    simp only [List.map_cons, List.cons.injEq] at h
    have hx : RT w (daE x k.1 k.2.1 k.2.2) ∧ B ≤ k.2.1 := h3.1 _ (by simp [RowZ])
    have h4 : RTs B w (RowZ r ks) := ⟨fun y hy => h3.1 y (by simp only [RowZ, List.zipWith_cons_cons]; exact List.mem_cons_of_mem _ hy), by have := h3.2; simp only [RowZ, List.zipWith_cons_cons, List.pairwise_cons] at this; exact this.2⟩
    have ih := RTs.alike h.2 (by simpa using h2) h4
    have hx' : RT w (daE x' k.1 k.2.1 k.2.2) := by
      have h5 := hx.1
      unfold RT daE at h5 ⊢
      rw [← h.1]; exact h5
    have hp : ∀ y ∈ RowZ r ks, k.2.2 ≤ y.lo ∨ y.hi ≤ k.2.1 := by
      have := h3.2
      simp only [RowZ, List.zipWith_cons_cons, List.pairwise_cons] at this
      exact this.1
    refine ⟨fun y hy => ?_, ?_⟩
    · simp only [RowZ, List.zipWith_cons_cons, List.mem_cons] at hy
      rcases hy with rfl | hy
      · exact ⟨hx', hx.2⟩
      · exact ih.1 y hy
    · simp only [RowZ, List.zipWith_cons_cons, List.pairwise_cons]
      refine ⟨fun y hy => ?_, ih.2⟩
      obtain ⟨j, hj, rfl⟩ := List.mem_iff_getElem.1 hy
      have hlen : r.length = r'.length := by have := congrArg List.length h.2; simpa using this
      have hj2 : j < (RowZ r ks).length := by simp [RowZ] at hj ⊢; omega
      have := hp _ (List.getElem_mem hj2)
      simpa [RowZ, daE] using this
/-- The piece that comes at place i, cut out at number x (the last one beyond them). -/
def datAt (y : MessageM) (s : Nat) (t q : Int) (m i x : Nat) : DataM := ⟨(t + i) % 4294967296, y.Stream, q, false, false, y.Unordered, (y.Bytes.drop (min x (m - 1) * s)).take s⟩
def datP (y : MessageM) (s : Nat) (t q : Int) (m : Nat) (pre : List Nat) : List DataM := (List.range pre.length).map (fun i => datAt y s t q m i (pre.getD i 0))
theorem datP_len (y : MessageM) (s : Nat) (t q : Int) (m : Nat) (pre : List Nat) : (datP y s t q m pre).length = pre.length := by simp [datP]
theorem datP_snoc (y : MessageM) (s : Nat) (t q : Int) (m : Nat) (pre : List Nat) (x : Nat) : datP y s t q m (pre ++ [x]) = datP y s t q m pre ++ [datAt y s t q m pre.length x] := by
  unfold datP
  rw [List.length_append, List.length_singleton, List.range_succ, List.map_append]
  congr 1
  · refine List.map_congr_left (fun i hi => ?_)
    have := List.mem_range.1 hi
    simp [List.getD_eq_getElem?_getD, List.getElem?_append_left this]
  · simp [List.getD_eq_getElem?_getD]
theorem cut_fin {y : MessageM} {s : Nat} {t q : Int} {m : Nat} (hs : 0 < s) (hm : m = cutN y.Bytes.length s) (h1 : 1 ≤ m) :
    (((datP y s t q m (List.range m)).set 0 { (datP y s t q m (List.range m)).getD 0 dat0 with First := true }).set (m - 1) { ((datP y s t q m (List.range m)).set 0 { (datP y s t q m (List.range m)).getD 0 dat0 with First := true }).getD (m - 1) dat0 with Last := true }) = cutL y s t q := by
  have hl : (datP y s t q m (List.range m)).length = m := by rw [datP_len, List.length_range]
  have hg : ∀ j (hj : j < m), (datP y s t q m (List.range m))[j]'(by rw [hl]; exact hj) = datAt y s t q m j j := fun j hj => by
    simp [datP, List.getD_eq_getElem?_getD, List.getElem?_range hj]
  have hk : ∀ j, j < m → (decide (y.Bytes.length ≤ (j + 1) * s) = decide (j = m - 1)) := fun j hj => by
    have := cutN_lt (K := y.Bytes.length) (i := j + 1) hs
    rw [← hm] at this
    rw [decide_eq_decide]
    omega
  refine List.ext_getElem (by rw [List.length_set, List.length_set, hl, cutL_len, hm]) (fun j hj hj2 => ?_)
  have hjm : j < m := by rw [List.length_set, List.length_set, hl] at hj; exact hj
  have hc : (cutL y s t q)[j] = cutAt y s t q j := by simp [cutL]
  have h0 := hg 0 (by omega)
  have hA : ∀ i (hi : i < m), ((datP y s t q m (List.range m)).set 0 { (datP y s t q m (List.range m)).getD 0 dat0 with First := true })[i]'(by rw [List.length_set, hl]; exact hi) = { datAt y s t q m i i with First := decide (i = 0) } := fun i hi => by
    rw [List.getElem_set]
    split
    · next e => subst e; rw [getD_at8 (by omega), h0]; rfl
    · next e => rw [hg i hi]; simp [datAt, show ¬ i = 0 from fun h => e h.symm]
  rw [hc, List.getElem_set]
  have hmin : min j (m - 1) = j := by omega
  split
  · next e =>
    subst e
    rw [getD_at8 (by rw [List.length_set, hl]; omega), hA _ (by omega)]
    simp only [datAt, cutAt, hk _ hjm, hmin]
    simp
  · next e =>
    rw [hA j hjm]
    simp only [datAt, cutAt, hk _ hjm, hmin]
    simp [show ¬ j = m - 1 from fun h => e h.symm]
end Go.Proofs.Ytbfbfimmhpijfaa
