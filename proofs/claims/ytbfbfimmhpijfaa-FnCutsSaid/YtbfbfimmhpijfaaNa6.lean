import Derived.Test.YtbfbfimmhpijfaaNa2
import Derived.Test.YtbfbfimmhpijfaaS8IR
import Derived.Test.YtbfbfimmhpijfaaTyMsg
import Derived.Laws.Slices

/- Chapter 8: the pieces that the program's CutMessage makes, on lists. -/
namespace Go.Proofs.Ytbfbfimmhpijfaa
open Go.RowKit Go.Deep

theorem getD_at8 {r : List DataM} {j : Nat} (hj : j < r.length) : r.getD j dat0 = r[j] := by
  rw [List.getD_eq_getElem?_getD, List.getElem?_eq_getElem hj]; rfl
/-- The row of the list r whose bytes lie as ks says. -/
def RowZ (r : List DataM) (ks : List (Value × Nat × Nat)) : List RowE := List.zipWith (fun x k => daE x k.1 k.2.1 k.2.2) r ks
theorem RowZ.snoc {r : List DataM} {ks : List (Value × Nat × Nat)} (h : ks.length = r.length) (x : DataM) (k : Value × Nat × Nat) : RowZ (r ++ [x]) (ks ++ [k]) = RowZ r ks ++ [daE x k.1 k.2.1 k.2.2] := by
  unfold RowZ
  rw [List.zipWith_append h.symm]
  rfl
theorem RowZ.da : ∀ {r : List DataM} {ks : List (Value × Nat × Nat)}, ks.length = r.length → RowDa (RowZ r ks) r
  | [], [], _ => RowDa.nil
  | x :: r, k :: ks, h => (RowZ.da (r := r) (ks := ks) (by simpa using h)).cons x k.1 k.2.1 k.2.2
  | [], _ :: _, h => by simp at h
  | _ :: _, [], h => by simp at h
theorem flatZ_cons (x : DataM) (r : List DataM) (k : Value × Nat × Nat) (ks : List (Value × Nat × Nat)) : flatR (RowZ (x :: r) (k :: ks)) = [.int .i64 x.Tsn, .int .i64 x.Stream, .int .i64 x.Seq, .bool x.First, .bool x.Last, .bool x.Unordered, k.1] ++ flatR (RowZ r ks) := rfl
theorem flatZ_first : ∀ (r : List DataM) (ks : List (Value × Nat × Nat)) (i : Nat) (b : Bool), i < r.length → ks.length = r.length → (flatR (RowZ r ks)).set (i * 7 + 3) (.bool b) = flatR (RowZ (r.set i { r.getD i dat0 with First := b }) ks)
  | [], _, _, _, h, _ => by simp at h
  | _ :: _, [], _, _, _, h => by simp at h
  | x :: r, k :: ks, 0, b, _, _ => by rw [flatZ_cons]; simp [flatZ_cons]
  | x :: r, k :: ks, i + 1, b, h, h2 => by
    have ih := flatZ_first r ks i b (by simpa using h) (by simpa using h2)
    rw [flatZ_cons, show (i + 1) * 7 + 3 = (i * 7 + 3) + 7 by omega]
    simp only [List.cons_append, List.nil_append, List.set_cons_succ, List.set_cons_succ, ih]
    simp [flatZ_cons]
theorem flatZ_last : ∀ (r : List DataM) (ks : List (Value × Nat × Nat)) (i : Nat) (b : Bool), i < r.length → ks.length = r.length → (flatR (RowZ r ks)).set (i * 7 + 4) (.bool b) = flatR (RowZ (r.set i { r.getD i dat0 with Last := b }) ks)
  | [], _, _, _, h, _ => by simp at h
  | _ :: _, [], _, _, _, h => by simp at h
  | x :: r, k :: ks, 0, b, _, _ => by rw [flatZ_cons]; simp [flatZ_cons]
  | x :: r, k :: ks, i + 1, b, h, h2 => by
    have ih := flatZ_last r ks i b (by simpa using h) (by simpa using h2)
    rw [flatZ_cons, show (i + 1) * 7 + 4 = (i * 7 + 4) + 7 by omega]
    simp only [List.cons_append, List.nil_append, List.set_cons_succ, List.set_cons_succ, ih]
    simp [flatZ_cons]
/-- Rows whose bytes lie alike are owned alike. -/
theorem RTs.alike {B : Nat} {w : World} : ∀ {r r' : List DataM} {ks : List (Value × Nat × Nat)}, r.map DataM.Piece = r'.map DataM.Piece → ks.length = r.length → RTs B w (RowZ r ks) → RTs B w (RowZ r' ks)
  | [], [], _, _, _, h => h
  | [], _ :: _, _, h, _, _ => by simp at h
  | _ :: _, [], _, h, _, _ => by simp at h
  | _ :: _, _ :: _, [], _, h, _ => by simp at h
  | x :: r, x' :: r', k :: ks, h, h2, h3 => by
    simp only [List.map_cons, List.cons.injEq] at h
    have hx : RT w (daE x k.1 k.2.1 k.2.2) ∧ B ≤ k.2.1 := h3.1 _ (by simp [RowZ])
    have h4 : RTs B w (RowZ r ks) := ⟨fun y hy => h3.1 y (by simp only [RowZ, List.zipWith_cons_cons]; exact List.mem_cons_of_mem _ hy), by have := h3.2; simp only [RowZ, List.zipWith_cons_cons, List.pairwise_cons] at this; exact this.2⟩
    have ih := RTs.alike h.2 (by simpa using h2) h4
    have hx' : RT w (daE x' k.1 k.2.1 k.2.2) := by
      have h5 := hx.1
      unfold RT daE at h5 ⊢
      rw [← h.1]; exact h5
    have hp : ∀ y ∈ RowZ r ks, k.2.2 ≤ y.lo ∨ y.hi ≤ k.2.1 := by
      have := h3.2
      simp only [RowZ, List.zipWith_cons_cons, List.pairwise_cons] at this
      exact this.1
    refine ⟨fun y hy => ?_, ?_⟩
    · simp only [RowZ, List.zipWith_cons_cons, List.mem_cons] at hy
      rcases hy with rfl | hy
      · exact ⟨hx', hx.2⟩
      · exact ih.1 y hy
    · simp only [RowZ, List.zipWith_cons_cons, List.pairwise_cons]
      refine ⟨fun y hy => ?_, ih.2⟩
      obtain ⟨j, hj, rfl⟩ := List.mem_iff_getElem.1 hy
      have hlen : r.length = r'.length := by have := congrArg List.length h.2; simpa using this
      have hj2 : j < (RowZ r ks).length := by simp [RowZ] at hj ⊢; omega
      have := hp _ (List.getElem_mem hj2)
      simpa [RowZ, daE] using this
/-- The piece that comes at place i, cut out at number x (the last one beyond them). -/
def datAt (y : MessageM) (s : Nat) (t q : Int) (m i x : Nat) : DataM := ⟨(t + i) % 4294967296, y.Stream, q, false, false, y.Unordered, (y.Bytes.drop (min x (m - 1) * s)).take s⟩
def datP (y : MessageM) (s : Nat) (t q : Int) (m : Nat) (pre : List Nat) : List DataM := (List.range pre.length).map (fun i => datAt y s t q m i (pre.getD i 0))
theorem datP_len (y : MessageM) (s : Nat) (t q : Int) (m : Nat) (pre : List Nat) : (datP y s t q m pre).length = pre.length := by simp [datP]
theorem datP_snoc (y : MessageM) (s : Nat) (t q : Int) (m : Nat) (pre : List Nat) (x : Nat) : datP y s t q m (pre ++ [x]) = datP y s t q m pre ++ [datAt y s t q m pre.length x] := by
  unfold datP
  rw [List.length_append, List.length_singleton, List.range_succ, List.map_append]
  congr 1
  · refine List.map_congr_left (fun i hi => ?_)
    have := List.mem_range.1 hi
    simp [List.getD_eq_getElem?_getD, List.getElem?_append_left this]
  · simp [List.getD_eq_getElem?_getD]
theorem cut_fin {y : MessageM} {s : Nat} {t q : Int} {m : Nat} (hs : 0 < s) (hm : m = cutN y.Bytes.length s) (h1 : 1 ≤ m) :
    (((datP y s t q m (List.range m)).set 0 { (datP y s t q m (List.range m)).getD 0 dat0 with First := true }).set (m - 1) { ((datP y s t q m (List.range m)).set 0 { (datP y s t q m (List.range m)).getD 0 dat0 with First := true }).getD (m - 1) dat0 with Last := true }) = cutL y s t q := by
  have hl : (datP y s t q m (List.range m)).length = m := by rw [datP_len, List.length_range]
  have hg : ∀ j (hj : j < m), (datP y s t q m (List.range m))[j]'(by rw [hl]; exact hj) = datAt y s t q m j j := fun j hj => by
    simp [datP, List.getD_eq_getElem?_getD, List.getElem?_range hj]
  have hk : ∀ j, j < m → (decide (y.Bytes.length ≤ (j + 1) * s) = decide (j = m - 1)) := fun j hj => by
    have := cutN_lt (K := y.Bytes.length) (i := j + 1) hs
    rw [← hm] at this
    rw [decide_eq_decide]
    omega
  refine List.ext_getElem (by rw [List.length_set, List.length_set, hl, cutL_len, hm]) (fun j hj hj2 => ?_)
  have hjm : j < m := by rw [List.length_set, List.length_set, hl] at hj; exact hj
  have hc : (cutL y s t q)[j] = cutAt y s t q j := by simp [cutL]
  have h0 := hg 0 (by omega)
  have hA : ∀ i (hi : i < m), ((datP y s t q m (List.range m)).set 0 { (datP y s t q m (List.range m)).getD 0 dat0 with First := true })[i]'(by rw [List.length_set, hl]; exact hi) = { datAt y s t q m i i with First := decide (i = 0) } := fun i hi => by
    rw [List.getElem_set]
    split
    · next e => subst e; rw [getD_at8 (by omega), h0]; rfl
    · next e => rw [hg i hi]; simp [datAt, show ¬ i = 0 from fun h => e h.symm]
  rw [hc, List.getElem_set]
  have hmin : min j (m - 1) = j := by omega
  split
  · next e =>
    subst e
    rw [getD_at8 (by rw [List.length_set, hl]; omega), hA _ (by omega)]
    simp only [datAt, cutAt, hk _ hjm, hmin]
    simp
  · next e =>
    rw [hA j hjm]
    simp only [datAt, cutAt, hk _ hjm, hmin]
    simp [show ¬ j = m - 1 from fun h => e h.symm]
end Go.Proofs.Ytbfbfimmhpijfaa

/- Chapter 8: a list of pieces in memory of its own, and what a written field leaves. -/
namespace Go.Proofs.Ytbfbfimmhpijfaa
open Go.RowKit Go.Deep

theorem RowDa.z : ∀ {q : List RowE} {r : List DataM}, RowDa q r → ∃ ks : List (Value × Nat × Nat), ks.length = r.length ∧ q = RowZ r ks
  | [], [], _ => ⟨[], rfl, rfl⟩
  | [], _ :: _, h => by have := h.len; simp at this
  | _ :: _, [], h => by have := h.len; simp at this
  | x :: q, y :: r, h => by
    have hv := h.vs
    rw [List.flatMap_cons, List.flatMap_cons] at hv
    have hx := h.ok x (by simp)
    have hl : x.vs.length = y.vs.length := by
      have h1 : y.vs.length = 7 := rfl
      rw [h1, RowE.vs, List.length_append]
      exact hx.1
    obtain ⟨h1, h2⟩ := List.append_inj hv hl
    obtain ⟨ks, k1, k2⟩ := RowDa.z (q := q) (r := r) ⟨by have := h.len; simpa using this, h2, fun z hz => h.ok z (by simp [hz])⟩
    refine ⟨(x.val, x.lo, x.hi) :: ks, by simp [k1], ?_⟩
    obtain ⟨pre, val, bytes, lo, hi⟩ := x
    have h3 : pre ++ [V.bs bytes] = [.int y.Tsn, .int y.Stream, .int y.Seq, .bool y.First, .bool y.Last, .bool y.Unordered] ++ [.bs y.Piece] := h1
    obtain ⟨h4, h5⟩ := List.append_inj' h3 rfl
    simp only [List.cons.injEq, V.bs.injEq, and_true] at h5
    subst h4 h5
    rw [k2]
    rfl
/-- A list of pieces, owned: behind block B. -/
structure LZ (W : World) (B : Nat) (v : Value) (r : List DataM) (ks : List (Value × Nat × Nat)) : Prop where
  row : W.ownsRow B 38 7 v r.length (flatR (RowZ r ks))
  rts : RTs B W (RowZ r ks)
  len : ks.length = r.length
theorem LZ.of {w w' : World} {v : Value} {q : List RowE} {r : List DataM} (h : RowDa q r) (ho : w'.ownsRow w.heap.size 38 7 v r.length (flatR q)) (hk : RTs w.heap.size w' q) : ∃ ks, LZ w' w.heap.size v r ks := by
  obtain ⟨ks, k1, rfl⟩ := h.z
  exact ⟨ks, ho, hk, k1⟩
theorem LZ.own {W : World} {B : Nat} {v : Value} {r : List DataM} {ks : List (Value × Nat × Nat)} (h : LZ W B v r ks) : OwV B W.heap.size W (st_Data r) v := (RowZ.da h.len).own h.row (Nat.le_refl _) h.rts
theorem LZ.below {W W' : World} {B : Nat} {v : Value} {r : List DataM} {ks : List (Value × Nat × Nat)} (h : LZ W B v r ks) (hb : Below W.heap.size W W') : LZ W' B v r ks := ⟨own_below0 h.row hb, h.rts.turn hb.size (B8.of_below hb), h.len⟩
theorem LZ.win {W W' : World} {B g : Nat} {v : Value} {r : List DataM} {ks : List (Value × Nat × Nat)} (h : LZ W B v r ks) (hw : Win g (g + 1) W W') (hg : g < B) (h8 : B8 W W') : LZ W' B v r ks := ⟨own_keptT h.row hw hg, h.rts.turn hw.size h8, h.len⟩
theorem LZ.at {W : World} {B : Nat} {v : Value} {r : List DataM} {ks : List (Value × Nat × Nat)} (h : LZ W B v r ks) (h0 : 0 < r.length) :
    ∃ g cap cur, v = .slice (some ⟨g, 0, none⟩) r.length cap ∧ B ≤ g ∧ Blk W g 38 cur ∧ cur.size = cap * 7 ∧ r.length ≤ cap ∧ (cap : Int) ≤ 9223372036854775807 := by
  obtain ⟨_, ⟨_, h1⟩ | ⟨g, cap, cur, e, hB, hc, hn, hm, hs, _⟩⟩ := h.row
  · omega
  · exact ⟨g, cap, cur, e, hB, hc, hs, hn, by unfold maxLen at hm; omega⟩
theorem LZ.cell {W : World} {B g cap : Nat} {r : List DataM} {ks : List (Value × Nat × Nat)} (h : LZ W B (.slice (some ⟨g, 0, none⟩) r.length cap) r ks) {i k : Nat} (hi : i < r.length) (hk : k < 7) : (∃ o, W.cell? ⟨g, i * 7 + k, none⟩ = some o) ∧ W.frozen? ⟨g, i * 7 + k, none⟩ = false ∧ g < W.heap.size := by
  obtain ⟨g', cap', cur, e, hB, hc, hs, hn, _⟩ := h.at (by omega)
  injection e with e1 _ e3
  injection e1 with e1
  injection e1 with e1 _
  subst e1 e3
  refine ⟨?_, hc.frozen _, hc.lt⟩
  rw [hc.cell]
  exact ⟨_, Array.getElem?_eq_getElem (by rw [hs]; omega)⟩
def dcs (x : DataM) (k : Value × Nat × Nat) : List Value := [.int .i64 x.Tsn, .int .i64 x.Stream, .int .i64 x.Seq, .bool x.First, .bool x.Last, .bool x.Unordered, k.1]
theorem flatZ_upd (k : Nat) (u : Value) (f : DataM → DataM) (hf : ∀ x kk, dcs (f x) kk = (dcs x kk).set k u) (hk : k < 7) : ∀ (r : List DataM) (ks : List (Value × Nat × Nat)) (i : Nat), i < r.length → ks.length = r.length → (flatR (RowZ r ks)).set (i * 7 + k) u = flatR (RowZ (r.set i (f (r.getD i dat0))) ks)
  | [], _, _, h, _ => by simp at h
  | _ :: _, [], _, _, h => by simp at h
  | x :: r, kk :: ks, 0, _, _ => by
    have h1 : flatR (RowZ (x :: r) (kk :: ks)) = dcs x kk ++ flatR (RowZ r ks) := rfl
    have h2 : flatR (RowZ (f x :: r) (kk :: ks)) = dcs (f x) kk ++ flatR (RowZ r ks) := rfl
    rw [Nat.zero_mul, Nat.zero_add, h1, List.set_append_left _ _ (by simp [dcs]; omega), ← hf]
    exact h2.symm
  | x :: r, kk :: ks, i + 1, h, h2 => by
    have ih := flatZ_upd k u f hf hk r ks i (by simpa using h) (by simpa using h2)
    have h1 : flatR (RowZ (x :: r) (kk :: ks)) = dcs x kk ++ flatR (RowZ r ks) := rfl
    have h3 : flatR (RowZ (x :: r.set i (f (r.getD i dat0))) (kk :: ks)) = dcs x kk ++ flatR (RowZ (r.set i (f (r.getD i dat0))) ks) := rfl
    rw [h1, List.set_append_right _ _ (by simp [dcs]; omega), show (i + 1) * 7 + k - (dcs x kk).length = i * 7 + k by simp [dcs]; omega, ih]
    exact h3.symm
theorem map_upd {r : List DataM} {i : Nat} {f : DataM → DataM} (hp : ∀ x, (f x).Piece = x.Piece) : r.map DataM.Piece = (r.set i (f (r.getD i dat0))).map DataM.Piece := by
  by_cases h : i < r.length
  · rw [getD_at8 h, List.map_set, hp, ← List.getElem_map DataM.Piece (h := by simpa using h), List.set_getElem_self]
  · rw [List.set_eq_of_length_le (by omega)]
/-- A plain field written. -/
theorem LZ.put {W : World} {B g cap : Nat} {r : List DataM} {ks : List (Value × Nat × Nat)} (h : LZ W B (.slice (some ⟨g, 0, none⟩) r.length cap) r ks) {i k : Nat} (hi : i < r.length) (hk : k < 7) (u : Value) (f : DataM → DataM) (hf : ∀ x kk, dcs (f x) kk = (dcs x kk).set k u) (hp : ∀ x, (f x).Piece = x.Piece) :
    LZ (W.setCell ⟨g, i * 7 + k, none⟩ u) B (.slice (some ⟨g, 0, none⟩) r.length cap) (r.set i (f (r.getD i dat0))) ks := by
  obtain ⟨h1, ⟨_, h0⟩ | ⟨g', cap', cur, e, hB, hc, hn, hm, hs, ht⟩⟩ := h.row
  · omega
  · injection e with e1 e2 e3
    injection e1 with e1
    injection e1 with e1 _
    subst e1 e3
    have hb : Blk W g 38 cur := hc
    have e4 := flatZ_upd k u f hf hk r ks i hi h.len
    refine ⟨?_, (h.rts.turn (by simp [World.setCell]) (B8.of_win (set_win W g (i * 7 + k) u) hb (by decide))).alike (map_upd hp) h.len, by rw [List.length_set]; exact h.len⟩
    rw [List.length_set]
    refine ⟨?_, .inr ⟨g, cap, _, rfl, hB, hb.put (i * 7 + k) u, hn, hm, by simpa using hs, ?_⟩⟩
    · rw [← e4, List.length_set]; exact h1
    · rw [Array.toList_setIfInBounds, List.take_set, ht, e4]
theorem flatZ_nil : ∀ (r : List DataM) (ks : List (Value × Nat × Nat)) (i : Nat), i < r.length → ks.length = r.length → (flatR (RowZ r ks)).set (i * 7 + 6) (.slice none 0 0) = flatR (RowZ (r.set i { r.getD i dat0 with Piece := [] }) (ks.set i (.slice none 0 0, (ks.getD i (.slice none 0 0, 0, 0)).2)))
  | [], _, _, h, _ => by simp at h
  | _ :: _, [], _, _, h => by simp at h
  | x :: r, kk :: ks, 0, _, _ => by
    have h1 : flatR (RowZ (x :: r) (kk :: ks)) = dcs x kk ++ flatR (RowZ r ks) := rfl
    rw [Nat.zero_mul, Nat.zero_add, h1, List.set_append_left _ _ (by simp [dcs])]
    rfl
  | x :: r, kk :: ks, i + 1, h, h2 => by
    have ih := flatZ_nil r ks i (by simpa using h) (by simpa using h2)
    have h1 : flatR (RowZ (x :: r) (kk :: ks)) = dcs x kk ++ flatR (RowZ r ks) := rfl
    have h3 : flatR (RowZ (x :: r.set i { r.getD i dat0 with Piece := [] }) (kk :: ks.set i (.slice none 0 0, (ks.getD i (.slice none 0 0, 0, 0)).2))) = dcs x kk ++ flatR (RowZ (r.set i { r.getD i dat0 with Piece := [] }) (ks.set i (.slice none 0 0, (ks.getD i (.slice none 0 0, 0, 0)).2))) := rfl
    rw [h1, List.set_append_right _ _ (by simp [dcs]; omega), show (i + 1) * 7 + 6 - (dcs x kk).length = i * 7 + 6 by simp [dcs]; omega, ih]
    exact h3.symm
theorem rowZ_set {r : List DataM} {ks : List (Value × Nat × Nat)} (i : Nat) (y : DataM) (k : Value × Nat × Nat) : RowZ (r.set i y) (ks.set i k) = (RowZ r ks).set i (daE y k.1 k.2.1 k.2.2) := by
  refine List.ext_getElem (by simp [RowZ]) (fun j h1 h2 => ?_)
  simp only [RowZ, List.getElem_zipWith, List.getElem_set]
  split <;> rfl
/-- A piece's bytes taken away. -/
theorem LZ.nil {W : World} {B g cap : Nat} {r : List DataM} {ks : List (Value × Nat × Nat)} (h : LZ W B (.slice (some ⟨g, 0, none⟩) r.length cap) r ks) {i : Nat} (hi : i < r.length) :
    ∃ ks', LZ (W.setCell ⟨g, i * 7 + 6, none⟩ (.slice none 0 0)) B (.slice (some ⟨g, 0, none⟩) r.length cap) (r.set i { r.getD i dat0 with Piece := [] }) ks' := by
  obtain ⟨h1, ⟨_, h0⟩ | ⟨g', cap', cur, e, hB, hc, hn, hm, hs, ht⟩⟩ := h.row
  · omega
  · injection e with e1 e2 e3
    injection e1 with e1
    injection e1 with e1 _
    subst e1 e3
    have hb : Blk W g 38 cur := hc
    have e4 := flatZ_nil r ks i hi h.len
    have hik : i < ks.length := by rw [h.len]; exact hi
    have hq : i < (RowZ r ks).length := by simp [RowZ, h.len, hi]
    have hkd : ks.getD i (.slice none 0 0, 0, 0) = ks[i] := by rw [List.getD_eq_getElem?_getD, List.getElem?_eq_getElem hik]; rfl
    have hrt := h.rts.turn (w' := W.setCell ⟨g, i * 7 + 6, none⟩ (.slice none 0 0)) (by simp [World.setCell]) (B8.of_win (set_win W g (i * 7 + 6) _) hb (by decide))
    have hxi := hrt.1 _ (List.getElem_mem hq)
    have hxe : (RowZ r ks)[i] = daE r[i] ks[i].1 ks[i].2.1 ks[i].2.2 := by simp [RowZ]
    rw [hxe] at hxi
    refine ⟨ks.set i (.slice none 0 0, (ks.getD i (.slice none 0 0, 0, 0)).2), ?_, ?_, by simp [h.len]⟩
    · rw [List.length_set]
      refine ⟨?_, .inr ⟨g, cap, _, rfl, hB, hb.put (i * 7 + 6) _, hn, hm, by simpa using hs, ?_⟩⟩
      · rw [← e4, List.length_set]; exact h1
      · rw [Array.toList_setIfInBounds, List.take_set, ht, e4]
    · rw [rowZ_set, hkd]
      have hlo : ∀ j (hj : j < ((RowZ r ks).set i (daE { r.getD i dat0 with Piece := [] } (.slice none 0 0) ks[i].2.1 ks[i].2.2)).length), ((RowZ r ks).set i (daE { r.getD i dat0 with Piece := [] } (.slice none 0 0) ks[i].2.1 ks[i].2.2))[j].lo = ((RowZ r ks)[j]'(by simpa using hj)).lo ∧ ((RowZ r ks).set i (daE { r.getD i dat0 with Piece := [] } (.slice none 0 0) ks[i].2.1 ks[i].2.2))[j].hi = ((RowZ r ks)[j]'(by simpa using hj)).hi := fun j hj => by
        rw [List.getElem_set]
        split
        · next e => subst e; rw [hxe]; exact ⟨rfl, rfl⟩
        · exact ⟨rfl, rfl⟩
      refine ⟨fun x hx => ?_, ?_⟩
      · rcases List.mem_or_eq_of_mem_set hx with hx | rfl
        · exact hrt.1 x hx
        · refine ⟨⟨⟨hxi.1.1.1, by unfold Ow; exact ⟨none, 0, rfl, ⟨Nat.le_refl _, by simp⟩, .inl rfl⟩⟩, hxi.1.2⟩, hxi.2⟩
      · rw [List.pairwise_iff_getElem]
        intro a b ha hb2 hab
        have hp := (List.pairwise_iff_getElem.1 hrt.2) a b (by simpa using ha) (by simpa using hb2) hab
        rw [(hlo a ha).1, (hlo a ha).2, (hlo b hb2).1, (hlo b hb2).2]
        exact hp
end Go.Proofs.Ytbfbfimmhpijfaa

/- Chapter 8: the rest of a list of pieces, list[i:]. -/
namespace Go.Proofs.Ytbfbfimmhpijfaa
open Go.RowKit Go.Deep

theorem RdL.restD {w : World} : ∀ {xs ys : List V} {g o : Nat}, RdL w (xs ++ ys) g o → RdL w ys g (o + xs.length)
  | [], _, _, _, h => by simpa using h
  | x :: xs, ys, g, o, h => by
    rw [List.cons_append] at h
    unfold RdL at h
    have := RdL.restD h.2
    rw [List.length_cons]
    rwa [show o + (xs.length + 1) = o + 1 + xs.length by omega]
/-- The address behind i pieces. -/
def cutD (A : Option Addr) (i c : Nat) : Option Addr := if c = i then A else A.map (·.add (i * 7))
theorem cutD_rd {w : World} {A : Option Addr} {r : List DataM} {c i : Nat} (h : Rd w (st_Data r) (.slice A r.length c)) (hi : i ≤ r.length) : Rd w (st_Data (r.drop i)) (.slice (cutD A i c) (r.length - i) (c - i)) := by
  unfold st_Data Rd at h
  obtain ⟨A', c', e, ⟨hc, hm⟩, h⟩ := h
  injection e with e1 _ e3
  subst e1 e3
  unfold st_Data Rd
  have hl : (r.drop i).length = r.length - i := List.length_drop
  refine ⟨cutD A i c, c - i, by rw [hl], ⟨by rw [hl]; omega, by omega⟩, ?_⟩
  by_cases he : i = r.length
  · left
    have : r.drop i = [] := List.drop_eq_nil_of_le (by omega)
    rw [this]
    exact ⟨rfl, rfl⟩
  · right
    rcases h with ⟨h0, _⟩ | ⟨g, o, rfl, hg, h⟩
    · omega
    · refine ⟨g, o + i * 7, ?_, hg, ?_⟩
      · unfold cutD
        rw [if_neg (by omega)]
        simp only [Option.map_some]
        congr 1
        unfold Addr.add
        split <;> simp_all
      · have hs : r.flatMap DataM.vs = (r.take i).flatMap DataM.vs ++ (r.drop i).flatMap DataM.vs := by rw [← List.flatMap_append, List.take_append_drop]
        rw [hs] at h
        have := h.restD
        rwa [take_len (f := DataM.vs) (W := 7) (fun _ => rfl) r i hi] at this
theorem wfD_drop {r : List DataM} (h : WfV (st_Data r)) (i : Nat) : WfV (st_Data (r.drop i)) := by
  have key : ∀ (r : List DataM), WfV.WfA (r.flatMap DataM.vs) → ∀ i, WfV.WfA ((r.drop i).flatMap DataM.vs) := by
    intro r
    induction r with
    | nil => intro _ i; simp; trivial
    | cons y r ih =>
      intro h i
      cases i with
      | zero => exact h
      | succ i =>
        rw [List.drop_succ_cons]
        rw [List.flatMap_cons] at h
        obtain ⟨_, _, _, _, _, _, _, h2⟩ := h
        exact ih h2 i
  exact key r h i
theorem totD_drop (r : List DataM) (i : Nat) : tot (st_Data (r.drop i)) ≤ tot (st_Data r) := by
  have hs : r.flatMap DataM.vs = (r.take i).flatMap DataM.vs ++ (r.drop i).flatMap DataM.vs := by rw [← List.flatMap_append, List.take_append_drop]
  show (r.drop i).length + tot.totL ((r.drop i).flatMap DataM.vs) ≤ r.length + tot.totL (r.flatMap DataM.vs)
  rw [hs, totL_append, List.length_drop]
  omega
theorem infoD8 : (Try.prog.info? 38).map (fun i => (i.zero, i.size, i.bytes)) = some (some (.agg #[.int .i64 0, .int .i64 0, .int .i64 0, .bool false, .bool false, .bool false, .slice none 0 0]), 7, 56) := by kernel_rfl
theorem sizeD8 (u : World) : (sizeOf (Try.prog.elem 28)).run Try.prog u = .ok 7 u := by
  obtain ⟨i0, hi, hzz⟩ := Option.map_eq_some_iff.1 infoD8
  simp only [Prod.mk.injEq] at hzz
  have he : Try.prog.elem 28 = 38 := by kernel_rfl
  rw [he]
  simp [sizeOf, typeInfo, hi, hzz.2.1]
theorem undD8 : Try.prog.underlying 28 = some (.slice (Try.prog.elem 28)) := by kernel_rfl
theorem cutD_l (A : Option Addr) (z c i : Nat) (H : Int) (hH : H = (i : Int)) (hz : i ≤ z) (u : World) :
    (Instr.slice 28 (.slice A z c) (some (.int .i64 H)) none none).run Try.prog u = .ok (.slice (cutD A i c) (z - i) (c - i)) u := by
  subst hH
  rw [run_slice_l (w := u) 28 A z c undD8 .i64 (i : Int) (by omega) (by omega)]
  simp only [sizeD8, Result.andThen, sliced]
  rw [Int.toNat_natCast]
  rfl
end Go.Proofs.Ytbfbfimmhpijfaa
