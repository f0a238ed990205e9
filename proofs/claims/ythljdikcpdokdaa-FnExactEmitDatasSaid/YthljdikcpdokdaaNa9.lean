import Derived.Test.YthljdikcpdokdaaNa8
import Derived.Test.YthljdikcpdokdaaNa5
import Derived.Test.YthljdikcpdokdaaNa7
import Derived.Test.YthljdikcpdokdaaNa1
import Derived.Test.YthljdikcpdokdaaNa2
import Derived.Deep.LoopGhost

/- Chapter 8: a list of pieces in memory of its own, and what a written field leaves. -/
namespace Go.Proofs.Ythljdikcpdokdaa
open Go.RowKit Go.Deep

theorem RowDa.z : ∀ {q : List RowE} {r : List DataM}, RowDa q r → ∃ ks : List (Value × Nat × Nat), ks.length = r.length ∧ q = RowZ r ks
  | [], [], _ => ⟨[], rfl, rfl⟩
  | [], _ :: _, h => by have := h.len; simp at this
  | _ :: _, [], h => by have := h.len; simp at this
  | x :: q, y :: r, h => by
    have hv := h.vs
    rw [List.flatMap_cons, List.flatMap_cons] at hv
    have hx := h.ok x (by simp)
    have hl : x.vs.length = y.vs.length := by
      have h1 : y.vs.length = 7 := rfl
      rw [h1, RowE.vs, List.length_append]
      exact hx.1
    obtain ⟨h1, h2⟩ := List.append_inj hv hl
    obtain ⟨ks, k1, k2⟩ := RowDa.z (q := q) (r := r) ⟨by have := h.len; simpa using this, h2, fun z hz => h.ok z (by simp [hz])⟩
    refine ⟨(x.val, x.lo, x.hi) :: ks, by simp [k1], ?_⟩
    obtain ⟨pre, val, bytes, lo, hi⟩ := x
    have h3 : pre ++ [V.bs bytes] = [.int y.Tsn, .int y.Stream, .int y.Seq, .bool y.First, .bool y.Last, .bool y.Unordered] ++ [.bs y.Piece] := h1
    obtain ⟨h4, h5⟩ := List.append_inj' h3 rfl
    simp only [List.cons.injEq, V.bs.injEq, and_true] at h5
    subst h4 h5
    rw [k2]
    rfl
/-- A list of pieces, owned: behind block B. -/
structure LZ (W : World) (B : Nat) (v : Value) (r : List DataM) (ks : List (Value × Nat × Nat)) : Prop where
  row : W.ownsRow B 69 7 v r.length (flatR (RowZ r ks))
  rts : RTs B W (RowZ r ks)
  len : ks.length = r.length
theorem LZ.of {w w' : World} {v : Value} {q : List RowE} {r : List DataM} (h : RowDa q r) (ho : w'.ownsRow w.heap.size 69 7 v r.length (flatR q)) (hk : RTs w.heap.size w' q) : ∃ ks, LZ w' w.heap.size v r ks := by
  obtain ⟨ks, k1, rfl⟩ := h.z
  exact ⟨ks, ho, hk, k1⟩
theorem LZ.own {W : World} {B : Nat} {v : Value} {r : List DataM} {ks : List (Value × Nat × Nat)} (h : LZ W B v r ks) : OwV B W.heap.size W (st_Data r) v := (RowZ.da h.len).own h.row (Nat.le_refl _) h.rts
theorem LZ.below {W W' : World} {B : Nat} {v : Value} {r : List DataM} {ks : List (Value × Nat × Nat)} (h : LZ W B v r ks) (hb : Below W.heap.size W W') : LZ W' B v r ks := ⟨own_below0 h.row hb, h.rts.turn hb.size (B8.of_below hb), h.len⟩
theorem LZ.win {W W' : World} {B g : Nat} {v : Value} {r : List DataM} {ks : List (Value × Nat × Nat)} (h : LZ W B v r ks) (hw : Win g (g + 1) W W') (hg : g < B) (h8 : B8 W W') : LZ W' B v r ks := ⟨own_keptT h.row hw hg, h.rts.turn hw.size h8, h.len⟩
theorem LZ.at {W : World} {B : Nat} {v : Value} {r : List DataM} {ks : List (Value × Nat × Nat)} (h : LZ W B v r ks) (h0 : 0 < r.length) :
    ∃ g cap cur, v = .slice (some ⟨g, 0, none⟩) r.length cap ∧ B ≤ g ∧ Blk W g 69 cur ∧ cur.size = cap * 7 ∧ r.length ≤ cap ∧ (cap : Int) ≤ 9223372036854775807 := by
  obtain ⟨_, ⟨_, h1⟩ | ⟨g, cap, cur, e, hB, hc, hn, hm, hs, _⟩⟩ := h.row
  · omega
  · exact ⟨g, cap, cur, e, hB, hc, hs, hn, by unfold maxLen at hm; omega⟩
theorem LZ.cell {W : World} {B g cap : Nat} {r : List DataM} {ks : List (Value × Nat × Nat)} (h : LZ W B (.slice (some ⟨g, 0, none⟩) r.length cap) r ks) {i k : Nat} (hi : i < r.length) (hk : k < 7) : (∃ o, W.cell? ⟨g, i * 7 + k, none⟩ = some o) ∧ W.frozen? ⟨g, i * 7 + k, none⟩ = false ∧ g < W.heap.size := by
  obtain ⟨g', cap', cur, e, hB, hc, hs, hn, _⟩ := h.at (by omega)
  injection e with e1 _ e3
  injection e1 with e1
  injection e1 with e1 _
  subst e1 e3
  refine ⟨?_, hc.frozen _, hc.lt⟩
  rw [hc.cell]
  exact ⟨_, Array.getElem?_eq_getElem (by rw [hs]; omega)⟩
def dcs (x : DataM) (k : Value × Nat × Nat) : List Value := [.int .i64 x.Tsn, .int .i64 x.Stream, .int .i64 x.Seq, .bool x.First, .bool x.Last, .bool x.Unordered, k.1]
theorem flatZ_upd (k : Nat) (u : Value) (f : DataM → DataM) (hf : ∀ x kk, dcs (f x) kk = (dcs x kk).set k u) (hk : k < 7) : ∀ (r : List DataM) (ks : List (Value × Nat × Nat)) (i : Nat), i < r.length → ks.length = r.length → (flatR (RowZ r ks)).set (i * 7 + k) u = flatR (RowZ (r.set i (f (r.getD i dat0))) ks)
  | [], _, _, h, _ => by simp at h
  | _ :: _, [], _, _, h => by simp at h
  | x :: r, kk :: ks, 0, _, _ => by
    have h1 : flatR (RowZ (x :: r) (kk :: ks)) = dcs x kk ++ flatR (RowZ r ks) := rfl
    have h2 : flatR (RowZ (f x :: r) (kk :: ks)) = dcs (f x) kk ++ flatR (RowZ r ks) := rfl
    rw [Nat.zero_mul, Nat.zero_add, h1, List.set_append_left _ _ (by simp [dcs]; omega), ← hf]
    exact h2.symm
  | x :: r, kk :: ks, i + 1, h, h2 => by
    have ih := flatZ_upd k u f hf hk r ks i (by simpa using h) (by simpa using h2)
    have h1 : flatR (RowZ (x :: r) (kk :: ks)) = dcs x kk ++ flatR (RowZ r ks) := rfl
    have h3 : flatR (RowZ (x :: r.set i (f (r.getD i dat0))) (kk :: ks)) = dcs x kk ++ flatR (RowZ (r.set i (f (r.getD i dat0))) ks) := rfl
    rw [h1, List.set_append_right _ _ (by simp [dcs]; omega), show (i + 1) * 7 + k - (dcs x kk).length = i * 7 + k by simp [dcs]; omega, ih]
    exact h3.symm
theorem map_upd {r : List DataM} {i : Nat} {f : DataM → DataM} (hp : ∀ x, (f x).Piece = x.Piece) : r.map DataM.Piece = (r.set i (f (r.getD i dat0))).map DataM.Piece := by
  by_cases h : i < r.length
  · rw [getD_at8 h, List.map_set, hp, ← List.getElem_map DataM.Piece (h := by simpa using h), List.set_getElem_self]
  · rw [List.set_eq_of_length_le (by omega)]
/-- A plain field written. -/
theorem LZ.put {W : World} {B g cap : Nat} {r : List DataM} {ks : List (Value × Nat × Nat)} (h : LZ W B (.slice (some ⟨g, 0, none⟩) r.length cap) r ks) {i k : Nat} (hi : i < r.length) (hk : k < 7) (u : Value) (f : DataM → DataM) (hf : ∀ x kk, dcs (f x) kk = (dcs x kk).set k u) (hp : ∀ x, (f x).Piece = x.Piece) :
    LZ (W.setCell ⟨g, i * 7 + k, none⟩ u) B (.slice (some ⟨g, 0, none⟩) r.length cap) (r.set i (f (r.getD i dat0))) ks := by
  obtain ⟨h1, ⟨_, h0⟩ | ⟨g', cap', cur, e, hB, hc, hn, hm, hs, ht⟩⟩ := h.row
  · omega
  · injection e with e1 e2 e3
    injection e1 with e1
    injection e1 with e1 _
    subst e1 e3
    have hb : Blk W g 69 cur := hc
    have e4 := flatZ_upd k u f hf hk r ks i hi h.len
    refine ⟨?_, (h.rts.turn (by simp [World.setCell]) (B8.of_win (set_win W g (i * 7 + k) u) hb (by decide))).alike (map_upd hp) h.len, by rw [List.length_set]; exact h.len⟩
    rw [List.length_set]
    refine ⟨?_, .inr ⟨g, cap, _, rfl, hB, hb.put (i * 7 + k) u, hn, hm, by simpa using hs, ?_⟩⟩
    · rw [← e4, List.length_set]; exact h1
    · rw [Array.toList_setIfInBounds, List.take_set, ht, e4]
theorem flatZ_nil : ∀ (r : List DataM) (ks : List (Value × Nat × Nat)) (i : Nat), i < r.length → ks.length = r.length → (flatR (RowZ r ks)).set (i * 7 + 6) (.slice none 0 0) = flatR (RowZ (r.set i { r.getD i dat0 with Piece := [] }) (ks.set i (.slice none 0 0, (ks.getD i (.slice none 0 0, 0, 0)).2)))
  | [], _, _, h, _ => by simp at h
  | _ :: _, [], _, _, h => by simp at h
  | x :: r, kk :: ks, 0, _, _ => by
    have h1 : flatR (RowZ (x :: r) (kk :: ks)) = dcs x kk ++ flatR (RowZ r ks) := rfl
    rw [Nat.zero_mul, Nat.zero_add, h1, List.set_append_left _ _ (by simp [dcs])]
    rfl
  | x :: r, kk :: ks, i + 1, h, h2 => by
    have ih := flatZ_nil r ks i (by simpa using h) (by simpa using h2)
    have h1 : flatR (RowZ (x :: r) (kk :: ks)) = dcs x kk ++ flatR (RowZ r ks) := rfl
    have h3 : flatR (RowZ (x :: r.set i { r.getD i dat0 with Piece := [] }) (kk :: ks.set i (.slice none 0 0, (ks.getD i (.slice none 0 0, 0, 0)).2))) = dcs x kk ++ flatR (RowZ (r.set i { r.getD i dat0 with Piece := [] }) (ks.set i (.slice none 0 0, (ks.getD i (.slice none 0 0, 0, 0)).2))) := rfl
    rw [h1, List.set_append_right _ _ (by simp [dcs]; omega), show (i + 1) * 7 + 6 - (dcs x kk).length = i * 7 + 6 by simp [dcs]; omega, ih]
    exact h3.symm
theorem rowZ_set {r : List DataM} {ks : List (Value × Nat × Nat)} (i : Nat) (y : DataM) (k : Value × Nat × Nat) : RowZ (r.set i y) (ks.set i k) = (RowZ r ks).set i (daE y k.1 k.2.1 k.2.2) := by
  refine List.ext_getElem (by simp [RowZ]) (fun j h1 h2 => ?_)
  simp only [RowZ, List.getElem_zipWith, List.getElem_set]
  split <;> rfl
/-- A piece's bytes taken away. -/
theorem LZ.nil {W : World} {B g cap : Nat} {r : List DataM} {ks : List (Value × Nat × Nat)} (h : LZ W B (.slice (some ⟨g, 0, none⟩) r.length cap) r ks) {i : Nat} (hi : i < r.length) :
    ∃ ks', LZ (W.setCell ⟨g, i * 7 + 6, none⟩ (.slice none 0 0)) B (.slice (some ⟨g, 0, none⟩) r.length cap) (r.set i { r.getD i dat0 with Piece := [] }) ks' := by
  obtain ⟨h1, ⟨_, h0⟩ | ⟨g', cap', cur, e, hB, hc, hn, hm, hs, ht⟩⟩ := h.row
  · omega
  · injection e with e1 e2 e3
    injection e1 with e1
    injection e1 with e1 _
    subst e1 e3
    have hb : Blk W g 69 cur := hc
    have e4 := flatZ_nil r ks i hi h.len
    have hik : i < ks.length := by rw [h.len]; exact hi
    have hq : i < (RowZ r ks).length := by simp [RowZ, h.len, hi]
    have hkd : ks.getD i (.slice none 0 0, 0, 0) = ks[i] := by rw [List.getD_eq_getElem?_getD, List.getElem?_eq_getElem hik]; rfl
    have hrt := h.rts.turn (w' := W.setCell ⟨g, i * 7 + 6, none⟩ (.slice none 0 0)) (by simp [World.setCell]) (B8.of_win (set_win W g (i * 7 + 6) _) hb (by decide))
    have hxi := hrt.1 _ (List.getElem_mem hq)
    have hxe : (RowZ r ks)[i] = daE r[i] ks[i].1 ks[i].2.1 ks[i].2.2 := by simp [RowZ]
    rw [hxe] at hxi
    refine ⟨ks.set i (.slice none 0 0, (ks.getD i (.slice none 0 0, 0, 0)).2), ?_, ?_, by simp [h.len]⟩
    · rw [List.length_set]
      refine ⟨?_, .inr ⟨g, cap, _, rfl, hB, hb.put (i * 7 + 6) _, hn, hm, by simpa using hs, ?_⟩⟩
      · rw [← e4, List.length_set]; exact h1
      · rw [Array.toList_setIfInBounds, List.take_set, ht, e4]
    · rw [rowZ_set, hkd]
      have hlo : ∀ j (hj : j < ((RowZ r ks).set i (daE { r.getD i dat0 with Piece := [] } (.slice none 0 0) ks[i].2.1 ks[i].2.2)).length), ((RowZ r ks).set i (daE { r.getD i dat0 with Piece := [] } (.slice none 0 0) ks[i].2.1 ks[i].2.2))[j].lo = ((RowZ r ks)[j]'(by simpa using hj)).lo ∧ ((RowZ r ks).set i (daE { r.getD i dat0 with Piece := [] } (.slice none 0 0) ks[i].2.1 ks[i].2.2))[j].hi = ((RowZ r ks)[j]'(by simpa using hj)).hi := fun j hj => by
        rw [List.getElem_set]
        split
        · next e => subst e; rw [hxe]; exact ⟨rfl, rfl⟩
        · exact ⟨rfl, rfl⟩
      refine ⟨fun x hx => ?_, ?_⟩
      · rcases List.mem_or_eq_of_mem_set hx with hx | rfl
        · exact hrt.1 x hx
        · refine ⟨⟨⟨hxi.1.1.1, by unfold Ow; exact ⟨none, 0, rfl, ⟨Nat.le_refl _, by simp⟩, .inl rfl⟩⟩, hxi.1.2⟩, hxi.2⟩
      · rw [List.pairwise_iff_getElem]
        intro a b ha hb2 hab
        have hp := (List.pairwise_iff_getElem.1 hrt.2) a b (by simpa using ha) (by simpa using hb2) hab
        rw [(hlo a ha).1, (hlo a ha).2, (hlo b hb2).1, (hlo b hb2).2]
        exact hp
end Go.Proofs.Ythljdikcpdokdaa

/- Chapter 10: a sender copied: what each round keeps; how the parts of an answer are owned together. -/
namespace Go.Proofs.Ythljdikcpdokdaa
open Go.RowKit Go.Deep

theorem Win.mono {B C B' C' : Nat} {w w' : World} (h : Win B C w w') (hB : B' ≤ B) (hC : C ≤ C') : Win B' C' w w' := ⟨h.os, h.tape, h.output, h.size, fun k hk ho => h.block k hk (by omega), h.frozen⟩
theorem Blk.grownT {w w' : World} {g : Nat} {t e : TypeId} {cs : Array Value} {B s n : Nat} {v : Value} {xs : List Value} (k : Blk w g t cs) (hg : w.grownBy w' v.ownBlock) (h : w.ownsRow B e s v n xs) (ht : t ≠ e) : Blk w' g t cs := by
  have k' : w.heap[g]? = some (.cells cs t (0, 0)) := k
  refine (hg.block g k.lt (fun q => ?_)).trans k'
  obtain ⟨_, ⟨rfl, _⟩ | ⟨g2, cap2, cur2, rfl, _, k5, _⟩⟩ := h
  · simp [Value.ownBlock] at q
  · simp [Value.ownBlock] at q
    subst q
    rw [k'] at k5
    injection k5 with k5
    injection k5 with _ k5 _
    exact ht k5
/-- A sender under way of being copied, in the world u's new memory: j items are there. -/
structure CS10 (u : World) (y : SendM) (g : Nat) (S : Value) (W : World) (j : Nat) (I : Value) (ks : List (Value × Nat × Nat)) : Prop where
  box : Blk W g 47 #[.int .i64 y.Next, .int .i64 y.Acked, S, I]
  seqs : W.ownsRow u.heap.size 2 1 S y.Seqs.length (y.Seqs.map (Value.int .i64))
  its : SZ W u.heap.size u.heap.size I (y.Items.take j) ks
  out : Below u.heap.size u W
  glo : u.heap.size ≤ g
theorem CS10.start {u W : World} {y : SendM} {g : Nat} {S : Value} (hb : Blk W g 47 #[.int .i64 y.Next, .int .i64 y.Acked, S, .slice none 0 0]) (hs : W.ownsRow u.heap.size 2 1 S y.Seqs.length (y.Seqs.map (Value.int .i64))) (ho : Below u.heap.size u W) (hg : u.heap.size ≤ g) : CS10 u y g S W 0 (.slice none 0 0) [] :=
  ⟨hb, hs, by rw [List.take_zero]; exact SZ.nil _ _ _ ⟨rfl, .inl ⟨rfl, rfl⟩⟩, ho, hg⟩
theorem CS10.turn {u W W' : World} {y : SendM} {g j : Nat} {S I : Value} {ks : List (Value × Nat × Nat)} (h : CS10 u y g S W j I ks) (hb : Below W.heap.size W W') : CS10 u y g S W' j I ks :=
  ⟨h.box.below hb, own_below0 h.seqs hb, h.its.below hb, btr h.out hb, h.glo⟩
theorem take_lenJ {r : List SendItemM} {j : Nat} (hj : j ≤ r.length) : (r.take j).length = j := by rw [List.length_take]; omega
theorem CS10.app {u W Wa W' : World} {y : SendM} {g j : Nat} {S I I' v : Value} {lo hi : Nat} {ks : List (Value × Nat × Nat)} (h : CS10 u y g S W j I ks) {x : SendItemM} (hj : j < y.Items.length) (hx : y.Items[j] = x) (hb : Below W.heap.size W Wa) (hrt : RT Wa (siE x v lo hi).e) (hlo : W.heap.size ≤ lo)
    (ho : W'.ownsRow u.heap.size 121 9 I' (j + 1) (flatF (RowI (y.Items.take j) ks) ++ scs x v)) (hg : Wa.grownBy W' I.ownBlock) : CS10 u y g S (W'.setCell ⟨g, 3, none⟩ I') (j + 1) I' (ks ++ [(v, lo, hi)]) := by
  subst hx
  have ht := h.turn hb
  have hlen := take_lenJ (r := y.Items) (j := j) (by omega)
  have hks : ks.length = (y.Items.take j).length := h.its.len
  have hrow : Wa.ownsRow u.heap.size 121 9 I j (flatF (RowI (y.Items.take j) ks)) := by have := ht.its.row; rwa [hlen] at this
  have h8 : B8 Wa W' := B8.of_grown hg hrow (by decide)
  have hsz : Wa.heap.size ≤ W'.heap.size := hg.size
  have hu : u.heap.size ≤ Wa.heap.size := ht.out.size
  have hbox := ht.box.grownT hg hrow (by decide)
  have hseq := own_otherT ht.seqs hg hrow (by decide)
  have hout : Below u.heap.size u W' := ht.out.grown hg hu (fun k hk => (own_block hrow hk).1)
  have etk : y.Items.take (j + 1) = y.Items.take j ++ [y.Items[j]] := by rw [List.take_add_one, List.getElem?_eq_getElem hj]; rfl
  have erow : RowI (y.Items.take (j + 1)) (ks ++ [(v, lo, hi)]) = RowI (y.Items.take j) ks ++ [siE y.Items[j] v lo hi] := by rw [etk, RowI.snoc hks]
  refine ⟨?_, own_farT hseq hbox (by decide) 3 I', ⟨?_, ?_, by rw [etk, List.length_append, List.length_append, hks]; rfl⟩, bst hout (p := ⟨g, 3, none⟩) h.glo I', h.glo⟩
  · exact hbox.put 3 I'
  · rw [take_lenJ (by omega), erow, flatF_app]
    have e : flatF [siE y.Items[j] v lo hi] = scs y.Items[j] v := by simp [flatF, siE_cs]
    rw [e]
    exact own_farT ho hbox (by decide) 3 I'
  · rw [erow]
    refine RFs.turn ?_ (by simp [World.setCell]) (B8.of_win (set_win W' g 3 I') hbox (by decide))
    refine RFs.snoc (ht.its.rts.turn hsz h8) (hrt.turn hsz h8) (by have := h.out.size; show u.heap.size ≤ lo; omega) (fun z hz => by
      have := h.its.rts.top z hz
      show z.hi ≤ lo
      omega)
theorem RFs.mono {B B' : Nat} {w : World} {q : List RowF} (h : RFs B w q) (hB : B' ≤ B) : RFs B' w q := ⟨fun x hx => ⟨(h.1 x hx).1, Nat.le_trans hB (h.1 x hx).2⟩, h.2⟩
/-- A sender copied: its parts. -/
def CpR (y : SendM) (u : World) (e : Ending) (w' : World) : Prop := ∃ (S I : Value) (ks : List (Value × Nat × Nat)), e = .returned (.agg #[.int .i64 y.Next, .int .i64 y.Acked, S, I]) ∧
  w'.ownsRow u.heap.size 2 1 S y.Seqs.length (y.Seqs.map (Value.int .i64)) ∧ SZ w' u.heap.size u.heap.size I y.Items ks ∧ Below u.heap.size u w'

/-! The parts of an answer, owned together. -/
theorem own_seqs {w : World} {B : Nat} {v : Value} {l : List Int} (h : w.ownsRow B 2 1 v l.length (l.map (Value.int .i64))) : Ow w (.is l) (fun a _ => v.ownBlock = some a) v := by
  obtain ⟨h1, ⟨rfl, h0⟩ | ⟨g, cap, cur, rfl, hB, hc, hnc, hm, hs, ht⟩⟩ := h
  · unfold Ow
    exact ⟨none, 0, by rw [h0], ⟨by omega, by simp⟩, .inl (List.eq_nil_of_length_eq_zero h0)⟩
  · have K : Blk w g 2 cur := hc
    unfold Ow
    unfold maxLen at hm
    refine ⟨_, cap, rfl, ⟨hnc, by omega⟩, .inr ⟨g, 0, rfl, K.lt, fun j hj => ⟨by simp [Value.ownBlock], ?_, K.frozen _⟩⟩⟩
    rw [Nat.zero_add, K.cell, ← Array.getElem?_toList, show cur.toList[j]? = (cur.toList.take (l.length * 1))[j]? by rw [List.getElem?_take_of_lt (by omega)], ht]
    simp [List.getD_eq_getElem?_getD, List.getElem?_eq_getElem hj]
theorem LZ.own1 {W : World} {B : Nat} {v : Value} {r : List DataM} {ks : List (Value × Nat × Nat)} (h : LZ W B v r ks) : Ow W (st_Data r) (FpE v (RowZ r ks)) v := by
  have hd := RowZ.da h.len
  have := RTs.own1 h.row hd.len hd.ok (by decide) h.rts
  rw [hd.vs] at this
  exact this
theorem blk_ne {w : World} {g : Nat} {a b : Array Value} {s t : TypeId} (h : w.heap[g]? = some (.cells a s (0, 0))) (k : w.heap[g]? = some (.cells b t (0, 0))) (hn : s ≠ t) : False := by
  rw [h] at k
  injection k with k
  injection k with _ k _
  exact hn k
/-- The answer of a sender's function: the numbers, the four lists, all told apart. -/
theorem res_own {w : World} {B : Nat} {S I D : Value} {seqs : List Int} {its : List SendItemM} {ds : List DataM} {ks ls : List (Value × Nat × Nat)} (code nx ak : Int) (old : Bool)
    (hS : w.ownsRow B 2 1 S seqs.length (seqs.map (Value.int .i64))) (hI : SZ w B B I its ks) (hD : LZ w B D ds ls) (hx : ∀ x ∈ RowI its ks, ∀ z ∈ RowZ ds ls, x.hi ≤ z.lo ∨ z.hi ≤ x.lo) :
    OwN B w.heap.size w [.int code, .int nx, .int ak, .is seqs, st_SendItem its, st_Data ds, .bool old] [.int .i64 code, .int .i64 nx, .int .i64 ak, S, I, D, .bool old] := by
  refine OwN.int _ (OwN.int _ (OwN.int _ ⟨Nat.le_refl _, ?_⟩))
  have iS : Sub (fun a _ => S.ownBlock = some a) (Wn B w.heap.size) := fun a b z => by have := own_block hS z; exact ⟨this.1, this.2.1⟩
  have iI : Sub (FpF I (RowI its ks)) (Wn B w.heap.size) := by
    rintro a b (z | ⟨x, hx, z1, z2⟩)
    · have := own_block hI.row z; exact ⟨this.1, this.2.1⟩
    · have h1 := hI.rts.top x hx; have h2 := (hI.rts.mem x hx).2; exact ⟨by omega, by omega⟩
  have iD : Sub (FpE D (RowZ ds ls)) (Wn B w.heap.size) := by
    rintro a b (z | ⟨x, hx, z1, z2⟩)
    · have := own_block hD.row z; exact ⟨this.1, this.2.1⟩
    · have h1 := hD.rts.top x hx; have h2 := (hD.rts.1 x hx).2; exact ⟨by omega, by omega⟩
  have aSI : Apart (fun a _ => S.ownBlock = some a) (FpF I (RowI its ks)) := by
    rintro a b z (y | ⟨x, hx, y1, y2⟩)
    · obtain ⟨_, _, c1, e1⟩ := own_block hS z
      obtain ⟨_, _, c2, e2⟩ := own_block hI.row y
      exact blk_ne e1 e2 (by decide)
    · obtain ⟨_, _, c1, e1⟩ := own_block hS z
      have := (hI.rts.mem x hx).1.far (t := 2) (by decide) e1
      simp only [RowF.e] at this
      omega
  have aSD : Apart (fun a _ => S.ownBlock = some a) (FpE D (RowZ ds ls)) := by
    rintro a b z (y | ⟨x, hx, y1, y2⟩)
    · obtain ⟨_, _, c1, e1⟩ := own_block hS z
      obtain ⟨_, _, c2, e2⟩ := own_block hD.row y
      exact blk_ne e1 e2 (by decide)
    · obtain ⟨_, _, c1, e1⟩ := own_block hS z
      have := (hD.rts.1 x hx).1.far (t := 2) (by decide) e1
      omega
  have aID : Apart (FpF I (RowI its ks)) (FpE D (RowZ ds ls)) := by
    rintro a b (z | ⟨x, hx1, z1, z2⟩) (y | ⟨t, ht, y1, y2⟩)
    · obtain ⟨_, _, c1, e1⟩ := own_block hI.row z
      obtain ⟨_, _, c2, e2⟩ := own_block hD.row y
      exact blk_ne e1 e2 (by decide)
    · obtain ⟨_, _, c1, e1⟩ := own_block hI.row z
      have := (hD.rts.1 t ht).1.far (t := 121) (by decide) e1
      omega
    · obtain ⟨_, _, c1, e1⟩ := own_block hD.row y
      have := (hI.rts.mem x hx1).1.far (t := 69) (by decide) e1
      simp only [RowF.e] at this
      omega
    · rcases hx x hx1 t ht with q | q <;> omega
  have oB : OwA w [.bool old] (fun _ _ => False) [.bool old] := by
    unfold OwA
    exact ⟨fun _ _ => False, fun _ _ => False, by unfold Ow; rfl, by unfold OwA; trivial, fun _ _ z => z, fun _ _ z => z, fun _ _ z _ => z⟩
  have oD : OwA w [st_Data ds, .bool old] (FpE D (RowZ ds ls)) [D, .bool old] := by
    unfold OwA
    exact ⟨_, fun _ _ => False, hD.own1, oB, Sub.refl _, fun _ _ z => z.elim, fun _ _ _ z => z⟩
  have oI : OwA w [st_SendItem its, st_Data ds, .bool old] (Cup (FpF I (RowI its ks)) (FpE D (RowZ ds ls))) [I, D, .bool old] := by
    unfold OwA
    exact ⟨_, _, hI.own1, oD, Sub.cupL _ _, Sub.cupR _ _, aID⟩
  unfold OwA
  refine ⟨_, _, own_seqs hS, oI, iS, ?_, ?_⟩
  · rintro a b (z | z)
    · exact iI a b z
    · exact iD a b z
  · rintro a b z (y | y)
    · exact aSI a b z y
    · exact aSD a b z y
end Go.Proofs.Ythljdikcpdokdaa

/- The program's byteWriter: put, number, pair, word, count, numbers. -/
namespace Go.Proofs.Ythljdikcpdokdaa
open Go.RowKit Go.Deep

/-- A writer in block r: what is written is l, in memory behind block r. -/
def WR (w : World) (r : Nat) (l : List Int) : Prop :=
  ∃ v, Blk w r 177 #[v] ∧ w.ownsRow (r + 1) 5 1 v l.length (l.map (Value.int .u8))
theorem WR.lt {w : World} {r : Nat} {l : List Int} (h : WR w r l) : r < w.heap.size := by
  obtain ⟨v, h1, _⟩ := h
  exact h1.lt
theorem wr_nil {w : World} {r : Nat} (h : Blk w r 177 #[.slice none 0 0]) : WR w r [] := ⟨_, h, rfl, .inl ⟨rfl, rfl⟩⟩
theorem WR.below {w w' : World} {r : Nat} {l : List Int} (h : WR w r l) (hb : Below w.heap.size w w') : WR w' r l := by
  obtain ⟨v, h1, h2⟩ := h
  exact ⟨v, h1.below hb, own_below0 h2 hb⟩
/-- Blocks of other types than bytes, but for the writer's own, are kept. -/
def OthK (r : Nat) (w w' : World) : Prop := ∀ (g : Nat) (t : TypeId) (cs : Array Value), g ≠ r → t ≠ 5 → Blk w g t cs → Blk w' g t cs
theorem OthK.of_below {r : Nat} {w w' : World} (hb : Below w.heap.size w w') : OthK r w w' := fun _ _ _ _ _ h => h.below hb
theorem OthK.trans {r : Nat} {a b c : World} (h : OthK r a b) (k : OthK r b c) : OthK r a c := fun g t cs hg ht x => k g t cs hg ht (h g t cs hg ht x)
/-- A call that wrote: what is written behind it; what lies below the writer is kept. -/
def Wrote (r : Nat) (l : List Int) (w : World) (e : Ending) (w' : World) : Prop := e = .returned (.tuple #[]) ∧ WR w' r l ∧ Below r w w' ∧ OthK r w w'
theorem bs_lo0 {w0 : World} {r : Nat} {A : Option Addr} {l : List Int} (h : Bs w0 A l) (h0 : w0.heap.size ≤ r) : ∀ a, A = some a → l = [] ∨ a.block < r := by
  rcases h with h | ⟨b, off, e, h1, _⟩
  · exact fun _ _ => .inl h
  · intro a e2
    rw [e] at e2
    obtain rfl := Option.some.inj e2
    exact .inr (Nat.lt_of_lt_of_le h1 h0)
theorem is_lo0 {w0 : World} {r : Nat} {A : Option Addr} {l : List Int} (h : Is w0 A l) (h0 : w0.heap.size ≤ r) : ∀ a, A = some a → l = [] ∨ a.block < r := by
  rcases h with h | ⟨b, off, e, h1, _⟩
  · exact fun _ _ => .inl h
  · intro a e2
    rw [e] at e2
    obtain rfl := Option.some.inj e2
    exact .inr (Nat.lt_of_lt_of_le h1 h0)
/-- What lies below a writer is read as before. -/
theorem bs_lo {w w' : World} {r : Nat} {A : Option Addr} {l : List Int} (h : Bs w A l) (hlo : ∀ a, A = some a → l = [] ∨ a.block < r) (hb : Below r w w') (_hr : r < w.heap.size) : Bs w' A l := by
  rcases h with h | ⟨b, off, e, h1, h2⟩
  · exact .inl h
  · rcases hlo _ e with h3 | h3
    · exact .inl h3
    · exact .inr ⟨b, off, e, Nat.lt_of_lt_of_le h1 hb.size, fun j hj => (hb.cell (p := ⟨b, off + j, none⟩) h3).trans (h2 j hj)⟩
theorem is_lo {w w' : World} {r : Nat} {A : Option Addr} {l : List Int} (h : Is w A l) (hlo : ∀ a, A = some a → l = [] ∨ a.block < r) (hb : Below r w w') (_hr : r < w.heap.size) : Is w' A l := by
  rcases h with h | ⟨b, off, e, h1, h2⟩
  · exact .inl h
  · rcases hlo _ e with h3 | h3
    · exact .inl h3
    · exact .inr ⟨b, off, e, Nat.lt_of_lt_of_le h1 hb.size, fun j hj => (hb.cell (p := ⟨b, off + j, none⟩) h3).trans (h2 j hj)⟩
set_option maxHeartbeats 1000000 in
theorem put_any (r : Nat) (l m : List Int) (A : Option Addr) (c : Nat) (w : World) (h : WR w r l) (hA : Bs w A m) (hm : l.length + m.length ≤ 100000) :
    Calls Try.prog 213 #[.pointer (some ⟨r, 0, none⟩), .slice A m.length c] w (Wrote r (l ++ m) w) := by
  obtain ⟨v, K, O⟩ := h
  have c0 := K.cell 0
  have hlt := K.lt
  simp only [List.getElem?_toArray, List.getElem?_cons_zero] at c0
  have HK := hidH K
  have HO := hidH O
  have HA := hidH hA
  have HM := hidH hm
  clear K O hA hm
  go_enter Try.func213, Try.ntmps213
  go_wp2_with (at_builtin; refine wpList_append_bs rfl _ _ rfl (r + 1) _ _ _ rfl HO.out A m c rfl HA.out (by have := HM.out; omega) hlt ?_)
  intro v2 w2 o2 g2
  have BB : Below (r + 1) w w2 := (Below.refl (r + 1) w).grown g2 hlt (fun x hx => (HO.out.lt x hx).1)
  have HOT := hidH (show OthK r w w2 from fun g t cs _ ht hk => by
    refine (g2.block g hk.lt (fun e => ?_)).trans hk
    rcases HO.out.2 with ⟨h1, _⟩ | ⟨g1, cap, cur, h1, _, h3, _⟩
    · rw [h1] at e; cases e
    · rw [h1] at e
      obtain rfl : g = g1 := by simpa [Value.ownBlock] using e
      have h4 : some (Obj.cells cur 5 (0, 0)) = some (Obj.cells cs t (0, 0)) := h3.symm.trans hk
      simp at h4
      exact ht h4.2.symm)
  have K2 : Blk w2 r 177 #[v] := (BB.block r (Nat.lt_succ_self r)).trans HK.out
  have hs2 := BB.size
  have d0 := K2.cell 0
  have f0 := K2.frozen 0
  simp only [List.getElem?_toArray, List.getElem?_cons_zero] at d0
  have o2' : w2.ownsRow (r + 1) 5 1 v2 (l ++ m).length ((l ++ m).map (Value.int .u8)) := by simpa using o2
  obtain ⟨A2, c2, e2, _⟩ := own_ob o2'
  have HO2 := hidH o2'
  obtain ⟨n2, hn2⟩ : ∃ n2, (l ++ m).length = n2 := ⟨_, rfl⟩
  rw [hn2] at e2
  subst e2
  have HB := hidH BB
  have HK2 := hidH K2
  clear o2 o2' g2 BB K2 c0 HK HO hn2
  go_wp2
  exact bodyPost_ret (v := .tuple #[]) (by simp [results, Try.results213, go_sem]) rfl ⟨rfl, ⟨_, HK2.out.put 0 _, own_kept HO2.out (set_win w2 r 0 _) (Nat.lt_succ_self r)⟩, (HB.out.mono (Nat.le_succ r)).trans ((set_win w2 r 0 _).below (by omega)), fun g t cs hg ht hk => (HOT.out g t cs hg ht hk).far (fun e => hg e.symm) _⟩
set_option maxHeartbeats 1000000 in
theorem wnumber_any (r : Nat) (l : List Int) (n : Int) (w : World) (h : WR w r l) (h0 : 0 ≤ n) (h1 : n ≤ 255) (hm : l.length ≤ 90000) :
    Calls Try.prog 214 #[.pointer (some ⟨r, 0, none⟩), .int .i64 n] w (Wrote r (l ++ [n]) w) := by
  have B1 := bal (Below.refl w.heap.size w) (.cells #[.int .u8 n] 5)
  have HP := hidH (put_any r l [n] (some ⟨w.heap.size, 0, none⟩) 1 _ (h.below B1) (lit_bs w 5 [n]) (by simp; omega))
  have HB := hidH (And.intro (B1.mono (Nat.le_of_lt h.lt)) (OthK.of_below (r := r) B1))
  clear h hm B1
  unfold Wrote at HP
  go_enter Try.func214, Try.ntmps214
  go_wp2_with fail
  refine HP.out.mono ?_
  rintro e w2 ⟨rfl, hw, hb, ho⟩
  have HR := hidH (And.intro hw (And.intro (HB.out.1.trans hb) (OthK.trans HB.out.2 ho)))
  clear HP hw hb ho
  go_wp2
  exact bodyPost_ret (v := .tuple #[]) (by simp [results, Try.results214, go_sem]) rfl ⟨rfl, HR.out⟩
set_option maxHeartbeats 1000000 in
theorem wpair_any (r : Nat) (l : List Int) (n : Int) (w : World) (h : WR w r l) (h0 : 0 ≤ n) (h1 : n ≤ 65535) (hm : l.length ≤ 90000) :
    Calls Try.prog 211 #[.pointer (some ⟨r, 0, none⟩), .int .i64 n] w (Wrote r (l ++ [n / 256, n % 256]) w) := by
  have B1 := bal (Below.refl w.heap.size w) (.cells #[.int .u8 (n / 256), .int .u8 (n % 256)] 5)
  have HP := hidH (put_any r l [n / 256, n % 256] (some ⟨w.heap.size, 0, none⟩) 2 _ (h.below B1) (lit_bs w 5 [n / 256, n % 256]) (by simp; omega))
  have HB := hidH (And.intro (B1.mono (Nat.le_of_lt h.lt)) (OthK.of_below (r := r) B1))
  clear h hm B1
  unfold Wrote at HP
  go_enter Try.func211, Try.ntmps211
  go_wp2_with fail
  refine HP.out.mono ?_
  rintro e w2 ⟨rfl, hw, hb, ho⟩
  have HR := hidH (And.intro hw (And.intro (HB.out.1.trans hb) (OthK.trans HB.out.2 ho)))
  clear HP hw hb ho
  go_wp2
  exact bodyPost_ret (v := .tuple #[]) (by simp [results, Try.results211, go_sem]) rfl ⟨rfl, HR.out⟩
set_option maxHeartbeats 1000000 in
theorem wword_any (r : Nat) (l : List Int) (n : Int) (w : World) (h : WR w r l) (h0 : 0 ≤ n) (h1 : n ≤ 4294967295) (hm : l.length ≤ 90000) :
    Calls Try.prog 209 #[.pointer (some ⟨r, 0, none⟩), .int .i64 n] w (Wrote r (l ++ pk n) w) := by
  have HE := hidH (fun u : World => encode_any n u h0 h1)
  have HW := hidH h
  have HM := hidH hm
  have hlt := h.lt
  clear h hm
  go_enter Try.func209, Try.ntmps209
  go_wp2_with fail
  refine (HE.out _).mono ?_
  rintro e w2 ⟨rfl, h2⟩
  have hb2 : Below w.heap.size w w2 := by rw [← h2]; exact bal (Below.refl _ _) _
  have B3 := bal (Below.refl w2.heap.size w2) (.cells #[.int .u8 (n / 16777216), .int .u8 (n / 65536 % 256), .int .u8 (n / 256 % 256), .int .u8 (n % 256)] 249)
  have HP := hidH (put_any r l (pk n) (some ⟨w2.heap.size, 0, none⟩) 4 _ ((HW.out.below hb2).below B3) (lit_bs w2 249 (pk n)) (by have := HM.out; simp [pk]; omega))
  have HB := hidH (And.intro ((hb2.mono (Nat.le_of_lt hlt)).trans (B3.mono (Nat.le_trans (Nat.le_of_lt hlt) hb2.size))) (OthK.trans (OthK.of_below (r := r) hb2) (OthK.of_below B3)))
  unfold Wrote at HP
  clear h2 hb2 B3 HE HW
  go_wp2_with fail
  refine HP.out.mono ?_
  rintro e w3 ⟨rfl, hw, hb, ho⟩
  have HR := hidH (And.intro hw (And.intro (HB.out.1.trans hb) (OthK.trans HB.out.2 ho)))
  clear HP hw hb ho
  go_wp2
  exact bodyPost_ret (v := .tuple #[]) (by simp [results, Try.results209, go_sem]) rfl ⟨rfl, HR.out⟩
set_option maxHeartbeats 1000000 in
theorem wcount_any (r : Nat) (l : List Int) (n : Int) (w : World) (h : WR w r l) (h0 : 0 ≤ n) (h1 : n ≤ 255) (hm : l.length ≤ 90000) :
    Calls Try.prog 210 #[.pointer (some ⟨r, 0, none⟩), .int .i64 n] w (Wrote r (l ++ [n]) w) := by
  have HN := hidH (wnumber_any r l n w h h0 h1 hm)
  clear h hm
  unfold Wrote at HN
  go_enter Try.func210, Try.ntmps210
  go_wp2_with fail
  refine HN.out.mono ?_
  rintro e w2 ⟨rfl, hr⟩
  have HR := hidH hr
  clear HN hr
  go_wp2
  exact bodyPost_ret (v := .tuple #[]) (by simp [results, Try.results210, go_sem]) rfl ⟨rfl, HR.out⟩
set_option maxRecDepth 100000 in
set_option maxHeartbeats 2000000 in
theorem wnumbers_any (r : Nat) (l m : List Int) (A : Option Addr) (c : Nat) (w : World) (h : WR w r l) (hA : Is w A m) (hlo : ∀ a, A = some a → m = [] ∨ a.block < r) (hv : ∀ j, j < m.length → 0 ≤ m.getD j 0 ∧ m.getD j 0 ≤ 255) (hm : l.length ≤ 40000) (hn : m.length ≤ 200) :
    Calls Try.prog 221 #[.pointer (some ⟨r, 0, none⟩), .slice A m.length c] w (Wrote r (l ++ ((m.length : Int) :: m)) w) := by
  have HC := hidH (wcount_any r l (m.length : Int) w h (by omega) (by omega) (by omega))
  have HA := hidH (And.intro hA (And.intro hlo hv))
  have HM := hidH hm
  have hnI : (m.length : Int) ≤ 200 := by omega
  unfold Wrote at HC
  clear h hA hlo hv hm
  go_enter Try.func221, Try.ntmps221
  go_wp2_with fail
  refine HC.out.mono ?_
  rintro e w2 ⟨rfl, hw, hb, ho⟩
  have HW := hidH (And.intro hw (And.intro hb ho))
  clear HC hw hb ho
  go_wp2
  go_loopw [12] (fun i wr => ∃ j : Nat, j ≤ m.length ∧ i = .int .i64 j ∧ WR wr r (l ++ ((m.length : Int) :: m.take j)) ∧ Below r w wr ∧ OthK r w wr) (fun i _ => m.length - (intOf i).toNat)
  case atStart => exact ⟨0, by omega, rfl, HW.out.1, HW.out.2⟩
  case round =>
    obtain ⟨j, hj, rfl, hw, hb, ho⟩ := hrel
    by_cases hlt : j < m.length
    · have hj0 : (0 : Int) ≤ (j : Int) := by omega
      have hj1 : (j : Int) < (m.length : Int) := by omega
      obtain ⟨b, off, rfl, hcell⟩ : ∃ b off, A = some ⟨b, off, none⟩ ∧ wr.cell? ⟨b, off + j, none⟩ = some (.int .i64 (m.getD j 0)) := by
        rcases HA.out.1 with h | ⟨b, off, e, hb', h⟩
        · rw [h] at hlt; simp at hlt
        · have hbr : b < r := by
            rcases HA.out.2.1 _ e with h9 | h9
            · rw [h9] at hlt; simp at hlt
            · exact h9
          exact ⟨b, off, e, (hb.cell (p := ⟨b, off + j, none⟩) hbr).trans (h j hlt)⟩
      obtain ⟨x0, x1⟩ := HA.out.2.2 j hlt
      have ht : m.take (j + 1) = m.take j ++ [m.getD j 0] := by
        rw [List.take_add_one, List.getElem?_eq_getElem hlt, Option.toList_some, List.getD_eq_getElem?_getD, List.getElem?_eq_getElem hlt, Option.getD_some]
      obtain ⟨x, hx⟩ : ∃ x, m.getD j 0 = x := ⟨_, rfl⟩
      rw [hx] at hcell x0 x1 ht
      have HT := hidH ht
      have HN := hidH (wnumber_any r _ x wr hw x0 x1 (by have := HM.out; simp; omega))
      unfold Wrote at HN
      have HB := hidH (And.intro hb ho)
      clear hw hb ho ht hx
      go_wp2_with fail
      refine HN.out.mono ?_
      rintro e w3 ⟨rfl, hw, hb, ho⟩
      have HR := hidH (show WR w3 r (l ++ ((m.length : Int) :: m.take (j + 1))) ∧ Below r w w3 ∧ OthK r w w3 from ⟨by rw [HT.out]; simpa using hw, HB.out.1.trans hb, OthK.trans HB.out.2 ho⟩)
      clear HN HB hw hb ho
      go_wp2
      go_roundw
      case rel => exact ⟨j + 1, by omega, by go_num, HR.out⟩
      case measure => simp [intOf]; omega
    · obtain rfl : j = m.length := by omega
      rw [List.take_length] at hw
      have HR := hidH (And.intro hw (And.intro hb ho))
      clear hw hb ho hlt hj
      go_wp2
      exact bodyPost_ret (v := .tuple #[]) (by simp [results, Try.results221, go_sem]) rfl ⟨rfl, HR.out⟩
end Go.Proofs.Ythljdikcpdokdaa

/- Init, Answer and their results (WRITTEN BY tools/kinds.py) -/
namespace Go.Proofs.Ythljdikcpdokdaa
open Go.RowKit Go.Deep Go.ChangeShapes Go.WideShapes Go.ChangeAt

structure InitM where
  Tag : Int
  Tsn : Int
  Random : List Int
  Addrs : List Int
  Cookie : List Int
def InitM.vs (x : InitM) : List V := [.int x.Tag, .int x.Tsn, .bs x.Random, .is x.Addrs, .bs x.Cookie]
theorem shape_Init {w : World} {n0 : Int} {n1 : Int} {l2 : List Int} {l3 : List Int} {l4 : List Int} {vs : List Value} (h : RdA w [.int n0, .int n1, .bs l2, .is l3, .bs l4] vs) : ∃ (A2 : Option Addr) (c2 : Nat) (A3 : Option Addr) (c3 : Nat) (A4 : Option Addr) (c4 : Nat), vs = [.int .i64 n0, .int .i64 n1, .slice A2 l2.length c2, .slice A3 l3.length c3, .slice A4 l4.length c4] := by
  obtain ⟨q0, e0, t0⟩ := h.int_out
  subst e0
  obtain ⟨q1, e1, t1⟩ := t0.int_out
  subst e1
  obtain ⟨v2, q2, e2, h2, t2⟩ := t1.any_out
  obtain ⟨A2, c2, a2⟩ := h2.bs_sh
  subst e2 a2
  obtain ⟨v3, q3, e3, h3, t3⟩ := t2.any_out
  obtain ⟨A3, c3, a3⟩ := h3.is_sh
  subst e3 a3
  obtain ⟨v4, q4, e4, h4, t4⟩ := t3.any_out
  obtain ⟨A4, c4, a4⟩ := h4.bs_sh
  subst e4 a4
  have z := t4.nil_out
  subst z
  exact ⟨A2, c2, A3, c3, A4, c4, rfl⟩
theorem cnt_Init (y : InitM) (h : tot.totL y.vs ≤ 1048576) : vcA y.vs ≤ 1000000000 := by
  simp only [InitM.vs, vcA, vc, tot.totL, tot, cc] at *
  omega
theorem mem_Init {w : World} {g o : Nat} {y : InitM} (h : RdL w y.vs g o) : ∃ (A2 : Option Addr) (c2 : Nat) (A3 : Option Addr) (c3 : Nat) (A4 : Option Addr) (c4 : Nat), w.cell? ⟨g, o, none⟩ = some (.int .i64 y.Tag) ∧ w.cell? ⟨g, o + 1, none⟩ = some (.int .i64 y.Tsn) ∧ w.cell? ⟨g, o + 2, none⟩ = some (.slice A2 y.Random.length c2) ∧ w.cell? ⟨g, o + 3, none⟩ = some (.slice A3 y.Addrs.length c3) ∧ w.cell? ⟨g, o + 4, none⟩ = some (.slice A4 y.Cookie.length c4) ∧ Rd w (.bs y.Random) (.slice A2 y.Random.length c2) ∧ Rd w (.is y.Addrs) (.slice A3 y.Addrs.length c3) ∧ Rd w (.bs y.Cookie) (.slice A4 y.Cookie.length c4) := by
  obtain ⟨u0, p0, t0⟩ := h.get? 0 (.int y.Tag) rfl
  have e0 := t0.int_out
  subst e0
  obtain ⟨u1, p1, t1⟩ := h.get? 1 (.int y.Tsn) rfl
  have e1 := t1.int_out
  subst e1
  obtain ⟨u2, p2, t2⟩ := h.get? 2 (.bs y.Random) rfl
  obtain ⟨A2, c2, e2⟩ := t2.bs_sh
  subst e2
  obtain ⟨u3, p3, t3⟩ := h.get? 3 (.is y.Addrs) rfl
  obtain ⟨A3, c3, e3⟩ := t3.is_sh
  subst e3
  obtain ⟨u4, p4, t4⟩ := h.get? 4 (.bs y.Cookie) rfl
  obtain ⟨A4, c4, e4⟩ := t4.bs_sh
  subst e4
  rw [Nat.add_zero] at p0
  exact ⟨A2, c2, A3, c3, A4, c4, p0, p1, p2, p3, p4, t2, t3, t4⟩
structure InitResultM where
  Code : Int
  Init_Tag : Int
  Init_Tsn : Int
  Init_Random : List Int
  Init_Addrs : List Int
  Init_Cookie : List Int
def InitResultM.vs (x : InitResultM) : List V := [.int x.Code, .int x.Init_Tag, .int x.Init_Tsn, .bs x.Init_Random, .is x.Init_Addrs, .bs x.Init_Cookie]
theorem shape_InitResult {w : World} {n0 : Int} {n1 : Int} {n2 : Int} {l3 : List Int} {l4 : List Int} {l5 : List Int} {vs : List Value} (h : RdA w [.int n0, .int n1, .int n2, .bs l3, .is l4, .bs l5] vs) : ∃ (A3 : Option Addr) (c3 : Nat) (A4 : Option Addr) (c4 : Nat) (A5 : Option Addr) (c5 : Nat), vs = [.int .i64 n0, .int .i64 n1, .int .i64 n2, .slice A3 l3.length c3, .slice A4 l4.length c4, .slice A5 l5.length c5] := by
  obtain ⟨q0, e0, t0⟩ := h.int_out
  subst e0
  obtain ⟨q1, e1, t1⟩ := t0.int_out
  subst e1
  obtain ⟨q2, e2, t2⟩ := t1.int_out
  subst e2
  obtain ⟨v3, q3, e3, h3, t3⟩ := t2.any_out
  obtain ⟨A3, c3, a3⟩ := h3.bs_sh
  subst e3 a3
  obtain ⟨v4, q4, e4, h4, t4⟩ := t3.any_out
  obtain ⟨A4, c4, a4⟩ := h4.is_sh
  subst e4 a4
  obtain ⟨v5, q5, e5, h5, t5⟩ := t4.any_out
  obtain ⟨A5, c5, a5⟩ := h5.bs_sh
  subst e5 a5
  have z := t5.nil_out
  subst z
  exact ⟨A3, c3, A4, c4, A5, c5, rfl⟩
theorem cnt_InitResult (y : InitResultM) (h : tot.totL y.vs ≤ 1048576) : vcA y.vs ≤ 1000000000 := by
  simp only [InitResultM.vs, vcA, vc, tot.totL, tot, cc] at *
  omega
theorem mem_InitResult {w : World} {g o : Nat} {y : InitResultM} (h : RdL w y.vs g o) : ∃ (A3 : Option Addr) (c3 : Nat) (A4 : Option Addr) (c4 : Nat) (A5 : Option Addr) (c5 : Nat), w.cell? ⟨g, o, none⟩ = some (.int .i64 y.Code) ∧ w.cell? ⟨g, o + 1, none⟩ = some (.int .i64 y.Init_Tag) ∧ w.cell? ⟨g, o + 2, none⟩ = some (.int .i64 y.Init_Tsn) ∧ w.cell? ⟨g, o + 3, none⟩ = some (.slice A3 y.Init_Random.length c3) ∧ w.cell? ⟨g, o + 4, none⟩ = some (.slice A4 y.Init_Addrs.length c4) ∧ w.cell? ⟨g, o + 5, none⟩ = some (.slice A5 y.Init_Cookie.length c5) ∧ Rd w (.bs y.Init_Random) (.slice A3 y.Init_Random.length c3) ∧ Rd w (.is y.Init_Addrs) (.slice A4 y.Init_Addrs.length c4) ∧ Rd w (.bs y.Init_Cookie) (.slice A5 y.Init_Cookie.length c5) := by
  obtain ⟨u0, p0, t0⟩ := h.get? 0 (.int y.Code) rfl
  have e0 := t0.int_out
  subst e0
  obtain ⟨u1, p1, t1⟩ := h.get? 1 (.int y.Init_Tag) rfl
  have e1 := t1.int_out
  subst e1
  obtain ⟨u2, p2, t2⟩ := h.get? 2 (.int y.Init_Tsn) rfl
  have e2 := t2.int_out
  subst e2
  obtain ⟨u3, p3, t3⟩ := h.get? 3 (.bs y.Init_Random) rfl
  obtain ⟨A3, c3, e3⟩ := t3.bs_sh
  subst e3
  obtain ⟨u4, p4, t4⟩ := h.get? 4 (.is y.Init_Addrs) rfl
  obtain ⟨A4, c4, e4⟩ := t4.is_sh
  subst e4
  obtain ⟨u5, p5, t5⟩ := h.get? 5 (.bs y.Init_Cookie) rfl
  obtain ⟨A5, c5, e5⟩ := t5.bs_sh
  subst e5
  rw [Nat.add_zero] at p0
  exact ⟨A3, c3, A4, c4, A5, c5, p0, p1, p2, p3, p4, p5, t3, t4, t5⟩
structure AnswerM where
  Serial : Int
  Codes : List Int
def AnswerM.vs (x : AnswerM) : List V := [.int x.Serial, .is x.Codes]
theorem shape_Answer {w : World} {n0 : Int} {l1 : List Int} {vs : List Value} (h : RdA w [.int n0, .is l1] vs) : ∃ (A1 : Option Addr) (c1 : Nat), vs = [.int .i64 n0, .slice A1 l1.length c1] := by
  obtain ⟨q0, e0, t0⟩ := h.int_out
  subst e0
  obtain ⟨v1, q1, e1, h1, t1⟩ := t0.any_out
  obtain ⟨A1, c1, a1⟩ := h1.is_sh
  subst e1 a1
  have z := t1.nil_out
  subst z
  exact ⟨A1, c1, rfl⟩
theorem cnt_Answer (y : AnswerM) (h : tot.totL y.vs ≤ 1048576) : vcA y.vs ≤ 1000000000 := by
  simp only [AnswerM.vs, vcA, vc, tot.totL, tot, cc] at *
  omega
theorem mem_Answer {w : World} {g o : Nat} {y : AnswerM} (h : RdL w y.vs g o) : ∃ (A1 : Option Addr) (c1 : Nat), w.cell? ⟨g, o, none⟩ = some (.int .i64 y.Serial) ∧ w.cell? ⟨g, o + 1, none⟩ = some (.slice A1 y.Codes.length c1) ∧ Rd w (.is y.Codes) (.slice A1 y.Codes.length c1) := by
  obtain ⟨u0, p0, t0⟩ := h.get? 0 (.int y.Serial) rfl
  have e0 := t0.int_out
  subst e0
  obtain ⟨u1, p1, t1⟩ := h.get? 1 (.is y.Codes) rfl
  obtain ⟨A1, c1, e1⟩ := t1.is_sh
  subst e1
  rw [Nat.add_zero] at p0
  exact ⟨A1, c1, p0, p1, t1⟩
structure AnswerResultM where
  Code : Int
  Answer_Serial : Int
  Answer_Codes : List Int
def AnswerResultM.vs (x : AnswerResultM) : List V := [.int x.Code, .int x.Answer_Serial, .is x.Answer_Codes]
theorem shape_AnswerResult {w : World} {n0 : Int} {n1 : Int} {l2 : List Int} {vs : List Value} (h : RdA w [.int n0, .int n1, .is l2] vs) : ∃ (A2 : Option Addr) (c2 : Nat), vs = [.int .i64 n0, .int .i64 n1, .slice A2 l2.length c2] := by
  obtain ⟨q0, e0, t0⟩ := h.int_out
  subst e0
  obtain ⟨q1, e1, t1⟩ := t0.int_out
  subst e1
  obtain ⟨v2, q2, e2, h2, t2⟩ := t1.any_out
  obtain ⟨A2, c2, a2⟩ := h2.is_sh
  subst e2 a2
  have z := t2.nil_out
  subst z
  exact ⟨A2, c2, rfl⟩
theorem cnt_AnswerResult (y : AnswerResultM) (h : tot.totL y.vs ≤ 1048576) : vcA y.vs ≤ 1000000000 := by
  simp only [AnswerResultM.vs, vcA, vc, tot.totL, tot, cc] at *
  omega
theorem mem_AnswerResult {w : World} {g o : Nat} {y : AnswerResultM} (h : RdL w y.vs g o) : ∃ (A2 : Option Addr) (c2 : Nat), w.cell? ⟨g, o, none⟩ = some (.int .i64 y.Code) ∧ w.cell? ⟨g, o + 1, none⟩ = some (.int .i64 y.Answer_Serial) ∧ w.cell? ⟨g, o + 2, none⟩ = some (.slice A2 y.Answer_Codes.length c2) ∧ Rd w (.is y.Answer_Codes) (.slice A2 y.Answer_Codes.length c2) := by
  obtain ⟨u0, p0, t0⟩ := h.get? 0 (.int y.Code) rfl
  have e0 := t0.int_out
  subst e0
  obtain ⟨u1, p1, t1⟩ := h.get? 1 (.int y.Answer_Serial) rfl
  have e1 := t1.int_out
  subst e1
  obtain ⟨u2, p2, t2⟩ := h.get? 2 (.is y.Answer_Codes) rfl
  obtain ⟨A2, c2, e2⟩ := t2.is_sh
  subst e2
  rw [Nat.add_zero] at p0
  exact ⟨A2, c2, p0, p1, p2, t2⟩
end Go.Proofs.Ythljdikcpdokdaa

/- Chapter 5 on numbers: answers; the model's l5AnswerFault, l5Bytes. -/
namespace Go.Proofs.Ythljdikcpdokdaa
open Go.RowKit Go.Deep

def okCs (l : List Int) : Prop := ∀ j, j < l.length → inB (l.getD j 0) 0 20 = true
instance (l : List Int) : Decidable (okCs l) := by unfold okCs; exact Nat.decidableBallLT l.length (fun j _ => inB (l.getD j 0) 0 20 = true)
def paF (y : AnswerM) : Int := if wB y.Serial then (if 1 ≤ y.Codes.length ∧ y.Codes.length ≤ 4 then (if okCs y.Codes then 0 else 3) else 2) else 3
def paC (y : AnswerM) : ChunkM := ⟨128, 0, pk y.Serial ++ ((y.Codes.length : Int) :: y.Codes)⟩
def paR (y : AnswerM) : ChunkResultM := crOf (paF y) (paC y)
theorem paR_len (y : AnswerM) (_ : WfA y.vs) (h : tot.totL y.vs ≤ 1048576) : vcA (paR y).vs ≤ 1000000000 := by
  simp only [AnswerM.vs, tot.totL, tot] at h
  unfold paR crOf
  split
  · simp [ChunkResultM.vs, vcA, vc, cc, paC, pk]; omega
  · simp [ChunkResultM.vs, vcA, vc, cc]
theorem paF_zero {y : AnswerM} (h : paF y = 0) : (0 ≤ y.Serial ∧ y.Serial ≤ 4294967295) ∧ (1 ≤ y.Codes.length ∧ y.Codes.length ≤ 4) ∧ okCs y.Codes := by
  unfold paF wB inB at h
  split at h
  · next h1 =>
    simp at h1
    split at h
    · next h2 =>
      split at h
      · next h3 => exact ⟨h1, h2, h3⟩
      · cases h
    · cases h
  · cases h
theorem isOf {w : World} {l : List Int} {A : Option Addr} {n c : Nat} (h : Rd w (.is l) (.slice A n c)) : Is w A l := by
  obtain ⟨A', c', e, _, hb⟩ := h.is_out
  injection e with e1 e2 e3
  subst e1
  exact hb
end Go.Proofs.Ythljdikcpdokdaa
