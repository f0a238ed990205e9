/- A list of chunks that grows by append, in memory of the call's own. -/
import Derived.Test.YtepcikghhnfacaaDoorJa5
import Derived.Test.YtepcikghhnfacaaDoorJa9
import Derived.Test.YtepcikghhnfacaaDoorJa8
import Derived.Laws.AppendOwn
namespace Go.Proofs.YtepcikghhnfacaaDoor
open Go.RowKit Go.Deep

/-- The cells of a chunk. -/
def ce (x : Chk) (p : Option Addr × Nat) : List Value := [.int .i64 x.kind, .int .i64 x.flags, .slice p.1 x.body.length p.2]
def flatC : List Chk → List (Option Addr × Nat) → List Value
  | x :: cs, p :: ps => ce x p ++ flatC cs ps
  | [], _ => []
  | _ :: _, [] => []
theorem flatC_app : ∀ (cs : List Chk) (ps : List (Option Addr × Nat)) (x : Chk) (p : Option Addr × Nat), ps.length = cs.length → flatC (cs ++ [x]) (ps ++ [p]) = flatC cs ps ++ ce x p
  | [], [], x, p, _ => by simp [flatC]
  | [], _ :: _, _, _, h => by simp at h
  | _ :: _, [], _, _, h => by simp at h
  | y :: cs, q :: ps, x, p, h => by
    simp only [List.cons_append, flatC, List.append_assoc]
    rw [flatC_app cs ps x p (by simpa using h)]
theorem flatC_at : ∀ (cs : List Chk) (ps : List (Option Addr × Nat)) (_ : ps.length = cs.length) (j : Nat) (hj : j < cs.length) (hp : j < ps.length) (t : Nat), t < 3 → (flatC cs ps)[j * 3 + t]? = (ce cs[j] ps[j])[t]?
  | [], _, _, j, hj, _, _, _ => by simp at hj
  | _ :: _, [], h, _, _, _, _, _ => by simp at h
  | x :: cs, p :: ps, h, 0, hj, hp, t, ht => by
    simp only [flatC, List.getElem_cons_zero, Nat.zero_mul, Nat.zero_add]
    rw [List.getElem?_append_left (by simpa [ce] using ht)]
  | x :: cs, p :: ps, h, j + 1, hj, hp, t, ht => by
    simp only [flatC, List.getElem_cons_succ]
    rw [List.getElem?_append_right (by simp [ce]; omega), ← flatC_at cs ps (by simpa using h) j (by simpa using hj) (by simpa using hp) t ht]
    congr 1
    simp [ce]; omega
theorem flatC_one (cs : List Chk) (ps : List (Option Addr × Nat)) : ∀ u ∈ flatC cs ps, u.oneCell' = true := by
  induction cs generalizing ps with
  | nil => intro u hu; cases ps <;> simp [flatC] at hu
  | cons x cs ih =>
    cases ps with
    | nil => intro u hu; simp [flatC] at hu
    | cons p ps =>
      intro u hu
      simp only [flatC, List.mem_append, ce, List.mem_cons, List.not_mem_nil, or_false] at hu
      rcases hu with (rfl | rfl | rfl) | hu
      · rfl
      · rfl
      · rfl
      · exact ih ps u hu
/-- The list: its row, and each body in a block of its own, from B on and below T. -/
def Gr (B T : Nat) (w : World) (v : Value) (cs : List Chk) : Prop :=
  T ≤ w.heap.size ∧ ∃ (ps : List (Option Addr × Nat)) (bs : Nat → Nat), ps.length = cs.length ∧ w.ownsRow B 49 3 v cs.length (flatC cs ps) ∧ (∀ i j, i < j → j < cs.length → bs i < bs j) ∧
    ∀ j (hj : j < cs.length) (hp : j < ps.length), B ≤ bs j ∧ bs j < T ∧ Tb w (bs j) ps[j].1 cs[j].body
theorem Gr.nil {B : Nat} {w : World} (hB : B ≤ w.heap.size) : Gr B B w (.slice none 0 0) [] :=
  ⟨hB, [], fun _ => 0, rfl, World.ownsRow_nil _ _ _ _, fun _ _ _ h => by simp at h, fun _ h => by simp at h⟩
theorem Gr.mono {B T T' : Nat} {w : World} {v : Value} {cs : List Chk} (h : Gr B T w v cs) (h1 : T ≤ T') (h2 : T' ≤ w.heap.size) : Gr B T' w v cs := by
  obtain ⟨_, ps, bs, q1, q2, q3, q4⟩ := h
  exact ⟨h2, ps, bs, q1, q2, q3, fun j hj hp => by obtain ⟨r1, r2, r3⟩ := q4 j hj hp; exact ⟨r1, Nat.lt_of_lt_of_le r2 h1, r3⟩⟩
theorem Gr.below {B T : Nat} {w w' : World} {v : Value} {cs : List Chk} (h : Gr B T w v cs) (hb : Below w.heap.size w w') : Gr B T w' v cs := by
  obtain ⟨h1, ps, bs, q1, q2, q3, q4⟩ := h
  exact ⟨Nat.le_trans h1 hb.size, ps, bs, q1, own_below0 q2 hb, q3, fun j hj hp => by obtain ⟨r1, r2, r3⟩ := q4 j hj hp; exact ⟨r1, r2, r3.below hb⟩⟩
theorem Gr.win {B T r : Nat} {w w' : World} {v : Value} {cs : List Chk} (h : Gr B T w v cs) (hw : Win r (r + 1) w w') (hr : r < B) : Gr B T w' v cs := by
  obtain ⟨h1, ps, bs, q1, q2, q3, q4⟩ := h
  refine ⟨Nat.le_trans h1 hw.size, ps, bs, q1, q2.kept hw.grown (.inr (fun e => by have := q2.lt r e; omega)), q3, fun j hj hp => ?_⟩
  obtain ⟨r1, r2, r3⟩ := q4 j hj hp
  refine ⟨r1, r2, ?_⟩
  rcases r3 with r3 | ⟨s1, cur, s2, s3⟩
  · exact .inl r3
  · exact .inr ⟨s1, cur, hw.blk s2 (.inr (by omega)), s3⟩
theorem Gr.slice {B T : Nat} {w : World} {v : Value} {cs : List Chk} (h : Gr B T w v cs) : ∃ P c, v = .slice P cs.length c := by
  obtain ⟨_, ps, bs, q1, q2, _⟩ := h
  rcases q2.2 with ⟨rfl, hn⟩ | ⟨g, cap, cur, rfl, _⟩
  · exact ⟨none, 0, by rw [hn]⟩
  · exact ⟨_, cap, rfl⟩
theorem Gr.sliceN {B T : Nat} {w : World} {v : Value} {cs : List Chk} (h : Gr B T w v cs) : ∃ P n c, v = .slice P n c := by
  obtain ⟨P, c, e⟩ := h.slice
  exact ⟨P, _, c, e⟩
theorem Gr.len {B T : Nat} {w : World} {P : Option Addr} {n c : Nat} {cs : List Chk} (h : Gr B T w (.slice P n c) cs) : n = cs.length := by
  obtain ⟨P, c, e⟩ := h.slice
  simp only [Value.slice.injEq] at e
  exact e.2.1
theorem Gr.ocs {B T : Nat} {w : World} {P : Option Addr} {n c : Nat} {cs : List Chk} (h : Gr B T w (.slice P n c) cs) : OCs B w.heap.size w P cs := by
  obtain ⟨hT, ps, bs, q1, q2, q3, q4⟩ := h
  rcases Nat.eq_zero_or_pos cs.length with h0 | h0
  · exact .inl (List.eq_nil_of_length_eq_zero h0)
  · rcases q2.2 with ⟨_, hn⟩ | ⟨g, cap, cur, hv, hg, hblk, hnc, _, hs, ht⟩
    · omega
    · simp only [Value.slice.injEq] at hv
      obtain ⟨rfl, rfl, rfl⟩ := hv
      have K : Blk w g 49 cur := hblk
      have hcell : ∀ j (hj : j < cs.length) t, t < 3 → w.cell? ⟨g, j * 3 + t, none⟩ = (ce cs[j] (ps[j]'(by omega)))[t]? := fun j hj t htt => by
        rw [K.cell, ← flatC_at cs ps q1 j hj (by omega) t htt, ← ht, List.getElem?_take_of_lt (by omega)]
        simp
      refine .inr ⟨g, 0, bs, fun j => if hj : j < cs.length then (if (cs[j]).body = [] then bs j else bs j + 1) else bs j, rfl, hg, K.lt, Nat.le_refl _, fun i j hij hj => ?_, fun j hj => ?_⟩
      · have := q3 i j hij hj
        simp only [dif_pos (Nat.lt_trans hij hj)]
        split <;> omega
      · obtain ⟨r1, r2, r3⟩ := q4 j hj (by omega)
        simp only [dif_pos hj, Nat.zero_add]
        have c0 := hcell j hj 0 (by omega)
        have c1 := hcell j hj 1 (by omega)
        have c2 := hcell j hj 2 (by omega)
        rw [Nat.add_zero] at c0
        simp only [ce, List.getElem?_cons_zero, List.getElem?_cons_succ] at c0 c1 c2
        by_cases e : (cs[j]).body = []
        · simp only [if_pos e]
          exact ⟨r1, by omega, by omega, _, _, c0, c1, c2, fun t => K.frozen t, .inl e⟩
        · simp only [if_neg e]
          have hne : g ≠ bs j := by
            rcases r3 with r3 | ⟨_, cur2, s2, _⟩
            · exact absurd r3 e
            · intro hgb
              subst hgb
              have := Option.some.inj (K.symm.trans s2)
              simp at this
          exact ⟨r1, by omega, by omega, _, _, c0, c1, c2, fun t => K.frozen t, r3.ob⟩
/-- One chunk more. -/
theorem Gr.more {B T : Nat} {w w' : World} {v v' : Value} {cs : List Chk} {ps : List (Option Addr × Nat)} {bs : Nat → Nat} {y : Chk} {p : Option Addr × Nat} {b : Nat} (_hT : T ≤ w.heap.size) (hB : B ≤ T)
    (q1 : ps.length = cs.length) (q2 : w.ownsRow B 49 3 v cs.length (flatC cs ps)) (q3 : ∀ i j, i < j → j < cs.length → bs i < bs j) (q4 : ∀ j (hj : j < cs.length) (hp : j < ps.length), B ≤ bs j ∧ bs j < T ∧ Tb w (bs j) ps[j].1 cs[j].body)
    (hb1 : T ≤ b) (hb2 : b < w.heap.size) (hTb : Tb w b p.1 y.body) (ho : w'.ownsRow B 49 3 v' (cs.length + 1) (flatC cs ps ++ ce y p)) (hg : w.grownBy w' v.ownBlock) : Gr B w.heap.size w' v' (cs ++ [y]) := by
  have keep : ∀ {b : Nat} {A : Option Addr} {l : List Int}, Tb w b A l → Tb w' b A l := fun {b A l} h => by
    rcases h with h | ⟨s1, cur, s2, s3⟩
    · exact .inl h
    · refine .inr ⟨s1, cur, (hg.block b s2.lt (fun e => ?_)).trans s2, s3⟩
      rcases q2.2 with ⟨rfl, _⟩ | ⟨g, cap, cur2, rfl, _, hgg, _⟩
      · simp [Value.ownBlock] at e
      · simp only [Value.ownBlock, Option.some.injEq] at e
        subst e
        have := Option.some.inj (hgg.symm.trans s2)
        simp at this
  refine ⟨hg.size, ps ++ [p], fun j => if j < cs.length then bs j else b, by simp [q1], by rw [flatC_app _ _ _ _ q1]; simpa using ho, fun i j hij hj => ?_, fun j hj hp => ?_⟩
  · simp only [List.length_append, List.length_cons, List.length_nil] at hj
    by_cases e : j < cs.length
    · simp only [if_pos e, if_pos (Nat.lt_trans hij e)]
      exact q3 i j hij e
    · simp only [if_neg e, if_pos (show i < cs.length by omega)]
      have := (q4 i (by omega) (by omega)).2.1
      omega
  · simp only [List.length_append, List.length_cons, List.length_nil] at hj
    by_cases e : j < cs.length
    · simp only [if_pos e]
      obtain ⟨r1, r2, r3⟩ := q4 j e (by omega)
      rw [List.getElem_append_left e, List.getElem_append_left (show j < ps.length by omega)]
      exact ⟨r1, by omega, keep r3⟩
    · obtain rfl : j = cs.length := by omega
      simp only [if_neg e]
      rw [List.getElem_append_right (Nat.le_refl _), List.getElem_append_right (show ps.length ≤ cs.length by omega)]
      simp only [Nat.sub_self, List.getElem_cons_zero, q1]
      exact ⟨by omega, hb2, keep hTb⟩
theorem wpList_append_gr {w : World} {ops : Array Oper} {rest : List Oper} {o : Oper} {a : Act} {Q : Exit → Act → World → Prop} (hgd : o.guard = none) (s x : Operand)
    (ho : o.op = .call { callee := .builtin .append, args := #[s, x], argTypes := #[24, 24] })
    (B T : Nat) (v : Value) (cs : List Chk) (hs : a.eval s = v) (hG : Gr B T w v cs) (q : Nat) (y : Chk) (A : Option Addr) (c b t : Nat) (hx : a.eval x = .slice (some ⟨q, 0, none⟩) 1 1)
    (hq : Blk w q t #[.int .i64 y.kind, .int .i64 y.flags, .slice A y.body.length c]) (hTb : Tb w b A y.body) (hb1 : T ≤ b) (hb2 : b < w.heap.size) (hB : B ≤ T) (hn : cs.length ≤ 100000)
    (h : ∀ v' w', Gr B w.heap.size w' v' (cs ++ [y]) → Below B w w' → wpList Tryd.prog ops Q rest (a.put o.dst v') w') : wpList Tryd.prog ops Q (o :: rest) a w := by
  obtain ⟨hT, ps, bs, q1, q2, q3, q4⟩ := hG
  obtain ⟨i0, hi, hz0, hz1, hz2⟩ := info_parts infoCk
  refine wpList_append_own w hgd s x 24 ho B 49 i0 _ 3 40 Tryd.underlying24 hi hz0 hz1 hz2 (by rfl) (by decide) v cs.length (flatC cs ps) hs q2 ⟨q, 0, none⟩ 1 1 (ce y (A, c)) hx (by rfl)
    (fun j u hu => ?_) (fun u hu => ?_) (by unfold maxLen; omega) (by omega) (by omega) (fun v' w' h1 h2 _ => h v' w' (Gr.more hT hB q1 q2 q3 q4 hb1 hb2 hTb h1 h2) ((Below.refl B w).grown h2 (by omega) (fun k hk => (q2.lt k hk).1)))
  · have e : (⟨q, 0, none⟩ : Addr).add j = ⟨q, j, none⟩ := by rw [add_off, Nat.zero_add]
    rw [e, hq.cell, ← hu]
    simp [ce]
  · simp only [ce, List.mem_cons, List.not_mem_nil, or_false] at hu
    rcases hu with rfl | rfl | rfl <;> rfl
end Go.Proofs.YtepcikghhnfacaaDoor
