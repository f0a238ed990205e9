/- Trees: slices of structs, row by row. -/
import Derived.Test.YthljdikcpdokdaaUniB
import Derived.StillTailTactics
namespace Go.Proofs.Ythljdikcpdokdaa
open Go.RowKit Go.Deep

theorem flat_take {α : Type} (f : α → List V) (r : List α) (j : Nat) (hj : j < r.length) : (r.take (j + 1)).flatMap f = (r.take j).flatMap f ++ f r[j] := by
  rw [List.take_add_one, List.getElem?_eq_getElem hj, Option.toList_some, List.flatMap_append]
  simp
theorem flat_drop {α : Type} (f : α → List V) (r : List α) (j : Nat) (hj : j < r.length) : (r.drop j).flatMap f = f r[j] ++ (r.drop (j + 1)).flatMap f := by
  rw [List.drop_eq_getElem_cons hj, List.flatMap_cons]
theorem flat_len {α : Type} {f : α → List V} {W : Nat} (hf : ∀ x, (f x).length = W) (r : List α) : (r.flatMap f).length = r.length * W := by
  induction r with
  | nil => simp
  | cons x xs ih => rw [List.flatMap_cons, List.length_append, ih, hf, List.length_cons, Nat.add_mul]; omega
theorem flat_split {α : Type} (f : α → List V) (r : List α) (j : Nat) (hj : j < r.length) : r.flatMap f = (r.take j).flatMap f ++ (f r[j] ++ (r.drop (j + 1)).flatMap f) := by
  rw [← flat_drop f r j hj, ← List.flatMap_append, List.take_append_drop]
theorem take_len {α : Type} {f : α → List V} {W : Nat} (hf : ∀ x, (f x).length = W) (r : List α) (j : Nat) (hj : j ≤ r.length) : ((r.take j).flatMap f).length = j * W := by
  rw [flat_len hf, List.length_take, Nat.min_eq_left hj]
theorem RdL.get? {w : World} {xs : List V} {g o : Nat} (h : RdL w xs g o) (i : Nat) (x : V) (hx : xs[i]? = some x) : ∃ u, w.cell? ⟨g, o + i, none⟩ = some u ∧ Rd w x u := by
  obtain ⟨hi, e⟩ := List.getElem?_eq_some_iff.1 hx
  obtain ⟨u, h1, h2⟩ := h.at i hi
  exact ⟨u, h1, e ▸ h2⟩
theorem mid_get {a b c : List V} {k : Nat} {x : V} (h : b[k]? = some x) : (a ++ (b ++ c))[a.length + k]? = some x := by
  obtain ⟨hk, e⟩ := List.getElem?_eq_some_iff.1 h
  rw [List.getElem?_append_right (by omega), show a.length + k - a.length = k by omega, List.getElem?_append_left hk]
  exact h
/-- A row of a slice of structs that is read. -/
theorem Rd.row {α : Type} {f : α → List V} {W : Nat} (hf : ∀ x, (f x).length = W) {w : World} {r : List α} {v : Value} (h : Rd w (.st r.length (r.flatMap f)) v) {j : Nat} (hj : j < r.length) :
    ∃ g o c, v = .slice (some ⟨g, o, none⟩) r.length c ∧ g < w.heap.size ∧ ∀ k x, (f r[j])[k]? = some x → ∃ u, w.cell? ⟨g, o + j * W + k, none⟩ = some u ∧ Rd w x u := by
  obtain ⟨A, c, rfl, hc, h⟩ := h.st_out
  rcases h with ⟨h, _⟩ | ⟨g, o, rfl, hg, h⟩
  · omega
  · refine ⟨g, o, c, rfl, hg, fun k x hx => ?_⟩
    rw [flat_split f r j hj] at h
    have := h.get? _ x (mid_get hx)
    rwa [take_len hf r j (by omega), ← Nat.add_assoc] at this
/-- A row of a marked slice. -/
theorem Rd.rowmk {α : Type} {f : α → List V} {W : Nat} (hf : ∀ x, (f x).length = W) {w : World} {r : List α} {v : Value} {k0 : Nat} (h : Rd w (mkc k0 (.st r.length (r.flatMap f))) v) {j : Nat} (hj : j < r.length) :
    ∃ g o c, v = .slice (some ⟨g, o, none⟩) r.length c ∧ g < w.heap.size ∧ ∀ k x, (mkc.mkL (k0 + cc.ccL ((r.take j).flatMap f)) (f r[j]))[k]? = some x → ∃ u, w.cell? ⟨g, o + j * W + k, none⟩ = some u ∧ Rd w x u := by
  simp only [mkc] at h
  obtain ⟨A, c, rfl, hc, h⟩ := h.st_out
  rcases h with ⟨h, _⟩ | ⟨g, o, rfl, hg, h⟩
  · omega
  · refine ⟨g, o, c, rfl, hg, fun k x hx => ?_⟩
    rw [flat_split f r j hj, mkL_append, mkL_append] at h
    have := h.get? _ x (mid_get hx)
    rwa [mkL_len, take_len hf r j (by omega), ← Nat.add_assoc] at this
theorem Rd.st_len {w : World} {n : Nat} {xs : List V} {v : Value} (h : Rd w (.st n xs) v) : (n : Int) ≤ 9223372036854775807 := by obtain ⟨_, _, _, hc, _⟩ := h.st_out; exact hc.len
theorem Rd.int_out {w : World} {n : Int} {u : Value} (h : Rd w (.int n) u) : u = .int .i64 n := by unfold Rd at h; exact h
theorem Rd.bool_out {w : World} {b : Bool} {u : Value} (h : Rd w (.bool b) u) : u = .bool b := by unfold Rd at h; exact h
/-- The count ahead of row j. -/
def kRow {α : Type} (k : Nat) (f : α → List V) (r : List α) (j : Nat) : Nat := k + cc.ccL ((r.take j).flatMap f)
theorem kRow_zero {α : Type} (k : Nat) (f : α → List V) (r : List α) : kRow k f r 0 = k := by simp [kRow, cc.ccL]
theorem kRow_succ {α : Type} (k : Nat) (f : α → List V) (r : List α) (j : Nat) (hj : j < r.length) : kRow k f r (j + 1) = kRow k f r j + cc.ccL (f r[j]) := by
  rw [kRow, kRow, flat_take f r j hj, ccL_append]; omega
theorem kRow_all {α : Type} (k : Nat) (f : α → List V) (r : List α) : kRow k f r r.length = k + cc (.st r.length (r.flatMap f)) := by rw [kRow, List.take_length, cc]
theorem kRow_le {α : Type} (k : Nat) (f : α → List V) (r : List α) (j : Nat) : kRow k f r j ≤ k + cc (.st r.length (r.flatMap f)) := by
  have e : r.flatMap f = (r.take j).flatMap f ++ (r.drop j).flatMap f := by rw [← List.flatMap_append, List.take_append_drop]
  rw [kRow, cc, e, ccL_append]; omega
/-- A cell of one number marked, its place by name. -/
theorem MkSt.num {w0 w : World} {S : Fp} {g o k : Nat} {pre post : List V} {n : Int} (h : MkSt w0 S g o k pre (.int n :: post) w) (q : Nat) (hq : q = o + pre.length) (z : Int) (hz : z = ((k + cc.ccL pre : Nat) : Int)) :
    (∃ u, w.cell? ⟨g, q, none⟩ = some u) ∧ w.frozen? ⟨g, q, none⟩ = false ∧ MkSt w0 S g o k (pre ++ [.int n]) post (w.setCell ⟨g, q, none⟩ (.int .i64 z)) := by
  subst hq hz
  exact h.cell (fun W => by simp only [mkc]; unfold Ow; rfl)
theorem dec3 (z : Int) : decide (z % 3 = 0) = (z % 3 == 0) := by rw [Bool.eq_iff_iff]; simp
theorem bne3 (z : Int) : ((z % 3 == 0) != (z % 3 == 0)) = false := by simp
theorem MkSt.boo {w0 w : World} {S : Fp} {g o k : Nat} {pre post : List V} {n : Bool} (h : MkSt w0 S g o k pre (.bool n :: post) w) (q : Nat) (hq : q = o + pre.length) (z : Int) (hz : z = ((k + cc.ccL pre : Nat) : Int)) :
    (∃ u, w.cell? ⟨g, q, none⟩ = some u) ∧ w.frozen? ⟨g, q, none⟩ = false ∧ MkSt w0 S g o k (pre ++ [.bool n]) post (w.setCell ⟨g, q, none⟩ (.bool (z % 3 == 0))) := by
  subst hq hz
  rw [← dec3]
  exact h.cell (fun W => by simp only [mkc]; unfold Ow; rfl)
theorem MkSt.at_ {w0 w : World} {S : Fp} {g o k : Nat} {pre post : List V} {x : V} (h : MkSt w0 S g o k pre (x :: post) w) (q : Nat) (hq : q = o + pre.length) (y : Nat) (hy : y = k + cc.ccL pre) :
    ∃ u S1, w.cell? ⟨g, q, none⟩ = some u ∧ Ow w x S1 u ∧ ∀ w1, Chg S1 w w1 → Ow w1 (mkc y x) S1 u → MkSt w0 S g o k (pre ++ [x]) post w1 := by
  subst hq hy
  exact h.call
theorem MkSt.start {w : World} {S : Fp} {g o k : Nat} {xs : List V} (h : OwL w xs S g o) (hg : g < w.heap.size) : MkSt w S g o k [] xs w :=
  ⟨Chg.refl _ _, hg, fun _ _ => False, S, fun _ _ x => x.elim, fun _ _ x => x.elim, Sub.refl _, by simp only [mkc.mkL]; unfold OwL; trivial, by simpa using h⟩
theorem MkSt.done {w0 w : World} {S : Fp} {g o k n c : Nat} {xs : List V} (h : MkSt w0 S g o k xs [] w) (hc : Caps n c) : Chg S w0 w ∧ Ow w (mkc k (.st n xs)) S (.slice (some ⟨g, o, none⟩) n c) := by
  obtain ⟨P, R, _, h2, _, h4, _⟩ := h.own
  refine ⟨h.chg, ?_⟩
  simp only [mkc]
  unfold Ow
  exact ⟨_, c, rfl, hc, .inr ⟨g, o, rfl, h.lt, OwL.sub _ h2 h4⟩⟩

/-! A slice of structs while it is filled. -/
def putL (w : World) (g i : Nat) : List Value → World
  | [] => w
  | v :: vs => putL (w.setCell ⟨g, i, none⟩ v) g (i + 1) vs
theorem putL_size (w : World) (g i : Nat) (vs : List Value) : (putL w g i vs).heap.size = w.heap.size := by
  induction vs generalizing w i with
  | nil => rfl
  | cons v vs ih => rw [putL, ih]; simp [World.setCell]
theorem putL_chg (w : World) (g i : Nat) (vs : List Value) : Chg (fun a b => a = g ∧ i ≤ b ∧ b < i + vs.length) w (putL w g i vs) := by
  induction vs generalizing w i with
  | nil => exact Chg.refl _ _
  | cons v vs ih =>
    rw [putL]
    exact ((Chg.set w g i v).sub (fun a b h => ⟨h.1, by have := h.2; omega, by have := h.2; simp; omega⟩)).trans ((ih _ (i + 1)).sub (fun a b h => ⟨h.1, by omega, by have := h.2.2; simp; omega⟩))
def FS (B C g n : Nat) : Fp := fun a b => B ≤ a ∧ a < C ∧ (a = g → b < n)
structure FillL (w0 : World) (g T : Nat) (pre : List V) (W : World) : Prop where
  old : Below w0.heap.size w0 W
  hg : w0.heap.size ≤ g
  lt : g < W.heap.size
  room : ∀ x, x < T → ∃ v, W.cell? ⟨g, x, none⟩ = some v
  fz : ∀ t, W.frozen? ⟨g, t, none⟩ = false
  own : ∃ P, Sub P (FS w0.heap.size W.heap.size g pre.length) ∧ OwL W pre P g 0
theorem fill_put {B C g : Nat} : ∀ {xs : List V} {vs : List Value} {W : World} {pre : List V} {P S : Fp}, g < W.heap.size → W.heap.size = C → B ≤ g → Sub P (FS B C g pre.length) → OwL W pre P g 0 → OwA W xs S vs → Apart P S → (∀ a b, S a b → B ≤ a ∧ a < C ∧ a ≠ g) →
    (∀ x, x < pre.length + xs.length → ∃ v, W.cell? ⟨g, x, none⟩ = some v) → (∀ t, W.frozen? ⟨g, t, none⟩ = false) → ∃ P', Sub P' (FS B C g (pre ++ xs).length) ∧ OwL (putL W g pre.length vs) (pre ++ xs) P' g 0
  | [], [], W, pre, P, S, _, _, _, h1, h2, _, _, _, _, _ => ⟨P, by simpa using h1, by simpa [putL] using h2⟩
  | x :: xs, v :: vs, W, pre, P, S, hg, hC, hB, h1, h2, h3, h4, h5, h6, h7 => by
    unfold OwA at h3
    obtain ⟨S1, S2, q1, q2, q3, q4, q5⟩ := h3
    obtain ⟨u, hu⟩ := h6 pre.length (by simp)
    have hs := Chg.set W g pre.length v
    have aP : Apart P (One g pre.length) := fun a b y z => by obtain ⟨rfl, rfl⟩ := z; have := (h1 _ _ y).2.2 rfl; omega
    have a1 : Apart S1 (One g pre.length) := fun a b y z => by obtain ⟨rfl, rfl⟩ := z; exact (h5 _ _ (q3 _ _ y)).2.2 rfl
    have a2 : Apart S2 (One g pre.length) := fun a b y z => by obtain ⟨rfl, rfl⟩ := z; exact (h5 _ _ (q4 _ _ y)).2.2 rfl
    have k1 := OwL.kept pre (hs.kept aP) hg h2
    have e0 : 0 + pre.length = pre.length := by omega
    have := OwL.snoc (x := x) (u := v) (S1 := S1) k1 (by rw [e0]; exact World.cell?_setCell_same _ _ _ hu) (by rw [e0, World.frozen?_setCell]; exact h7 _) (Ow.kept x (hs.kept a1) q1) (h4.sub (Sub.refl _) q3) (by rw [e0]; exact aP) (by rw [e0]; exact a1)
    rw [e0] at this
    have hpl : (pre ++ [x]).length = pre.length + 1 := by simp
    obtain ⟨P', r1, r2⟩ := fill_put (xs := xs) (vs := vs) (W := W.setCell ⟨g, pre.length, none⟩ v) (pre := pre ++ [x]) (P := Cup P (Cup S1 (One g pre.length))) (S := S2) (by simpa [World.setCell] using hg) (by simpa [World.setCell] using hC) hB
      (fun a b y => by
        rw [hpl]
        rcases y with y | y | y
        · have := h1 a b y; exact ⟨this.1, this.2.1, fun e => by have := this.2.2 e; omega⟩
        · have := h5 a b (q3 a b y); exact ⟨this.1, this.2.1, fun e => absurd e this.2.2⟩
        · obtain ⟨rfl, rfl⟩ := y; exact ⟨hB, by omega, fun _ => by omega⟩)
      this (OwA.kept (hs.kept a2) q2)
      (fun a b y z => by
        rcases y with y | y | y
        · exact h4 a b y (q4 a b z)
        · exact q5 a b y z
        · exact a2 a b z y)
      (fun a b y => h5 a b (q4 a b y))
      (fun y hy => by
        obtain ⟨t, ht⟩ := h6 y (by rw [hpl] at hy; simp; omega)
        by_cases e : y = pre.length
        · subst e; exact ⟨v, World.cell?_setCell_same _ _ _ hu⟩
        · exact ⟨t, (World.cell?_setCell_other _ _ _ _ (fun e2 => by injection e2 with _ e3; exact e e3.symm)).trans ht⟩)
      (fun t => by rw [World.frozen?_setCell]; exact h7 t)
    rw [hpl] at r2
    rw [List.append_assoc] at r1 r2
    exact ⟨P', r1, by rw [putL]; exact r2⟩
  | [], _ :: _, _, _, _, _, _, _, _, _, _, h3, _, _, _, _ => by unfold OwA at h3; exact h3.elim
  | _ :: _, [], _, _, _, _, _, _, _, _, _, h3, _, _, _, _ => by unfold OwA at h3; exact h3.elim
theorem FillL.step {w0 W W1 : World} {g T : Nat} {pre xs : List V} {vs : List Value} (h : FillL w0 g T pre W) (hb : Below W.heap.size W W1) (ho : OwN W.heap.size W1.heap.size W1 xs vs) (hT : pre.length + xs.length ≤ T) (hl : xs.length = vs.length) (q : Nat) (hq : q = pre.length) :
    FillL w0 g T (pre ++ xs) (putL W1 g q vs) := by
  subst hq
  obtain ⟨P, h1, h2⟩ := h.own
  have hlt1 : g < W1.heap.size := Nat.lt_of_lt_of_le h.lt hb.size
  have hc := putL_chg W1 g pre.length vs
  have hroom : ∀ x, x < T → ∃ v, W1.cell? ⟨g, x, none⟩ = some v := fun x hx => by
    obtain ⟨v, hv⟩ := h.room x hx
    exact ⟨v, (hb.cell (p := ⟨g, x, none⟩) h.lt).trans hv⟩
  have hfz : ∀ t, W1.frozen? ⟨g, t, none⟩ = false := fun t => (hb.frozen (p := ⟨g, t, none⟩) h.lt).trans (h.fz t)
  have hz := putL_size W1 g pre.length vs
  refine ⟨(btr h.old hb).trans ((hc.below (B := g) (C := g + 1) (fun a b y => by have := y.1; omega) (by omega)).mono h.hg), h.hg, by rw [hz]; exact hlt1, ?_, fun t => by rw [hc.frozen ⟨g, t, none⟩ hlt1]; exact hfz t, ?_⟩
  · -- cells stay cells
    intro x hx
    have key : ∀ (ws : List Value) (U : World) (i : Nat), (∀ x, x < T → ∃ v, U.cell? ⟨g, x, none⟩ = some v) → ∀ x, x < T → ∃ v, (putL U g i ws).cell? ⟨g, x, none⟩ = some v := by
      intro ws
      induction ws with
      | nil => intro U i h x hx; exact h x hx
      | cons a rest ih =>
        intro U i h x hx
        rw [putL]
        refine ih _ _ (fun y hy => ?_) x hx
        obtain ⟨t, ht⟩ := h y hy
        by_cases e : y = i
        · subst e; exact ⟨a, World.cell?_setCell_same _ _ _ ht⟩
        · exact ⟨t, (World.cell?_setCell_other _ _ _ _ (fun e2 => by injection e2 with _ e3; exact e e3.symm)).trans ht⟩
    exact key vs W1 pre.length hroom x hx
  · rw [hz]
    exact fill_put (B := w0.heap.size) (C := W1.heap.size) (S := Wn W.heap.size W1.heap.size) hlt1 rfl h.hg (fun a b y => by have := h1 a b y; exact ⟨this.1, Nat.lt_of_lt_of_le this.2.1 hb.size, this.2.2⟩) (OwL.kept pre (Kept.of_below hb) h.lt h2) ho.2
      (fun a b y z => by have := (h1 a b y).2.1; have := z.1; omega) (fun a b y => ⟨Nat.le_trans h.old.size y.1, y.2, by have := y.1; have := h.lt; omega⟩) (fun x hx => hroom x (by omega)) hfz
theorem FillL.done {w0 W : World} {g T n : Nat} {xs : List V} (h : FillL w0 g T xs W) (hc : Caps n n) : OwV w0.heap.size W.heap.size W (.st n xs) (.slice (some ⟨g, 0, none⟩) n n) := by
  obtain ⟨P, h1, h2⟩ := h.own
  refine ⟨Nat.le_refl _, ?_⟩
  unfold Ow
  exact ⟨_, n, rfl, hc, .inr ⟨g, 0, rfl, h.lt, OwL.sub xs (fun a b y => ⟨(h1 a b y).1, (h1 a b y).2.1⟩) h2⟩⟩
theorem fillL0 {w w1 : World} {B g n W : Nat} {t : TypeId} {xs : List Value} (h : w1.ownsRow B t W (.slice (some ⟨g, 0, none⟩) n n) n xs) (hb : Below w.heap.size w w1) (hg : w.heap.size ≤ g) : FillL w g (n * W) [] w1 := by
  rcases h.2 with ⟨h', _⟩ | ⟨g', cap', cur, h', hb', hblk, hnc, hcm, hcs, htake⟩
  · simp at h'
  · simp only [Value.slice.injEq, Option.some.injEq, Addr.mk.injEq, and_true, true_and] at h'
    obtain ⟨rfl, rfl⟩ := h'
    have K : Blk w1 g t cur := hblk
    refine ⟨hb, hg, K.lt, fun x hx => ⟨cur[x]'(by omega), ?_⟩, fun t => K.frozen t, fun _ _ => False, fun _ _ y => y.elim, by unfold OwL; trivial⟩
    rw [K.cell, Array.getElem?_eq_getElem]
theorem totL_append (a b : List V) : tot.totL (a ++ b) = tot.totL a + tot.totL b := by
  induction a with
  | nil => simp [tot.totL]
  | cons x xs ih => simp [tot.totL, ih]; omega
def tRow {α : Type} (f : α → List V) (r : List α) (j : Nat) : Nat := tot.totL ((r.take j).flatMap f)
theorem tRow_zero {α : Type} (f : α → List V) (r : List α) : tRow f r 0 = 0 := by simp [tRow, tot.totL]
theorem tRow_succ {α : Type} (f : α → List V) (r : List α) (j : Nat) (hj : j < r.length) : tRow f r (j + 1) = tRow f r j + tot.totL (f r[j]) := by rw [tRow, tRow, flat_take f r j hj, totL_append]
theorem tRow_all {α : Type} (f : α → List V) (r : List α) : r.length + tRow f r r.length = tot (.st r.length (r.flatMap f)) := by rw [tRow, List.take_length, tot]
theorem row_tot {α : Type} (f : α → List V) (r : List α) (j : Nat) (hj : j < r.length) : tot.totL (f r[j]) ≤ tot (.st r.length (r.flatMap f)) := by
  rw [tot, flat_split f r j hj, totL_append, totL_append]; omega
end Go.Proofs.Ythljdikcpdokdaa
