/- Trees: the leaves' contracts (slices of bytes, of int64s), the steps of a mark over a struct's fields and over a slice's cells, windows, results. -/
import Derived.Test.YthljdikcpdokdaaUni
import Derived.Test.YthljdikcpdokdaaLawKit0
namespace Go.Proofs.Ythljdikcpdokdaa
open Go.RowKit Go.Deep

/-! Windows. -/
def Wn (B C : Nat) : Fp := fun g _ => B ≤ g ∧ g < C
theorem Wn.sub {B C B' C' : Nat} (h : B' ≤ B) (k : C ≤ C') : Sub (Wn B C) (Wn B' C') := fun _ _ x => ⟨Nat.le_trans h x.1, Nat.lt_of_lt_of_le x.2 k⟩
theorem Wn.apart {B C B' C' : Nat} (h : C ≤ B') : Apart (Wn B C) (Wn B' C') := fun _ _ x y => by have := x.2; have := y.1; omega
/-- A field owned by the window B to C; the fields of a struct. -/
def OwV (B C : Nat) (w : World) (x : V) (v : Value) : Prop := C ≤ w.heap.size ∧ Ow w x (Wn B C) v
def OwN (B C : Nat) (w : World) (xs : List V) (vs : List Value) : Prop := C ≤ w.heap.size ∧ OwA w xs (Wn B C) vs
theorem OwV.rd {B C : Nat} {w : World} {x : V} {v : Value} (h : OwV B C w x v) : Rd w x v := Ow.rd x h.2
theorem OwN.rd {B C : Nat} {w : World} {xs : List V} {vs : List Value} (h : OwN B C w xs vs) : RdA w xs vs := OwA.rd h.2
theorem OwV.below {B C : Nat} {w w' : World} {x : V} {v : Value} (h : OwV B C w x v) (hb : Below w.heap.size w w') : OwV B C w' x v := ⟨Nat.le_trans h.1 hb.size, Ow.kept x (Kept.of_below hb) h.2⟩
theorem OwN.below {B C : Nat} {w w' : World} {xs : List V} {vs : List Value} (h : OwN B C w xs vs) (hb : Below w.heap.size w w') : OwN B C w' xs vs := ⟨Nat.le_trans h.1 hb.size, OwA.kept (Kept.of_below hb) h.2⟩
theorem OwV.win {B C B' C' : Nat} {w w' : World} {x : V} {v : Value} (h : OwV B C w x v) (hw : Win B' C' w w') (ho : C ≤ B' ∨ C' ≤ B) : OwV B C w' x v := ⟨Nat.le_trans h.1 hw.size, Ow.kept x (Kept.of_win hw (fun g _ y => by have := y.1; have := y.2; omega)) h.2⟩
theorem OwN.win {B C B' C' : Nat} {w w' : World} {xs : List V} {vs : List Value} (h : OwN B C w xs vs) (hw : Win B' C' w w') (ho : C ≤ B' ∨ C' ≤ B) : OwN B C w' xs vs := ⟨Nat.le_trans h.1 hw.size, OwA.kept (Kept.of_win hw (fun g _ y => by have := y.1; have := y.2; omega)) h.2⟩
theorem OwV.mono {B C B' C' : Nat} {w : World} {x : V} {v : Value} (h : OwV B C w x v) (hB : B' ≤ B) (hC : C ≤ C') (hw : C' ≤ w.heap.size) : OwV B' C' w x v := ⟨hw, Ow.sub x (Wn.sub hB hC) h.2⟩
theorem OwN.mono {B C B' C' : Nat} {w : World} {xs : List V} {vs : List Value} (h : OwN B C w xs vs) (hB : B' ≤ B) (hC : C ≤ C') (hw : C' ≤ w.heap.size) : OwN B' C' w xs vs := ⟨hw, OwA.sub (Wn.sub hB hC) h.2⟩
theorem OwN.nil {B C : Nat} {w : World} (h : C ≤ w.heap.size) : OwN B C w [] [] := ⟨h, by unfold OwA; trivial⟩
theorem OwN.int {B C : Nat} {w : World} {xs : List V} {vs : List Value} (n : Int) (h : OwN B C w xs vs) : OwN B C w (.int n :: xs) (.int .i64 n :: vs) :=
  ⟨h.1, by unfold OwA; exact ⟨fun _ _ => False, _, by unfold Ow; rfl, h.2, fun _ _ x => x.elim, Sub.refl _, fun _ _ x => x.elim⟩⟩
theorem OwN.bool {B C : Nat} {w : World} {xs : List V} {vs : List Value} (b : Bool) (h : OwN B C w xs vs) : OwN B C w (.bool b :: xs) (.bool b :: vs) :=
  ⟨h.1, by unfold OwA; exact ⟨fun _ _ => False, _, by unfold Ow; rfl, h.2, fun _ _ x => x.elim, Sub.refl _, fun _ _ x => x.elim⟩⟩
theorem OwN.empty {B C : Nat} (w : World) (h : C ≤ w.heap.size) : OwN B C w [.bs []] [.slice none 0 0] :=
  ⟨h, by unfold OwA; exact ⟨fun _ _ => False, Wn B C, by unfold Ow; exact ⟨none, 0, rfl, ⟨Nat.le_refl _, by simp⟩, .inl rfl⟩, by unfold OwA; trivial, fun _ _ x => x.elim, Sub.refl _, fun _ _ x => x.elim⟩⟩
/-- A field in the lower window, the rest in the upper one; the other way round. -/
theorem OwN.cons {B C D : Nat} {w : World} {x : V} {v : Value} {xs : List V} {vs : List Value} (h : OwV B C w x v) (k : OwN C D w xs vs) (hBC : B ≤ C) (hCD : C ≤ D) : OwN B D w (x :: xs) (v :: vs) :=
  ⟨k.1, by unfold OwA; exact ⟨_, _, h.2, k.2, Wn.sub (Nat.le_refl _) hCD, Wn.sub hBC (Nat.le_refl _), Wn.apart (Nat.le_refl _)⟩⟩
theorem OwN.cons' {B C D : Nat} {w : World} {x : V} {v : Value} {xs : List V} {vs : List Value} (h : OwV C D w x v) (k : OwN B C w xs vs) (hBC : B ≤ C) (hCD : C ≤ D) : OwN B D w (x :: xs) (v :: vs) :=
  ⟨h.1, by unfold OwA; exact ⟨_, _, h.2, k.2, Wn.sub hBC (Nat.le_refl _), Wn.sub (Nat.le_refl _) hCD, (Wn.apart (Nat.le_refl _)).symm⟩⟩
/-- What a call leaves that answers a struct; a slice. -/
def Res (w : World) (xs : List V) (e : Ending) (w' : World) : Prop := ∃ vs : List Value, e = .returned (.agg vs.toArray) ∧ OwN w.heap.size w'.heap.size w' xs vs ∧ Below w.heap.size w w'
def ResV (w : World) (x : V) (e : Ending) (w' : World) : Prop := ∃ v : Value, e = .returned v ∧ OwV w.heap.size w'.heap.size w' x v ∧ Below w.heap.size w w'
theorem Ob.owv {B C : Nat} {w : World} {A : Option Addr} {l : List Int} {c : Nat} (h : Ob B C w A l) (hC : C ≤ w.heap.size) (hc : Caps l.length c) : OwV B C w (.bs l) (.slice A l.length c) := by
  refine ⟨hC, ?_⟩
  unfold Ow
  refine ⟨A, c, rfl, hc, ?_⟩
  rcases h with h | ⟨b, off, h1, h2, h3, h4, h5⟩
  · exact .inl h
  · exact .inr ⟨b, off, h1, by omega, fun j hj => ⟨⟨h2, h3⟩, h5 j hj⟩⟩
theorem Oi.owv {B C : Nat} {w : World} {A : Option Addr} {l : List Int} {c : Nat} (h : Oi B C w A l) (hC : C ≤ w.heap.size) (hc : Caps l.length c) : OwV B C w (.is l) (.slice A l.length c) := by
  refine ⟨hC, ?_⟩
  unfold Ow
  refine ⟨A, c, rfl, hc, ?_⟩
  rcases h with h | ⟨b, off, h1, h2, h3, h4, h5⟩
  · exact .inl h
  · exact .inr ⟨b, off, h1, by omega, fun j hj => ⟨⟨h2, h3⟩, h5 j hj⟩⟩
theorem Rd.bs_mk {w : World} {A : Option Addr} {l : List Int} {c : Nat} (h : Bs w A l) (hc : Caps l.length c) : Rd w (.bs l) (.slice A l.length c) := by unfold Rd; exact ⟨A, c, rfl, hc, h⟩
theorem Rd.is_mk {w : World} {A : Option Addr} {l : List Int} {c : Nat} (h : Is w A l) (hc : Caps l.length c) : Rd w (.is l) (.slice A l.length c) := by unfold Rd; exact ⟨A, c, rfl, hc, h⟩
theorem Rd.bs_out {w : World} {l : List Int} {v : Value} (h : Rd w (.bs l) v) : ∃ A c, v = .slice A l.length c ∧ Caps l.length c ∧ Bs w A l := by unfold Rd at h; exact h
theorem Rd.is_out {w : World} {l : List Int} {v : Value} (h : Rd w (.is l) v) : ∃ A c, v = .slice A l.length c ∧ Caps l.length c ∧ Is w A l := by unfold Rd at h; exact h
theorem Rd.st_out {w : World} {n : Nat} {xs : List V} {v : Value} (h : Rd w (.st n xs) v) : ∃ A c, v = .slice A n c ∧ Caps n c ∧ ((n = 0 ∧ xs = []) ∨ ∃ g o, A = some ⟨g, o, none⟩ ∧ g < w.heap.size ∧ RdL w xs g o) := by unfold Rd at h; exact h
/-- The shape of a struct by value. -/
theorem RdA.int_out {w : World} {n : Int} {xs : List V} {vs : List Value} (h : RdA w (.int n :: xs) vs) : ∃ vs', vs = .int .i64 n :: vs' ∧ RdA w xs vs' := by
  rcases vs with _ | ⟨v, vs⟩
  · unfold RdA at h; exact h.elim
  · unfold RdA Rd at h; exact ⟨vs, by rw [h.1], h.2⟩
theorem RdA.bool_out {w : World} {b : Bool} {xs : List V} {vs : List Value} (h : RdA w (.bool b :: xs) vs) : ∃ vs', vs = .bool b :: vs' ∧ RdA w xs vs' := by
  rcases vs with _ | ⟨v, vs⟩
  · unfold RdA at h; exact h.elim
  · unfold RdA Rd at h; exact ⟨vs, by rw [h.1], h.2⟩
theorem RdA.any_out {w : World} {x : V} {xs : List V} {vs : List Value} (h : RdA w (x :: xs) vs) : ∃ v vs', vs = v :: vs' ∧ Rd w x v ∧ RdA w xs vs' := by
  rcases vs with _ | ⟨v, vs⟩
  · unfold RdA at h; exact h.elim
  · unfold RdA at h; exact ⟨v, vs, rfl, h.1, h.2⟩
theorem RdA.nil_out {w : World} {vs : List Value} (h : RdA w [] vs) : vs = [] := by
  rcases vs with _ | ⟨v, vs⟩
  · rfl
  · unfold RdA at h; exact h.elim
theorem RdA.int_mk {w : World} {n : Int} {xs : List V} {vs : List Value} (h : RdA w xs vs) : RdA w (.int n :: xs) (.int .i64 n :: vs) := by unfold RdA Rd; exact ⟨rfl, h⟩
theorem RdA.bool_mk {w : World} {b : Bool} {xs : List V} {vs : List Value} (h : RdA w xs vs) : RdA w (.bool b :: xs) (.bool b :: vs) := by unfold RdA Rd; exact ⟨rfl, h⟩
theorem RdA.any_mk {w : World} {x : V} {v : Value} {xs : List V} {vs : List Value} (h0 : Rd w x v) (h : RdA w xs vs) : RdA w (x :: xs) (v :: vs) := by unfold RdA; exact ⟨h0, h⟩
theorem RdA.nil_mk {w : World} : RdA w [] [] := by unfold RdA; trivial
/-- A cell of a row. -/
theorem RdL.at {w : World} : ∀ {xs : List V} {g o : Nat}, RdL w xs g o → ∀ (i : Nat) (hi : i < xs.length), ∃ u, w.cell? ⟨g, o + i, none⟩ = some u ∧ Rd w xs[i] u
  | [], _, _, _, i, hi => by simp at hi
  | x :: xs, g, o, h, 0, _ => by unfold RdL at h; simpa using h.1
  | x :: xs, g, o, h, i + 1, hi => by
    unfold RdL at h
    have := RdL.at h.2 i (by simpa using hi)
    simpa [Nat.add_assoc, Nat.add_comm 1 i] using this

/-! How much a size counts. -/
def tot : V → Nat
  | .int _ => 0
  | .bool _ => 0
  | .bs l => l.length
  | .is l => l.length
  | .st n xs => n + totL xs
where totL : List V → Nat
  | [] => 0
  | x :: xs => tot x + totL xs
def SzR' (left : Int) (t : Nat) (z : Int) : Prop := (z = -1 ∨ 0 ≤ z) ∧ z ≤ left ∧ (0 ≤ z → (t : Int) ≤ left - z)
/-- What a mark leaves; what 'held' asks. -/
def MkR (x : V) (S : Fp) (v : Value) (k : Nat) (w : World) (e : Ending) (w' : World) : Prop := e = .returned (.int .i64 ((k + cc x : Nat) : Int)) ∧ Chg S w w' ∧ Ow w' (mkc k x) S v

/-! The steps of a mark over a struct's fields. -/
theorem OwA.step_int {w : World} {n : Int} {xs : List V} {S : Fp} {v : Value} {vs : List Value} (h : OwA w (.int n :: xs) S (v :: vs)) :
    ∃ S2, Sub S2 S ∧ OwA w xs S2 vs ∧ ∀ (w2 : World) (ys : List V), Chg S2 w w2 → OwA w2 ys S2 vs → Chg S w w2 ∧ OwA w2 (.int n :: ys) S (v :: vs) := by
  unfold OwA at h
  obtain ⟨S1, S2, h1, h2, h3, h4, h5⟩ := h
  refine ⟨S2, h4, h2, fun w2 ys hc ho => ⟨hc.sub h4, ?_⟩⟩
  unfold OwA
  refine ⟨S1, S2, ?_, ho, h3, h4, h5⟩
  unfold Ow at h1 ⊢
  exact h1
theorem OwA.step_bool {w : World} {n : Bool} {xs : List V} {S : Fp} {v : Value} {vs : List Value} (h : OwA w (.bool n :: xs) S (v :: vs)) :
    ∃ S2, Sub S2 S ∧ OwA w xs S2 vs ∧ ∀ (w2 : World) (ys : List V), Chg S2 w w2 → OwA w2 ys S2 vs → Chg S w w2 ∧ OwA w2 (.bool n :: ys) S (v :: vs) := by
  unfold OwA at h
  obtain ⟨S1, S2, h1, h2, h3, h4, h5⟩ := h
  refine ⟨S2, h4, h2, fun w2 ys hc ho => ⟨hc.sub h4, ?_⟩⟩
  unfold OwA
  refine ⟨S1, S2, ?_, ho, h3, h4, h5⟩
  unfold Ow at h1 ⊢
  exact h1
theorem OwA.step {w : World} {x y : V} {xs : List V} {S : Fp} {v : Value} {vs : List Value} (h : OwA w (x :: xs) S (v :: vs)) :
    ∃ S1, Sub S1 S ∧ Ow w x S1 v ∧ ∀ (w1 : World), Chg S1 w w1 → Ow w1 y S1 v →
      ∃ S2, Sub S2 S ∧ OwA w1 xs S2 vs ∧ ∀ (w2 : World) (ys : List V), Chg S2 w1 w2 → OwA w2 ys S2 vs → Chg S w w2 ∧ OwA w2 (y :: ys) S (v :: vs) := by
  unfold OwA at h
  obtain ⟨S1, S2, h1, h2, h3, h4, h5⟩ := h
  refine ⟨S1, h3, h1, fun w1 hc ho => ⟨S2, h4, OwA.kept (hc.kept h5.symm) h2, fun w2 ys hc2 ho2 => ⟨(hc.sub h3).trans (hc2.sub h4), ?_⟩⟩⟩
  unfold OwA
  exact ⟨S1, S2, Ow.kept y (hc2.kept h5) ho, ho2, h3, h4, h5⟩
theorem OwA.nil_step {w : World} {S : Fp} (h : OwA w [] S []) : Chg S w w ∧ OwA w [] S [] := ⟨Chg.refl _ _, h⟩

/-! The steps of a mark over a slice's cells: pre is marked, post is not yet. -/
theorem ccL_append (a b : List V) : cc.ccL (a ++ b) = cc.ccL a + cc.ccL b := by
  induction a with
  | nil => simp [cc.ccL]
  | cons x xs ih => simp [cc.ccL, ih]; omega
theorem mkL_append (k : Nat) (a b : List V) : mkc.mkL k (a ++ b) = mkc.mkL k a ++ mkc.mkL (k + cc.ccL a) b := by
  induction a generalizing k with
  | nil => simp [mkc.mkL, cc.ccL]
  | cons x xs ih => simp [mkc.mkL, cc.ccL, ih]; congr 1; omega
theorem mkL_len (k : Nat) (a : List V) : (mkc.mkL k a).length = a.length := by
  induction a generalizing k with
  | nil => simp [mkc.mkL]
  | cons x xs ih => simp [mkc.mkL, ih]
structure MkSt (w0 : World) (S : Fp) (g o k : Nat) (pre post : List V) (w : World) : Prop where
  chg : Chg S w0 w
  lt : g < w.heap.size
  own : ∃ P R : Fp, Apart P R ∧ Sub P S ∧ Sub R S ∧ OwL w (mkc.mkL k pre) P g o ∧ OwL w post R g (o + pre.length)
theorem OwL.snoc {w : World} {x : V} {u : Value} : ∀ {ys : List V} {P S1 : Fp} {g o : Nat}, OwL w ys P g o → w.cell? ⟨g, o + ys.length, none⟩ = some u → w.frozen? ⟨g, o + ys.length, none⟩ = false → Ow w x S1 u → Apart P S1 → Apart P (One g (o + ys.length)) → Apart S1 (One g (o + ys.length)) →
    OwL w (ys ++ [x]) (Cup P (Cup S1 (One g (o + ys.length)))) g o
  | [], P, S1, g, o, _, hc, hf, hx, hp, hq, hr => by
    unfold OwL
    refine ⟨u, S1, fun _ _ => False, by simpa using hc, by simpa using hf, .inr (.inr ⟨rfl, by simp⟩), hx, by unfold OwL; trivial, fun a b h => .inr (.inl h), fun _ _ h => h.elim, fun h => hr g o h ⟨rfl, by simp⟩, fun h => h.elim, fun _ _ _ h => h.elim⟩
  | y :: ys, P, S1, g, o, h, hc, hf, hx, hp, hq, hr => by
    unfold OwL at h
    obtain ⟨v, T1, T2, h1, h2, h3, h4, h5, h6, h7, h8, h9, h10⟩ := h
    have e : o + (y :: ys).length = o + 1 + ys.length := by simp; omega
    rw [e] at hc hf hq hr ⊢
    have ih := OwL.snoc (x := x) (u := u) (S1 := S1) h5 hc hf hx (hp.sub h7 (Sub.refl _)) (hq.sub h7 (Sub.refl _)) hr
    rw [List.cons_append]
    unfold OwL
    refine ⟨v, T1, _, h1, h2, .inl h3, h4, ih, fun a b q => .inl (h6 a b q), fun a b q => ?_, h8, ?_, ?_⟩
    · rcases q with q | q
      · exact .inl (h7 a b q)
      · exact .inr q
    · rintro (q | q | q)
      · exact h9 q
      · exact hp g o h3 q
      · have := q.2; omega
    · intro a b q1 q2
      rcases q2 with q2 | q2 | q2
      · exact h10 a b q1 q2
      · exact hp a b (h6 a b q1) q2
      · exact hq a b (h6 a b q1) q2
/-- A cell of one number, marked. -/
theorem MkSt.cell {w0 w : World} {S : Fp} {g o k : Nat} {pre post : List V} {x : V} (h : MkSt w0 S g o k pre (x :: post) w) {m : Value} (hm : ∀ W, Ow W (mkc (k + cc.ccL pre) x) (fun _ _ => False) m) :
    (∃ u, w.cell? ⟨g, o + pre.length, none⟩ = some u) ∧ w.frozen? ⟨g, o + pre.length, none⟩ = false ∧ MkSt w0 S g o k (pre ++ [x]) post (w.setCell ⟨g, o + pre.length, none⟩ m) := by
  obtain ⟨P, R, h1, h2, h3, h4, h5⟩ := h.own
  unfold OwL at h5
  obtain ⟨u, S1, S2, q1, q2, q3, q4, q5, q6, q7, q8, q9, q10⟩ := h5
  have hs := Chg.set w g (o + pre.length) m
  have hlen : (mkc.mkL k pre).length = pre.length := mkL_len k pre
  have hP1 : Apart P (One g (o + pre.length)) := fun a b x y => h1 a b x (by obtain ⟨rfl, rfl⟩ := y; exact q3)
  refine ⟨⟨u, q1⟩, q2, h.chg.trans (hs.sub (fun a b y => h3 a b (by obtain ⟨rfl, rfl⟩ := y; exact q3))), by simpa [World.setCell] using h.lt, ?_⟩
  refine ⟨Cup P (One g (o + pre.length)), S2, ?_, ?_, q7.trans h3, ?_, ?_⟩
  · intro a b y z
    rcases y with y | y
    · exact h1 a b y (q7 a b z)
    · obtain ⟨rfl, rfl⟩ := y; exact q9 z
  · intro a b y
    rcases y with y | y
    · exact h2 a b y
    · obtain ⟨rfl, rfl⟩ := y; exact h3 _ _ q3
  · rw [mkL_append]
    have k1 : OwL (w.setCell ⟨g, o + pre.length, none⟩ m) (mkc.mkL k pre) P g o := OwL.kept _ (hs.kept hP1) h.lt h4
    have := OwL.snoc (x := mkc (k + cc.ccL pre) x) (u := m) (S1 := fun _ _ => False) k1 (by rw [hlen]; exact World.cell?_setCell_same _ _ _ q1) (by rw [hlen, World.frozen?_setCell]; exact q2) (hm _) (fun _ _ _ y => y.elim) (by rw [hlen]; exact hP1) (fun _ _ y => y.elim)
    rw [hlen] at this
    refine OwL.sub _ ?_ this
    intro a b y
    rcases y with y | y | y
    · exact .inl y
    · exact y.elim
    · exact .inr y
  · have e : o + (pre ++ [x]).length = o + pre.length + 1 := by simp; omega
    rw [e]
    exact OwL.kept _ (hs.kept (fun a b y z => by obtain ⟨rfl, rfl⟩ := z; exact q9 y)) h.lt q5
/-- A cell that holds a slice, marked by a call. -/
theorem MkSt.call {w0 w : World} {S : Fp} {g o k : Nat} {pre post : List V} {x : V} (h : MkSt w0 S g o k pre (x :: post) w) :
    ∃ u S1, w.cell? ⟨g, o + pre.length, none⟩ = some u ∧ Ow w x S1 u ∧ ∀ w1, Chg S1 w w1 → Ow w1 (mkc (k + cc.ccL pre) x) S1 u → MkSt w0 S g o k (pre ++ [x]) post w1 := by
  obtain ⟨P, R, h1, h2, h3, h4, h5⟩ := h.own
  unfold OwL at h5
  obtain ⟨u, S1, S2, q1, q2, q3, q4, q5, q6, q7, q8, q9, q10⟩ := h5
  refine ⟨u, S1, q1, q4, fun w1 hc ho => ?_⟩
  have hlen : (mkc.mkL k pre).length = pre.length := mkL_len k pre
  have hPS : Apart P S1 := h1.sub (Sub.refl _) q6
  have hP1 : Apart P (One g (o + pre.length)) := fun a b x y => h1 a b x (by obtain ⟨rfl, rfl⟩ := y; exact q3)
  refine ⟨h.chg.trans (hc.sub (q6.trans h3)), Nat.lt_of_lt_of_le h.lt hc.size, Cup P (Cup S1 (One g (o + pre.length))), S2, ?_, ?_, q7.trans h3, ?_, ?_⟩
  · intro a b y z
    rcases y with y | y | y
    · exact h1 a b y (q7 a b z)
    · exact q10 a b y z
    · obtain ⟨rfl, rfl⟩ := y; exact q9 z
  · intro a b y
    rcases y with y | y | y
    · exact h2 a b y
    · exact h3 a b (q6 a b y)
    · obtain ⟨rfl, rfl⟩ := y; exact h3 _ _ q3
  · rw [mkL_append]
    have k1 : OwL w1 (mkc.mkL k pre) P g o := OwL.kept _ (hc.kept hPS) h.lt h4
    have := OwL.snoc (x := mkc (k + cc.ccL pre) x) (u := u) (S1 := S1) k1 (by rw [hlen, hc.cell _ _ h.lt q8]; exact q1) (by rw [hlen, hc.frozen ⟨g, _, none⟩ h.lt]; exact q2) ho hPS (by rw [hlen]; exact hP1) (fun a b y z => by obtain ⟨rfl, e⟩ := z; rw [hlen] at e; subst e; exact q8 y)
    rw [hlen] at this
    exact this
  · have e : o + (pre ++ [x]).length = o + pre.length + 1 := by simp; omega
    rw [e]
    exact OwL.kept _ (hc.kept q10.symm) h.lt q5
theorem RdA.hd {w : World} {x : V} {v : Value} {xs : List V} {vs : List Value} (h : RdA w (x :: xs) (v :: vs)) : Rd w x v := by unfold RdA at h; exact h.1
theorem RdA.tl {w : World} {x : V} {v : Value} {xs : List V} {vs : List Value} (h : RdA w (x :: xs) (v :: vs)) : RdA w xs vs := by unfold RdA at h; exact h.2
theorem Rd.bs_sh {w : World} {l : List Int} {v : Value} (h : Rd w (.bs l) v) : ∃ A c, v = .slice A l.length c := by obtain ⟨A, c, h, _⟩ := h.bs_out; exact ⟨A, c, h⟩
theorem Rd.is_sh {w : World} {l : List Int} {v : Value} (h : Rd w (.is l) v) : ∃ A c, v = .slice A l.length c := by obtain ⟨A, c, h, _⟩ := h.is_out; exact ⟨A, c, h⟩
theorem Rd.st_sh {w : World} {n : Nat} {xs : List V} {v : Value} (h : Rd w (.st n xs) v) : ∃ A c, v = .slice A n c := by obtain ⟨A, c, h, _⟩ := h.st_out; exact ⟨A, c, h⟩
/-- A struct within a struct. -/
theorem OwA.app {w : World} : ∀ {xs ys : List V} {S : Fp} {vs us : List Value}, xs.length = vs.length → OwA w (xs ++ ys) S (vs ++ us) → ∃ S1 S2, OwA w xs S1 vs ∧ OwA w ys S2 us ∧ Sub S1 S ∧ Sub S2 S ∧ Apart S1 S2
  | [], ys, S, [], us, _, h => ⟨fun _ _ => False, S, by unfold OwA; trivial, h, fun _ _ x => x.elim, Sub.refl _, fun _ _ x => x.elim⟩
  | x :: xs, ys, S, v :: vs, us, e, h => by
    rw [List.cons_append, List.cons_append] at h
    unfold OwA at h
    obtain ⟨S1, S2, h1, h2, h3, h4, h5⟩ := h
    obtain ⟨T1, T2, k1, k2, k3, k4, k5⟩ := OwA.app (by simpa using e) h2
    refine ⟨Cup S1 T1, T2, ?_, k2, ?_, k4.trans h4, ?_⟩
    · unfold OwA; exact ⟨S1, T1, h1, k1, Sub.cupL _ _, Sub.cupR _ _, h5.sub (Sub.refl _) k3⟩
    · intro a b y; rcases y with y | y
      · exact h3 a b y
      · exact h4 a b (k3 a b y)
    · intro a b y z; rcases y with y | y
      · exact h5 a b y (k4 a b z)
      · exact k5 a b y z
theorem OwA.join {w : World} : ∀ {xs ys : List V} {S S1 S2 : Fp} {vs us : List Value}, OwA w xs S1 vs → OwA w ys S2 us → Sub S1 S → Sub S2 S → Apart S1 S2 → OwA w (xs ++ ys) S (vs ++ us)
  | [], ys, S, S1, S2, [], us, _, h2, _, k2, _ => OwA.sub k2 h2
  | x :: xs, ys, S, S1, S2, v :: vs, us, h, h2, k1, k2, k3 => by
    unfold OwA at h
    obtain ⟨T1, T2, q1, q2, q3, q4, q5⟩ := h
    rw [List.cons_append, List.cons_append]
    unfold OwA
    refine ⟨T1, Cup T2 S2, q1, OwA.join q2 h2 (Sub.cupL _ _) (Sub.cupR _ _) (k3.sub q4 (Sub.refl _)), q3.trans k1, ?_, ?_⟩
    · intro a b y; rcases y with y | y
      · exact k1 a b (q4 a b y)
      · exact k2 a b y
    · intro a b y z; rcases z with z | z
      · exact q5 a b y z
      · exact k3 a b (q3 a b y) z
  | [], _, _, _, _, _ :: _, _, h, _, _, _, _ => by unfold OwA at h; exact h.elim
  | _ :: _, _, _, _, _, [], _, h, _, _, _, _ => by unfold OwA at h; exact h.elim
theorem OwA.step_app {w : World} {xs xs' ys : List V} {S : Fp} {vs us : List Value} (e : xs.length = vs.length) (h : OwA w (xs ++ ys) S (vs ++ us)) :
    ∃ S1, Sub S1 S ∧ OwA w xs S1 vs ∧ ∀ (w1 : World), Chg S1 w w1 → OwA w1 xs' S1 vs →
      ∃ S2, Sub S2 S ∧ OwA w1 ys S2 us ∧ ∀ (w2 : World) (ys' : List V), Chg S2 w1 w2 → OwA w2 ys' S2 us → Chg S w w2 ∧ OwA w2 (xs' ++ ys') S (vs ++ us) := by
  obtain ⟨S1, S2, h1, h2, h3, h4, h5⟩ := OwA.app e h
  refine ⟨S1, h3, h1, fun w1 hc ho => ⟨S2, h4, OwA.kept (hc.kept h5.symm) h2, fun w2 ys' hc2 ho2 => ⟨(hc.sub h3).trans (hc2.sub h4), ?_⟩⟩⟩
  exact OwA.join (OwA.kept (hc2.kept h5) ho) ho2 h3 h4 h5
theorem OwN.app {B C D : Nat} {w : World} {xs ys : List V} {vs us : List Value} (h : OwN B C w xs vs) (k : OwN C D w ys us) (hBC : B ≤ C) (hCD : C ≤ D) : OwN B D w (xs ++ ys) (vs ++ us) :=
  ⟨k.1, OwA.join h.2 k.2 (Wn.sub (Nat.le_refl _) hCD) (Wn.sub hBC (Nat.le_refl _)) (Wn.apart (Nat.le_refl _))⟩
/-- A block with one cell written. -/
theorem Blk.put {w : World} {g : Nat} {t : TypeId} {cs : Array Value} (h : Blk w g t cs) (i : Nat) (u : Value) : Blk (w.setCell ⟨g, i, none⟩ u) g t (cs.setIfInBounds i u) := by
  unfold Blk at h ⊢
  simp [World.setCell, Array.getElem?_modify, h]
theorem Blk.far {w : World} {g : Nat} {t : TypeId} {cs : Array Value} (h : Blk w g t cs) {p : Addr} (hp : p.block ≠ g) (u : Value) : Blk (w.setCell p u) g t cs := (Below.heap_setCell w p u g (fun e => hp e.symm)).trans h
theorem Blk.chg {w w' : World} {g : Nat} {t : TypeId} {cs : Array Value} {S : Fp} (h : Blk w g t cs) (hc : Chg S w w') (hs : Sub S (Wn 0 g)) : Blk w' g t cs := (hc.block g h.lt (fun o x => by have := (hs g o x).2; omega)).trans h
theorem Blk.win2 {B C : Nat} {w w' : World} {g : Nat} {t : TypeId} {cs : Array Value} (h : Blk w g t cs) (hw : Win B C w w') (ho : g < B ∨ C ≤ g) : Blk w' g t cs := (hw.block g h.lt ho).trans h
theorem set_win (w : World) (g i : Nat) (u : Value) : Win g (g + 1) w (w.setCell ⟨g, i, none⟩ u) := (Chg.set w g i u).win (fun a b y => by obtain ⟨rfl, rfl⟩ := y; omega)
theorem vcA_append (a b : List V) : vcA (a ++ b) = vcA a + vcA b := by
  induction a with
  | nil => simp [vcA]
  | cons x xs ih => simp [vcA, ih]; omega
theorem mkA_append (k : Nat) (a b : List V) : mkA k (a ++ b) = mkA k a ++ mkA (k + vcA a) b := by
  induction a generalizing k with
  | nil => simp [mkA, vcA]
  | cons x xs ih => simp [mkA, vcA, ih]; congr 1; omega
end Go.Proofs.Ythljdikcpdokdaa
