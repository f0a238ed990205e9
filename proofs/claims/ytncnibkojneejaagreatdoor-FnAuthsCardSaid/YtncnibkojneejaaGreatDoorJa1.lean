import Derived.Test.YtncnibkojneejaaGreatDoorJa0
import Derived.StillTailTactics

/- Trees: the leaves' contracts (slices of bytes, of int64s), the steps of a mark over a struct's fields and over a slice's cells, windows, results. -/
namespace Go.Proofs.YtncnibkojneejaaGreatDoor
open Go.RowKit Go.Deep

/-! Windows. -/
def Wn (B C : Nat) : Fp := fun g _ => B ≤ g ∧ g < C
theorem Wn.sub {B C B' C' : Nat} (h : B' ≤ B) (k : C ≤ C') : Sub (Wn B C) (Wn B' C') := fun _ _ x => ⟨Nat.le_trans h x.1, Nat.lt_of_lt_of_le x.2 k⟩
theorem Wn.apart {B C B' C' : Nat} (h : C ≤ B') : Apart (Wn B C) (Wn B' C') := fun _ _ x y => by have := x.2; have := y.1; omega
/-- A field owned by the window B to C; the fields of a struct. -/
def OwV (B C : Nat) (w : World) (x : V) (v : Value) : Prop := C ≤ w.heap.size ∧ Ow w x (Wn B C) v
def OwN (B C : Nat) (w : World) (xs : List V) (vs : List Value) : Prop := C ≤ w.heap.size ∧ OwA w xs (Wn B C) vs
theorem OwV.rd {B C : Nat} {w : World} {x : V} {v : Value} (h : OwV B C w x v) : Rd w x v := Ow.rd x h.2
theorem OwN.rd {B C : Nat} {w : World} {xs : List V} {vs : List Value} (h : OwN B C w xs vs) : RdA w xs vs := OwA.rd h.2
theorem OwV.below {B C : Nat} {w w' : World} {x : V} {v : Value} (h : OwV B C w x v) (hb : Below w.heap.size w w') : OwV B C w' x v := ⟨Nat.le_trans h.1 hb.size, Ow.kept x (Kept.of_below hb) h.2⟩
theorem OwN.below {B C : Nat} {w w' : World} {xs : List V} {vs : List Value} (h : OwN B C w xs vs) (hb : Below w.heap.size w w') : OwN B C w' xs vs := ⟨Nat.le_trans h.1 hb.size, OwA.kept (Kept.of_below hb) h.2⟩
theorem OwV.win {B C B' C' : Nat} {w w' : World} {x : V} {v : Value} (h : OwV B C w x v) (hw : Win B' C' w w') (ho : C ≤ B' ∨ C' ≤ B) : OwV B C w' x v := ⟨Nat.le_trans h.1 hw.size, Ow.kept x (Kept.of_win hw (fun g _ y => by have := y.1; have := y.2; omega)) h.2⟩
theorem OwN.win {B C B' C' : Nat} {w w' : World} {xs : List V} {vs : List Value} (h : OwN B C w xs vs) (hw : Win B' C' w w') (ho : C ≤ B' ∨ C' ≤ B) : OwN B C w' xs vs := ⟨Nat.le_trans h.1 hw.size, OwA.kept (Kept.of_win hw (fun g _ y => by have := y.1; have := y.2; omega)) h.2⟩
theorem OwV.mono {B C B' C' : Nat} {w : World} {x : V} {v : Value} (h : OwV B C w x v) (hB : B' ≤ B) (hC : C ≤ C') (hw : C' ≤ w.heap.size) : OwV B' C' w x v := ⟨hw, Ow.sub x (Wn.sub hB hC) h.2⟩
theorem OwN.mono {B C B' C' : Nat} {w : World} {xs : List V} {vs : List Value} (h : OwN B C w xs vs) (hB : B' ≤ B) (hC : C ≤ C') (hw : C' ≤ w.heap.size) : OwN B' C' w xs vs := ⟨hw, OwA.sub (Wn.sub hB hC) h.2⟩
theorem OwN.nil {B C : Nat} {w : World} (h : C ≤ w.heap.size) : OwN B C w [] [] := ⟨h, by unfold OwA; trivial⟩
theorem OwN.int {B C : Nat} {w : World} {xs : List V} {vs : List Value} (n : Int) (h : OwN B C w xs vs) : OwN B C w (.int n :: xs) (.int .i64 n :: vs) :=
  ⟨h.1, by unfold OwA; exact ⟨fun _ _ => False, _, by unfold Ow; rfl, h.2, fun _ _ x => x.elim, Sub.refl _, fun _ _ x => x.elim⟩⟩
theorem OwN.bool {B C : Nat} {w : World} {xs : List V} {vs : List Value} (b : Bool) (h : OwN B C w xs vs) : OwN B C w (.bool b :: xs) (.bool b :: vs) :=
  ⟨h.1, by unfold OwA; exact ⟨fun _ _ => False, _, by unfold Ow; rfl, h.2, fun _ _ x => x.elim, Sub.refl _, fun _ _ x => x.elim⟩⟩
theorem OwN.empty {B C : Nat} (w : World) (h : C ≤ w.heap.size) : OwN B C w [.bs []] [.slice none 0 0] :=
  ⟨h, by unfold OwA; exact ⟨fun _ _ => False, Wn B C, by unfold Ow; exact ⟨none, 0, rfl, ⟨Nat.le_refl _, by simp⟩, .inl rfl⟩, by unfold OwA; trivial, fun _ _ x => x.elim, Sub.refl _, fun _ _ x => x.elim⟩⟩
/-- A field in the lower window, the rest in the upper one; the other way round. -/
theorem OwN.cons {B C D : Nat} {w : World} {x : V} {v : Value} {xs : List V} {vs : List Value} (h : OwV B C w x v) (k : OwN C D w xs vs) (hBC : B ≤ C) (hCD : C ≤ D) : OwN B D w (x :: xs) (v :: vs) :=
  ⟨k.1, by unfold OwA; exact ⟨_, _, h.2, k.2, Wn.sub (Nat.le_refl _) hCD, Wn.sub hBC (Nat.le_refl _), Wn.apart (Nat.le_refl _)⟩⟩
theorem OwN.cons' {B C D : Nat} {w : World} {x : V} {v : Value} {xs : List V} {vs : List Value} (h : OwV C D w x v) (k : OwN B C w xs vs) (hBC : B ≤ C) (hCD : C ≤ D) : OwN B D w (x :: xs) (v :: vs) :=
  ⟨h.1, by unfold OwA; exact ⟨_, _, h.2, k.2, Wn.sub hBC (Nat.le_refl _), Wn.sub (Nat.le_refl _) hCD, (Wn.apart (Nat.le_refl _)).symm⟩⟩
/-- What a call leaves that answers a struct; a slice. -/
def Res (w : World) (xs : List V) (e : Ending) (w' : World) : Prop := ∃ vs : List Value, e = .returned (.agg vs.toArray) ∧ OwN w.heap.size w'.heap.size w' xs vs ∧ Below w.heap.size w w'
def ResV (w : World) (x : V) (e : Ending) (w' : World) : Prop := ∃ v : Value, e = .returned v ∧ OwV w.heap.size w'.heap.size w' x v ∧ Below w.heap.size w w'
theorem Ob.owv {B C : Nat} {w : World} {A : Option Addr} {l : List Int} {c : Nat} (h : Ob B C w A l) (hC : C ≤ w.heap.size) (hc : Caps l.length c) : OwV B C w (.bs l) (.slice A l.length c) := by
  refine ⟨hC, ?_⟩
  unfold Ow
  refine ⟨A, c, rfl, hc, ?_⟩
  rcases h with h | ⟨b, off, h1, h2, h3, h4, h5⟩
  · exact .inl h
  · exact .inr ⟨b, off, h1, by omega, fun j hj => ⟨⟨h2, h3⟩, h5 j hj⟩⟩
theorem Oi.owv {B C : Nat} {w : World} {A : Option Addr} {l : List Int} {c : Nat} (h : Oi B C w A l) (hC : C ≤ w.heap.size) (hc : Caps l.length c) : OwV B C w (.is l) (.slice A l.length c) := by
  refine ⟨hC, ?_⟩
  unfold Ow
  refine ⟨A, c, rfl, hc, ?_⟩
  rcases h with h | ⟨b, off, h1, h2, h3, h4, h5⟩
  · exact .inl h
  · exact .inr ⟨b, off, h1, by omega, fun j hj => ⟨⟨h2, h3⟩, h5 j hj⟩⟩
theorem Rd.bs_mk {w : World} {A : Option Addr} {l : List Int} {c : Nat} (h : Bs w A l) (hc : Caps l.length c) : Rd w (.bs l) (.slice A l.length c) := by unfold Rd; exact ⟨A, c, rfl, hc, h⟩
theorem Rd.is_mk {w : World} {A : Option Addr} {l : List Int} {c : Nat} (h : Is w A l) (hc : Caps l.length c) : Rd w (.is l) (.slice A l.length c) := by unfold Rd; exact ⟨A, c, rfl, hc, h⟩
theorem Rd.bs_out {w : World} {l : List Int} {v : Value} (h : Rd w (.bs l) v) : ∃ A c, v = .slice A l.length c ∧ Caps l.length c ∧ Bs w A l := by unfold Rd at h; exact h
theorem Rd.is_out {w : World} {l : List Int} {v : Value} (h : Rd w (.is l) v) : ∃ A c, v = .slice A l.length c ∧ Caps l.length c ∧ Is w A l := by unfold Rd at h; exact h
theorem Rd.st_out {w : World} {n : Nat} {xs : List V} {v : Value} (h : Rd w (.st n xs) v) : ∃ A c, v = .slice A n c ∧ Caps n c ∧ ((n = 0 ∧ xs = []) ∨ ∃ g o, A = some ⟨g, o, none⟩ ∧ g < w.heap.size ∧ RdL w xs g o) := by unfold Rd at h; exact h
/-- The shape of a struct by value. -/
theorem RdA.int_out {w : World} {n : Int} {xs : List V} {vs : List Value} (h : RdA w (.int n :: xs) vs) : ∃ vs', vs = .int .i64 n :: vs' ∧ RdA w xs vs' := by
  rcases vs with _ | ⟨v, vs⟩
  · unfold RdA at h; exact h.elim
  · unfold RdA Rd at h; exact ⟨vs, by rw [h.1], h.2⟩
theorem RdA.bool_out {w : World} {b : Bool} {xs : List V} {vs : List Value} (h : RdA w (.bool b :: xs) vs) : ∃ vs', vs = .bool b :: vs' ∧ RdA w xs vs' := by
  rcases vs with _ | ⟨v, vs⟩
  · unfold RdA at h; exact h.elim
  · unfold RdA Rd at h; exact ⟨vs, by rw [h.1], h.2⟩
theorem RdA.any_out {w : World} {x : V} {xs : List V} {vs : List Value} (h : RdA w (x :: xs) vs) : ∃ v vs', vs = v :: vs' ∧ Rd w x v ∧ RdA w xs vs' := by
  rcases vs with _ | ⟨v, vs⟩
  · unfold RdA at h; exact h.elim
  · unfold RdA at h; exact ⟨v, vs, rfl, h.1, h.2⟩
theorem RdA.nil_out {w : World} {vs : List Value} (h : RdA w [] vs) : vs = [] := by
  rcases vs with _ | ⟨v, vs⟩
  · rfl
  · unfold RdA at h; exact h.elim
theorem RdA.int_mk {w : World} {n : Int} {xs : List V} {vs : List Value} (h : RdA w xs vs) : RdA w (.int n :: xs) (.int .i64 n :: vs) := by unfold RdA Rd; exact ⟨rfl, h⟩
theorem RdA.bool_mk {w : World} {b : Bool} {xs : List V} {vs : List Value} (h : RdA w xs vs) : RdA w (.bool b :: xs) (.bool b :: vs) := by unfold RdA Rd; exact ⟨rfl, h⟩
theorem RdA.any_mk {w : World} {x : V} {v : Value} {xs : List V} {vs : List Value} (h0 : Rd w x v) (h : RdA w xs vs) : RdA w (x :: xs) (v :: vs) := by unfold RdA; exact ⟨h0, h⟩
theorem RdA.nil_mk {w : World} : RdA w [] [] := by unfold RdA; trivial
/-- A cell of a row. -/
theorem RdL.at {w : World} : ∀ {xs : List V} {g o : Nat}, RdL w xs g o → ∀ (i : Nat) (hi : i < xs.length), ∃ u, w.cell? ⟨g, o + i, none⟩ = some u ∧ Rd w xs[i] u
  | [], _, _, _, i, hi => by simp at hi
  | x :: xs, g, o, h, 0, _ => by unfold RdL at h; simpa using h.1
  | x :: xs, g, o, h, i + 1, hi => by
    unfold RdL at h
    have := RdL.at h.2 i (by simpa using hi)
    simpa [Nat.add_assoc, Nat.add_comm 1 i] using this

/-! How much a size counts. -/
def tot : V → Nat
  | .int _ => 0
  | .bool _ => 0
  | .bs l => l.length
  | .is l => l.length
  | .st n xs => n + totL xs
where totL : List V → Nat
  | [] => 0
  | x :: xs => tot x + totL xs
def SzR' (left : Int) (t : Nat) (z : Int) : Prop := (z = -1 ∨ 0 ≤ z) ∧ z ≤ left ∧ (0 ≤ z → (t : Int) ≤ left - z)
/-- What a mark leaves; what 'held' asks. -/
def MkR (x : V) (S : Fp) (v : Value) (k : Nat) (w : World) (e : Ending) (w' : World) : Prop := e = .returned (.int .i64 ((k + cc x : Nat) : Int)) ∧ Chg S w w' ∧ Ow w' (mkc k x) S v

/-! The steps of a mark over a struct's fields. -/
theorem OwA.step_int {w : World} {n : Int} {xs : List V} {S : Fp} {v : Value} {vs : List Value} (h : OwA w (.int n :: xs) S (v :: vs)) :
    ∃ S2, Sub S2 S ∧ OwA w xs S2 vs ∧ ∀ (w2 : World) (ys : List V), Chg S2 w w2 → OwA w2 ys S2 vs → Chg S w w2 ∧ OwA w2 (.int n :: ys) S (v :: vs) := by
  unfold OwA at h
  obtain ⟨S1, S2, h1, h2, h3, h4, h5⟩ := h
  refine ⟨S2, h4, h2, fun w2 ys hc ho => ⟨hc.sub h4, ?_⟩⟩
  unfold OwA
  refine ⟨S1, S2, ?_, ho, h3, h4, h5⟩
  unfold Ow at h1 ⊢
  exact h1
theorem OwA.step_bool {w : World} {n : Bool} {xs : List V} {S : Fp} {v : Value} {vs : List Value} (h : OwA w (.bool n :: xs) S (v :: vs)) :
    ∃ S2, Sub S2 S ∧ OwA w xs S2 vs ∧ ∀ (w2 : World) (ys : List V), Chg S2 w w2 → OwA w2 ys S2 vs → Chg S w w2 ∧ OwA w2 (.bool n :: ys) S (v :: vs) := by
  unfold OwA at h
  obtain ⟨S1, S2, h1, h2, h3, h4, h5⟩ := h
  refine ⟨S2, h4, h2, fun w2 ys hc ho => ⟨hc.sub h4, ?_⟩⟩
  unfold OwA
  refine ⟨S1, S2, ?_, ho, h3, h4, h5⟩
  unfold Ow at h1 ⊢
  exact h1
theorem OwA.step {w : World} {x y : V} {xs : List V} {S : Fp} {v : Value} {vs : List Value} (h : OwA w (x :: xs) S (v :: vs)) :
    ∃ S1, Sub S1 S ∧ Ow w x S1 v ∧ ∀ (w1 : World), Chg S1 w w1 → Ow w1 y S1 v →
      ∃ S2, Sub S2 S ∧ OwA w1 xs S2 vs ∧ ∀ (w2 : World) (ys : List V), Chg S2 w1 w2 → OwA w2 ys S2 vs → Chg S w w2 ∧ OwA w2 (y :: ys) S (v :: vs) := by
  unfold OwA at h
  obtain ⟨S1, S2, h1, h2, h3, h4, h5⟩ := h
  refine ⟨S1, h3, h1, fun w1 hc ho => ⟨S2, h4, OwA.kept (hc.kept h5.symm) h2, fun w2 ys hc2 ho2 => ⟨(hc.sub h3).trans (hc2.sub h4), ?_⟩⟩⟩
  unfold OwA
  exact ⟨S1, S2, Ow.kept y (hc2.kept h5) ho, ho2, h3, h4, h5⟩
theorem OwA.nil_step {w : World} {S : Fp} (h : OwA w [] S []) : Chg S w w ∧ OwA w [] S [] := ⟨Chg.refl _ _, h⟩

/-! The steps of a mark over a slice's cells: pre is marked, post is not yet. -/
theorem ccL_append (a b : List V) : cc.ccL (a ++ b) = cc.ccL a + cc.ccL b := by
  induction a with
  | nil => simp [cc.ccL]
  | cons x xs ih => simp [cc.ccL, ih]; omega
theorem mkL_append (k : Nat) (a b : List V) : mkc.mkL k (a ++ b) = mkc.mkL k a ++ mkc.mkL (k + cc.ccL a) b := by
  induction a generalizing k with
  | nil => simp [mkc.mkL, cc.ccL]
  | cons x xs ih => simp [mkc.mkL, cc.ccL, ih]; congr 1; omega
theorem mkL_len (k : Nat) (a : List V) : (mkc.mkL k a).length = a.length := by
  induction a generalizing k with
  | nil => simp [mkc.mkL]
  | cons x xs ih => simp [mkc.mkL, ih]
structure MkSt (w0 : World) (S : Fp) (g o k : Nat) (pre post : List V) (w : World) : Prop where
  chg : Chg S w0 w
  lt : g < w.heap.size
  own : ∃ P R : Fp, Apart P R ∧ Sub P S ∧ Sub R S ∧ OwL w (mkc.mkL k pre) P g o ∧ OwL w post R g (o + pre.length)
theorem OwL.snoc {w : World} {x : V} {u : Value} : ∀ {ys : List V} {P S1 : Fp} {g o : Nat}, OwL w ys P g o → w.cell? ⟨g, o + ys.length, none⟩ = some u → w.frozen? ⟨g, o + ys.length, none⟩ = false → Ow w x S1 u → Apart P S1 → Apart P (One g (o + ys.length)) → Apart S1 (One g (o + ys.length)) →
    OwL w (ys ++ [x]) (Cup P (Cup S1 (One g (o + ys.length)))) g o
  | [], P, S1, g, o, _, hc, hf, hx, hp, hq, hr => by
    unfold OwL
    refine ⟨u, S1, fun _ _ => False, by simpa using hc, by simpa using hf, .inr (.inr ⟨rfl, by simp⟩), hx, by unfold OwL; trivial, fun a b h => .inr (.inl h), fun _ _ h => h.elim, fun h => hr g o h ⟨rfl, by simp⟩, fun h => h.elim, fun _ _ _ h => h.elim⟩
  | y :: ys, P, S1, g, o, h, hc, hf, hx, hp, hq, hr => by
    unfold OwL at h
    obtain ⟨v, T1, T2, h1, h2, h3, h4, h5, h6, h7, h8, h9, h10⟩ := h
    have e : o + (y :: ys).length = o + 1 + ys.length := by simp; omega
    rw [e] at hc hf hq hr ⊢
    have ih := OwL.snoc (x := x) (u := u) (S1 := S1) h5 hc hf hx (hp.sub h7 (Sub.refl _)) (hq.sub h7 (Sub.refl _)) hr
    rw [List.cons_append]
    unfold OwL
    refine ⟨v, T1, _, h1, h2, .inl h3, h4, ih, fun a b q => .inl (h6 a b q), fun a b q => ?_, h8, ?_, ?_⟩
    · rcases q with q | q
      · exact .inl (h7 a b q)
      · exact .inr q
    · rintro (q | q | q)
      · exact h9 q
      · exact hp g o h3 q
      · have := q.2; omega
    · intro a b q1 q2
      rcases q2 with q2 | q2 | q2
      · exact h10 a b q1 q2
      · exact hp a b (h6 a b q1) q2
      · exact hq a b (h6 a b q1) q2
/-- A cell of one number, marked. -/
theorem MkSt.cell {w0 w : World} {S : Fp} {g o k : Nat} {pre post : List V} {x : V} (h : MkSt w0 S g o k pre (x :: post) w) {m : Value} (hm : ∀ W, Ow W (mkc (k + cc.ccL pre) x) (fun _ _ => False) m) :
    (∃ u, w.cell? ⟨g, o + pre.length, none⟩ = some u) ∧ w.frozen? ⟨g, o + pre.length, none⟩ = false ∧ MkSt w0 S g o k (pre ++ [x]) post (w.setCell ⟨g, o + pre.length, none⟩ m) := by
  obtain ⟨P, R, h1, h2, h3, h4, h5⟩ := h.own
  unfold OwL at h5
  obtain ⟨u, S1, S2, q1, q2, q3, q4, q5, q6, q7, q8, q9, q10⟩ := h5
  have hs := Chg.set w g (o + pre.length) m
  have hlen : (mkc.mkL k pre).length = pre.length := mkL_len k pre
  have hP1 : Apart P (One g (o + pre.length)) := fun a b x y => h1 a b x (by obtain ⟨rfl, rfl⟩ := y; exact q3)
  refine ⟨⟨u, q1⟩, q2, h.chg.trans (hs.sub (fun a b y => h3 a b (by obtain ⟨rfl, rfl⟩ := y; exact q3))), by simpa [World.setCell] using h.lt, ?_⟩
  refine ⟨Cup P (One g (o + pre.length)), S2, ?_, ?_, q7.trans h3, ?_, ?_⟩
  · intro a b y z
    rcases y with y | y
    · exact h1 a b y (q7 a b z)
    · obtain ⟨rfl, rfl⟩ := y; exact q9 z
  · intro a b y
    rcases y with y | y
    · exact h2 a b y
    · obtain ⟨rfl, rfl⟩ := y; exact h3 _ _ q3
  · rw [mkL_append]
    have k1 : OwL (w.setCell ⟨g, o + pre.length, none⟩ m) (mkc.mkL k pre) P g o := OwL.kept _ (hs.kept hP1) h.lt h4
    have := OwL.snoc (x := mkc (k + cc.ccL pre) x) (u := m) (S1 := fun _ _ => False) k1 (by rw [hlen]; exact World.cell?_setCell_same _ _ _ q1) (by rw [hlen, World.frozen?_setCell]; exact q2) (hm _) (fun _ _ _ y => y.elim) (by rw [hlen]; exact hP1) (fun _ _ y => y.elim)
    rw [hlen] at this
    refine OwL.sub _ ?_ this
    intro a b y
    rcases y with y | y | y
    · exact .inl y
    · exact y.elim
    · exact .inr y
  · have e : o + (pre ++ [x]).length = o + pre.length + 1 := by simp; omega
    rw [e]
    exact OwL.kept _ (hs.kept (fun a b y z => by obtain ⟨rfl, rfl⟩ := z; exact q9 y)) h.lt q5
/-- A cell that holds a slice, marked by a call. -/
theorem MkSt.call {w0 w : World} {S : Fp} {g o k : Nat} {pre post : List V} {x : V} (h : MkSt w0 S g o k pre (x :: post) w) :
    ∃ u S1, w.cell? ⟨g, o + pre.length, none⟩ = some u ∧ Ow w x S1 u ∧ ∀ w1, Chg S1 w w1 → Ow w1 (mkc (k + cc.ccL pre) x) S1 u → MkSt w0 S g o k (pre ++ [x]) post w1 := by
  obtain ⟨P, R, h1, h2, h3, h4, h5⟩ := h.own
  unfold OwL at h5
  obtain ⟨u, S1, S2, q1, q2, q3, q4, q5, q6, q7, q8, q9, q10⟩ := h5
  refine ⟨u, S1, q1, q4, fun w1 hc ho => ?_⟩
  have hlen : (mkc.mkL k pre).length = pre.length := mkL_len k pre
  have hPS : Apart P S1 := h1.sub (Sub.refl _) q6
  have hP1 : Apart P (One g (o + pre.length)) := fun a b x y => h1 a b x (by obtain ⟨rfl, rfl⟩ := y; exact q3)
  refine ⟨h.chg.trans (hc.sub (q6.trans h3)), Nat.lt_of_lt_of_le h.lt hc.size, Cup P (Cup S1 (One g (o + pre.length))), S2, ?_, ?_, q7.trans h3, ?_, ?_⟩
  · intro a b y z
    rcases y with y | y | y
    · exact h1 a b y (q7 a b z)
    · exact q10 a b y z
    · obtain ⟨rfl, rfl⟩ := y; exact q9 z
  · intro a b y
    rcases y with y | y | y
    · exact h2 a b y
    · exact h3 a b (q6 a b y)
    · obtain ⟨rfl, rfl⟩ := y; exact h3 _ _ q3
  · rw [mkL_append]
    have k1 : OwL w1 (mkc.mkL k pre) P g o := OwL.kept _ (hc.kept hPS) h.lt h4
    have := OwL.snoc (x := mkc (k + cc.ccL pre) x) (u := u) (S1 := S1) k1 (by rw [hlen, hc.cell _ _ h.lt q8]; exact q1) (by rw [hlen, hc.frozen ⟨g, _, none⟩ h.lt]; exact q2) ho hPS (by rw [hlen]; exact hP1) (fun a b y z => by obtain ⟨rfl, e⟩ := z; rw [hlen] at e; subst e; exact q8 y)
    rw [hlen] at this
    exact this
  · have e : o + (pre ++ [x]).length = o + pre.length + 1 := by simp; omega
    rw [e]
    exact OwL.kept _ (hc.kept q10.symm) h.lt q5
theorem RdA.hd {w : World} {x : V} {v : Value} {xs : List V} {vs : List Value} (h : RdA w (x :: xs) (v :: vs)) : Rd w x v := by unfold RdA at h; exact h.1
theorem RdA.tl {w : World} {x : V} {v : Value} {xs : List V} {vs : List Value} (h : RdA w (x :: xs) (v :: vs)) : RdA w xs vs := by unfold RdA at h; exact h.2
theorem Rd.bs_sh {w : World} {l : List Int} {v : Value} (h : Rd w (.bs l) v) : ∃ A c, v = .slice A l.length c := by obtain ⟨A, c, h, _⟩ := h.bs_out; exact ⟨A, c, h⟩
theorem Rd.is_sh {w : World} {l : List Int} {v : Value} (h : Rd w (.is l) v) : ∃ A c, v = .slice A l.length c := by obtain ⟨A, c, h, _⟩ := h.is_out; exact ⟨A, c, h⟩
theorem Rd.st_sh {w : World} {n : Nat} {xs : List V} {v : Value} (h : Rd w (.st n xs) v) : ∃ A c, v = .slice A n c := by obtain ⟨A, c, h, _⟩ := h.st_out; exact ⟨A, c, h⟩
/-- A struct within a struct. -/
theorem OwA.app {w : World} : ∀ {xs ys : List V} {S : Fp} {vs us : List Value}, xs.length = vs.length → OwA w (xs ++ ys) S (vs ++ us) → ∃ S1 S2, OwA w xs S1 vs ∧ OwA w ys S2 us ∧ Sub S1 S ∧ Sub S2 S ∧ Apart S1 S2
  | [], ys, S, [], us, _, h => ⟨fun _ _ => False, S, by unfold OwA; trivial, h, fun _ _ x => x.elim, Sub.refl _, fun _ _ x => x.elim⟩
  | x :: xs, ys, S, v :: vs, us, e, h => by
    rw [List.cons_append, List.cons_append] at h
    unfold OwA at h
    obtain ⟨S1, S2, h1, h2, h3, h4, h5⟩ := h
    obtain ⟨T1, T2, k1, k2, k3, k4, k5⟩ := OwA.app (by simpa using e) h2
    refine ⟨Cup S1 T1, T2, ?_, k2, ?_, k4.trans h4, ?_⟩
    · unfold OwA; exact ⟨S1, T1, h1, k1, Sub.cupL _ _, Sub.cupR _ _, h5.sub (Sub.refl _) k3⟩
    · intro a b y; rcases y with y | y
      · exact h3 a b y
      · exact h4 a b (k3 a b y)
    · intro a b y z; rcases y with y | y
      · exact h5 a b y (k4 a b z)
      · exact k5 a b y z
theorem OwA.join {w : World} : ∀ {xs ys : List V} {S S1 S2 : Fp} {vs us : List Value}, OwA w xs S1 vs → OwA w ys S2 us → Sub S1 S → Sub S2 S → Apart S1 S2 → OwA w (xs ++ ys) S (vs ++ us)
  | [], ys, S, S1, S2, [], us, _, h2, _, k2, _ => OwA.sub k2 h2
  | x :: xs, ys, S, S1, S2, v :: vs, us, h, h2, k1, k2, k3 => by
    unfold OwA at h
    obtain ⟨T1, T2, q1, q2, q3, q4, q5⟩ := h
    rw [List.cons_append, List.cons_append]
    unfold OwA
    refine ⟨T1, Cup T2 S2, q1, OwA.join q2 h2 (Sub.cupL _ _) (Sub.cupR _ _) (k3.sub q4 (Sub.refl _)), q3.trans k1, ?_, ?_⟩
    · intro a b y; rcases y with y | y
      · exact k1 a b (q4 a b y)
      · exact k2 a b y
    · intro a b y z; rcases z with z | z
      · exact q5 a b y z
      · exact k3 a b (q3 a b y) z
  | [], _, _, _, _, _ :: _, _, h, _, _, _, _ => by unfold OwA at h; exact h.elim
  | _ :: _, _, _, _, _, [], _, h, _, _, _, _ => by unfold OwA at h; exact h.elim
theorem OwA.step_app {w : World} {xs xs' ys : List V} {S : Fp} {vs us : List Value} (e : xs.length = vs.length) (h : OwA w (xs ++ ys) S (vs ++ us)) :
    ∃ S1, Sub S1 S ∧ OwA w xs S1 vs ∧ ∀ (w1 : World), Chg S1 w w1 → OwA w1 xs' S1 vs →
      ∃ S2, Sub S2 S ∧ OwA w1 ys S2 us ∧ ∀ (w2 : World) (ys' : List V), Chg S2 w1 w2 → OwA w2 ys' S2 us → Chg S w w2 ∧ OwA w2 (xs' ++ ys') S (vs ++ us) := by
  obtain ⟨S1, S2, h1, h2, h3, h4, h5⟩ := OwA.app e h
  refine ⟨S1, h3, h1, fun w1 hc ho => ⟨S2, h4, OwA.kept (hc.kept h5.symm) h2, fun w2 ys' hc2 ho2 => ⟨(hc.sub h3).trans (hc2.sub h4), ?_⟩⟩⟩
  exact OwA.join (OwA.kept (hc2.kept h5) ho) ho2 h3 h4 h5
theorem OwN.app {B C D : Nat} {w : World} {xs ys : List V} {vs us : List Value} (h : OwN B C w xs vs) (k : OwN C D w ys us) (hBC : B ≤ C) (hCD : C ≤ D) : OwN B D w (xs ++ ys) (vs ++ us) :=
  ⟨k.1, OwA.join h.2 k.2 (Wn.sub (Nat.le_refl _) hCD) (Wn.sub hBC (Nat.le_refl _)) (Wn.apart (Nat.le_refl _))⟩
/-- A block with one cell written. -/
theorem Blk.put {w : World} {g : Nat} {t : TypeId} {cs : Array Value} (h : Blk w g t cs) (i : Nat) (u : Value) : Blk (w.setCell ⟨g, i, none⟩ u) g t (cs.setIfInBounds i u) := by
  unfold Blk at h ⊢
  simp [World.setCell, Array.getElem?_modify, h]
theorem Blk.far {w : World} {g : Nat} {t : TypeId} {cs : Array Value} (h : Blk w g t cs) {p : Addr} (hp : p.block ≠ g) (u : Value) : Blk (w.setCell p u) g t cs := (Below.heap_setCell w p u g (fun e => hp e.symm)).trans h
theorem Blk.chg {w w' : World} {g : Nat} {t : TypeId} {cs : Array Value} {S : Fp} (h : Blk w g t cs) (hc : Chg S w w') (hs : Sub S (Wn 0 g)) : Blk w' g t cs := (hc.block g h.lt (fun o x => by have := (hs g o x).2; omega)).trans h
theorem Blk.win2 {B C : Nat} {w w' : World} {g : Nat} {t : TypeId} {cs : Array Value} (h : Blk w g t cs) (hw : Win B C w w') (ho : g < B ∨ C ≤ g) : Blk w' g t cs := (hw.block g h.lt ho).trans h
theorem set_win (w : World) (g i : Nat) (u : Value) : Win g (g + 1) w (w.setCell ⟨g, i, none⟩ u) := (Chg.set w g i u).win (fun a b y => by obtain ⟨rfl, rfl⟩ := y; omega)
theorem vcA_append (a b : List V) : vcA (a ++ b) = vcA a + vcA b := by
  induction a with
  | nil => simp [vcA]
  | cons x xs ih => simp [vcA, ih]; omega
theorem mkA_append (k : Nat) (a b : List V) : mkA k (a ++ b) = mkA k a ++ mkA (k + vcA a) b := by
  induction a generalizing k with
  | nil => simp [mkA, vcA]
  | cons x xs ih => simp [mkA, vcA, ih]; congr 1; omega
end Go.Proofs.YtncnibkojneejaaGreatDoor

/- Trees: what the laws' helpers of a slice of bytes and of a slice of int64s do (mark, held, eq, sz, to). -/
namespace Go.Proofs.YtncnibkojneejaaGreatDoor
open Go.RowKit Go.Deep

theorem markW_chg (w : World) (g o k n : Nat) (S : Fp) (hs : ∀ j, j < n → S g (o + j)) : Chg S w (markW w g o k n) := by
  induction n with
  | zero => exact Chg.refl _ _
  | succ j ih => exact (ih (fun i hi => hs i (by omega))).trans ((Chg.set _ g (o + j) _).sub (fun a b y => by obtain ⟨rfl, rfl⟩ := y; exact hs j (by omega)))
theorem markV_chg (w : World) (g o k n : Nat) (S : Fp) (hs : ∀ j, j < n → S g (o + j)) : Chg S w (markV w g o k n) := by
  induction n with
  | zero => exact Chg.refl _ _
  | succ j ih => exact (ih (fun i hi => hs i (by omega))).trans ((Chg.set _ g (o + j) _).sub (fun a b y => by obtain ⟨rfl, rfl⟩ := y; exact hs j (by omega)))
/-- What 'held' answers, what 'eq' answers, what 'sz' answers. -/
def HeR (x : V) (k : Nat) (w : World) (e : Ending) (w' : World) : Prop := e = .returned (.int .i64 ((k + cc x : Nat) : Int)) ∧ Below w.heap.size w w'
def EqR (w : World) (e : Ending) (w' : World) : Prop := e = .returned (.bool true) ∧ Below w.heap.size w w'
def SzR (left : Int) (t : Nat) (w : World) (e : Ending) (w' : World) : Prop := ∃ z : Int, e = .returned (.int .i64 z) ∧ SzR' left t z ∧ Below w.heap.size w w'
/-- The same over a struct's fields. -/
def MkA (xs : List V) (S : Fp) (vs : List Value) (k : Nat) (w : World) (e : Ending) (w' : World) : Prop := e = .returned (.int .i64 ((k + vcA xs : Nat) : Int)) ∧ Chg S w w' ∧ OwA w' (mkA k xs) S vs
def HeA (xs : List V) (k : Nat) (w : World) (e : Ending) (w' : World) : Prop := e = .returned (.int .i64 ((k + vcA xs : Nat) : Int)) ∧ Below w.heap.size w w'
theorem mkc_bs_sh {w : World} {k : Nat} {l : List Int} {v : Value} (h : Rd w (mkc k (.bs l)) v) : ∃ A n c, v = .slice A n c := by simp only [mkc] at h; obtain ⟨A, c, h, _⟩ := h.bs_out; exact ⟨A, _, c, h⟩
theorem mkc_is_sh {w : World} {k : Nat} {l : List Int} {v : Value} (h : Rd w (mkc k (.is l)) v) : ∃ A n c, v = .slice A n c := by simp only [mkc] at h; obtain ⟨A, c, h, _⟩ := h.is_out; exact ⟨A, _, c, h⟩
theorem mkc_st_sh {w : World} {k n : Nat} {x : V} {xs : List V} {v : Value} (e : x = .st n xs) (h : Rd w (mkc k x) v) : ∃ A n c, v = .slice A n c := by subst e; simp only [mkc] at h; obtain ⟨A, c, h, _⟩ := h.st_out; exact ⟨A, _, c, h⟩
end Go.Proofs.YtncnibkojneejaaGreatDoor

/- Trees: slices of structs, row by row. -/
namespace Go.Proofs.YtncnibkojneejaaGreatDoor
open Go.RowKit Go.Deep

theorem flat_take {α : Type} (f : α → List V) (r : List α) (j : Nat) (hj : j < r.length) : (r.take (j + 1)).flatMap f = (r.take j).flatMap f ++ f r[j] := by
  rw [List.take_add_one, List.getElem?_eq_getElem hj, Option.toList_some, List.flatMap_append]
  simp
theorem flat_drop {α : Type} (f : α → List V) (r : List α) (j : Nat) (hj : j < r.length) : (r.drop j).flatMap f = f r[j] ++ (r.drop (j + 1)).flatMap f := by
  rw [List.drop_eq_getElem_cons hj, List.flatMap_cons]
theorem flat_len {α : Type} {f : α → List V} {W : Nat} (hf : ∀ x, (f x).length = W) (r : List α) : (r.flatMap f).length = r.length * W := by
  induction r with
  | nil => simp
  | cons x xs ih => rw [List.flatMap_cons, List.length_append, ih, hf, List.length_cons, Nat.add_mul]; omega
theorem flat_split {α : Type} (f : α → List V) (r : List α) (j : Nat) (hj : j < r.length) : r.flatMap f = (r.take j).flatMap f ++ (f r[j] ++ (r.drop (j + 1)).flatMap f) := by
  rw [← flat_drop f r j hj, ← List.flatMap_append, List.take_append_drop]
theorem take_len {α : Type} {f : α → List V} {W : Nat} (hf : ∀ x, (f x).length = W) (r : List α) (j : Nat) (hj : j ≤ r.length) : ((r.take j).flatMap f).length = j * W := by
  rw [flat_len hf, List.length_take, Nat.min_eq_left hj]
theorem RdL.get? {w : World} {xs : List V} {g o : Nat} (h : RdL w xs g o) (i : Nat) (x : V) (hx : xs[i]? = some x) : ∃ u, w.cell? ⟨g, o + i, none⟩ = some u ∧ Rd w x u := by
  obtain ⟨hi, e⟩ := List.getElem?_eq_some_iff.1 hx
  obtain ⟨u, h1, h2⟩ := h.at i hi
  exact ⟨u, h1, e ▸ h2⟩
theorem mid_get {a b c : List V} {k : Nat} {x : V} (h : b[k]? = some x) : (a ++ (b ++ c))[a.length + k]? = some x := by
  obtain ⟨hk, e⟩ := List.getElem?_eq_some_iff.1 h
  rw [List.getElem?_append_right (by omega), show a.length + k - a.length = k by omega, List.getElem?_append_left hk]
  exact h
/-- A row of a slice of structs that is read. -/
theorem Rd.row {α : Type} {f : α → List V} {W : Nat} (hf : ∀ x, (f x).length = W) {w : World} {r : List α} {v : Value} (h : Rd w (.st r.length (r.flatMap f)) v) {j : Nat} (hj : j < r.length) :
    ∃ g o c, v = .slice (some ⟨g, o, none⟩) r.length c ∧ g < w.heap.size ∧ ∀ k x, (f r[j])[k]? = some x → ∃ u, w.cell? ⟨g, o + j * W + k, none⟩ = some u ∧ Rd w x u := by
  obtain ⟨A, c, rfl, hc, h⟩ := h.st_out
  rcases h with ⟨h, _⟩ | ⟨g, o, rfl, hg, h⟩
  · omega
  · refine ⟨g, o, c, rfl, hg, fun k x hx => ?_⟩
    rw [flat_split f r j hj] at h
    have := h.get? _ x (mid_get hx)
    rwa [take_len hf r j (by omega), ← Nat.add_assoc] at this
/-- A row of a marked slice. -/
theorem Rd.rowmk {α : Type} {f : α → List V} {W : Nat} (hf : ∀ x, (f x).length = W) {w : World} {r : List α} {v : Value} {k0 : Nat} (h : Rd w (mkc k0 (.st r.length (r.flatMap f))) v) {j : Nat} (hj : j < r.length) :
    ∃ g o c, v = .slice (some ⟨g, o, none⟩) r.length c ∧ g < w.heap.size ∧ ∀ k x, (mkc.mkL (k0 + cc.ccL ((r.take j).flatMap f)) (f r[j]))[k]? = some x → ∃ u, w.cell? ⟨g, o + j * W + k, none⟩ = some u ∧ Rd w x u := by
  simp only [mkc] at h
  obtain ⟨A, c, rfl, hc, h⟩ := h.st_out
  rcases h with ⟨h, _⟩ | ⟨g, o, rfl, hg, h⟩
  · omega
  · refine ⟨g, o, c, rfl, hg, fun k x hx => ?_⟩
    rw [flat_split f r j hj, mkL_append, mkL_append] at h
    have := h.get? _ x (mid_get hx)
    rwa [mkL_len, take_len hf r j (by omega), ← Nat.add_assoc] at this
theorem Rd.st_len {w : World} {n : Nat} {xs : List V} {v : Value} (h : Rd w (.st n xs) v) : (n : Int) ≤ 9223372036854775807 := by obtain ⟨_, _, _, hc, _⟩ := h.st_out; exact hc.len
theorem Rd.int_out {w : World} {n : Int} {u : Value} (h : Rd w (.int n) u) : u = .int .i64 n := by unfold Rd at h; exact h
theorem Rd.bool_out {w : World} {b : Bool} {u : Value} (h : Rd w (.bool b) u) : u = .bool b := by unfold Rd at h; exact h
/-- The count ahead of row j. -/
def kRow {α : Type} (k : Nat) (f : α → List V) (r : List α) (j : Nat) : Nat := k + cc.ccL ((r.take j).flatMap f)
theorem kRow_zero {α : Type} (k : Nat) (f : α → List V) (r : List α) : kRow k f r 0 = k := by simp [kRow, cc.ccL]
theorem kRow_succ {α : Type} (k : Nat) (f : α → List V) (r : List α) (j : Nat) (hj : j < r.length) : kRow k f r (j + 1) = kRow k f r j + cc.ccL (f r[j]) := by
  rw [kRow, kRow, flat_take f r j hj, ccL_append]; omega
theorem kRow_all {α : Type} (k : Nat) (f : α → List V) (r : List α) : kRow k f r r.length = k + cc (.st r.length (r.flatMap f)) := by rw [kRow, List.take_length, cc]
theorem kRow_le {α : Type} (k : Nat) (f : α → List V) (r : List α) (j : Nat) : kRow k f r j ≤ k + cc (.st r.length (r.flatMap f)) := by
  have e : r.flatMap f = (r.take j).flatMap f ++ (r.drop j).flatMap f := by rw [← List.flatMap_append, List.take_append_drop]
  rw [kRow, cc, e, ccL_append]; omega
/-- A cell of one number marked, its place by name. -/
theorem MkSt.num {w0 w : World} {S : Fp} {g o k : Nat} {pre post : List V} {n : Int} (h : MkSt w0 S g o k pre (.int n :: post) w) (q : Nat) (hq : q = o + pre.length) (z : Int) (hz : z = ((k + cc.ccL pre : Nat) : Int)) :
    (∃ u, w.cell? ⟨g, q, none⟩ = some u) ∧ w.frozen? ⟨g, q, none⟩ = false ∧ MkSt w0 S g o k (pre ++ [.int n]) post (w.setCell ⟨g, q, none⟩ (.int .i64 z)) := by
  subst hq hz
  exact h.cell (fun W => by simp only [mkc]; unfold Ow; rfl)
theorem dec3 (z : Int) : decide (z % 3 = 0) = (z % 3 == 0) := by rw [Bool.eq_iff_iff]; simp
theorem bne3 (z : Int) : ((z % 3 == 0) != (z % 3 == 0)) = false := by simp
theorem MkSt.boo {w0 w : World} {S : Fp} {g o k : Nat} {pre post : List V} {n : Bool} (h : MkSt w0 S g o k pre (.bool n :: post) w) (q : Nat) (hq : q = o + pre.length) (z : Int) (hz : z = ((k + cc.ccL pre : Nat) : Int)) :
    (∃ u, w.cell? ⟨g, q, none⟩ = some u) ∧ w.frozen? ⟨g, q, none⟩ = false ∧ MkSt w0 S g o k (pre ++ [.bool n]) post (w.setCell ⟨g, q, none⟩ (.bool (z % 3 == 0))) := by
  subst hq hz
  rw [← dec3]
  exact h.cell (fun W => by simp only [mkc]; unfold Ow; rfl)
theorem MkSt.at_ {w0 w : World} {S : Fp} {g o k : Nat} {pre post : List V} {x : V} (h : MkSt w0 S g o k pre (x :: post) w) (q : Nat) (hq : q = o + pre.length) (y : Nat) (hy : y = k + cc.ccL pre) :
    ∃ u S1, w.cell? ⟨g, q, none⟩ = some u ∧ Ow w x S1 u ∧ ∀ w1, Chg S1 w w1 → Ow w1 (mkc y x) S1 u → MkSt w0 S g o k (pre ++ [x]) post w1 := by
  subst hq hy
  exact h.call
theorem MkSt.start {w : World} {S : Fp} {g o k : Nat} {xs : List V} (h : OwL w xs S g o) (hg : g < w.heap.size) : MkSt w S g o k [] xs w :=
  ⟨Chg.refl _ _, hg, fun _ _ => False, S, fun _ _ x => x.elim, fun _ _ x => x.elim, Sub.refl _, by simp only [mkc.mkL]; unfold OwL; trivial, by simpa using h⟩
theorem MkSt.done {w0 w : World} {S : Fp} {g o k n c : Nat} {xs : List V} (h : MkSt w0 S g o k xs [] w) (hc : Caps n c) : Chg S w0 w ∧ Ow w (mkc k (.st n xs)) S (.slice (some ⟨g, o, none⟩) n c) := by
  obtain ⟨P, R, _, h2, _, h4, _⟩ := h.own
  refine ⟨h.chg, ?_⟩
  simp only [mkc]
  unfold Ow
  exact ⟨_, c, rfl, hc, .inr ⟨g, o, rfl, h.lt, OwL.sub _ h2 h4⟩⟩

/-! A slice of structs while it is filled. -/
def putL (w : World) (g i : Nat) : List Value → World
  | [] => w
  | v :: vs => putL (w.setCell ⟨g, i, none⟩ v) g (i + 1) vs
theorem putL_size (w : World) (g i : Nat) (vs : List Value) : (putL w g i vs).heap.size = w.heap.size := by
  induction vs generalizing w i with
  | nil => rfl
  | cons v vs ih => rw [putL, ih]; simp [World.setCell]
theorem putL_chg (w : World) (g i : Nat) (vs : List Value) : Chg (fun a b => a = g ∧ i ≤ b ∧ b < i + vs.length) w (putL w g i vs) := by
  induction vs generalizing w i with
  | nil => exact Chg.refl _ _
  | cons v vs ih =>
    rw [putL]
    exact ((Chg.set w g i v).sub (fun a b h => ⟨h.1, by have := h.2; omega, by have := h.2; simp; omega⟩)).trans ((ih _ (i + 1)).sub (fun a b h => ⟨h.1, by omega, by have := h.2.2; simp; omega⟩))
def FS (B C g n : Nat) : Fp := fun a b => B ≤ a ∧ a < C ∧ (a = g → b < n)
structure FillL (w0 : World) (g T : Nat) (pre : List V) (W : World) : Prop where
  old : Below w0.heap.size w0 W
  hg : w0.heap.size ≤ g
  lt : g < W.heap.size
  room : ∀ x, x < T → ∃ v, W.cell? ⟨g, x, none⟩ = some v
  fz : ∀ t, W.frozen? ⟨g, t, none⟩ = false
  own : ∃ P, Sub P (FS w0.heap.size W.heap.size g pre.length) ∧ OwL W pre P g 0
theorem fill_put {B C g : Nat} : ∀ {xs : List V} {vs : List Value} {W : World} {pre : List V} {P S : Fp}, g < W.heap.size → W.heap.size = C → B ≤ g → Sub P (FS B C g pre.length) → OwL W pre P g 0 → OwA W xs S vs → Apart P S → (∀ a b, S a b → B ≤ a ∧ a < C ∧ a ≠ g) →
    (∀ x, x < pre.length + xs.length → ∃ v, W.cell? ⟨g, x, none⟩ = some v) → (∀ t, W.frozen? ⟨g, t, none⟩ = false) → ∃ P', Sub P' (FS B C g (pre ++ xs).length) ∧ OwL (putL W g pre.length vs) (pre ++ xs) P' g 0
  | [], [], W, pre, P, S, _, _, _, h1, h2, _, _, _, _, _ => ⟨P, by simpa using h1, by simpa [putL] using h2⟩
  | x :: xs, v :: vs, W, pre, P, S, hg, hC, hB, h1, h2, h3, h4, h5, h6, h7 => by
    unfold OwA at h3
    obtain ⟨S1, S2, q1, q2, q3, q4, q5⟩ := h3
    obtain ⟨u, hu⟩ := h6 pre.length (by simp)
    have hs := Chg.set W g pre.length v
    have aP : Apart P (One g pre.length) := fun a b y z => by obtain ⟨rfl, rfl⟩ := z; have := (h1 _ _ y).2.2 rfl; omega
    have a1 : Apart S1 (One g pre.length) := fun a b y z => by obtain ⟨rfl, rfl⟩ := z; exact (h5 _ _ (q3 _ _ y)).2.2 rfl
    have a2 : Apart S2 (One g pre.length) := fun a b y z => by obtain ⟨rfl, rfl⟩ := z; exact (h5 _ _ (q4 _ _ y)).2.2 rfl
    have k1 := OwL.kept pre (hs.kept aP) hg h2
    have e0 : 0 + pre.length = pre.length := by omega
    have := OwL.snoc (x := x) (u := v) (S1 := S1) k1 (by rw [e0]; exact World.cell?_setCell_same _ _ _ hu) (by rw [e0, World.frozen?_setCell]; exact h7 _) (Ow.kept x (hs.kept a1) q1) (h4.sub (Sub.refl _) q3) (by rw [e0]; exact aP) (by rw [e0]; exact a1)
    rw [e0] at this
    have hpl : (pre ++ [x]).length = pre.length + 1 := by simp
    obtain ⟨P', r1, r2⟩ := fill_put (xs := xs) (vs := vs) (W := W.setCell ⟨g, pre.length, none⟩ v) (pre := pre ++ [x]) (P := Cup P (Cup S1 (One g pre.length))) (S := S2) (by simpa [World.setCell] using hg) (by simpa [World.setCell] using hC) hB
      (fun a b y => by
        rw [hpl]
        rcases y with y | y | y
        · have := h1 a b y; exact ⟨this.1, this.2.1, fun e => by have := this.2.2 e; omega⟩
        · have := h5 a b (q3 a b y); exact ⟨this.1, this.2.1, fun e => absurd e this.2.2⟩
        · obtain ⟨rfl, rfl⟩ := y; exact ⟨hB, by omega, fun _ => by omega⟩)
      this (OwA.kept (hs.kept a2) q2)
      (fun a b y z => by
        rcases y with y | y | y
        · exact h4 a b y (q4 a b z)
        · exact q5 a b y z
        · exact a2 a b z y)
      (fun a b y => h5 a b (q4 a b y))
      (fun y hy => by
        obtain ⟨t, ht⟩ := h6 y (by rw [hpl] at hy; simp; omega)
        by_cases e : y = pre.length
        · subst e; exact ⟨v, World.cell?_setCell_same _ _ _ hu⟩
        · exact ⟨t, (World.cell?_setCell_other _ _ _ _ (fun e2 => by injection e2 with _ e3; exact e e3.symm)).trans ht⟩)
      (fun t => by rw [World.frozen?_setCell]; exact h7 t)
    rw [hpl] at r2
    rw [List.append_assoc] at r1 r2
    exact ⟨P', r1, by rw [putL]; exact r2⟩
  | [], _ :: _, _, _, _, _, _, _, _, _, _, h3, _, _, _, _ => by unfold OwA at h3; exact h3.elim
  | _ :: _, [], _, _, _, _, _, _, _, _, _, h3, _, _, _, _ => by unfold OwA at h3; exact h3.elim
theorem FillL.step {w0 W W1 : World} {g T : Nat} {pre xs : List V} {vs : List Value} (h : FillL w0 g T pre W) (hb : Below W.heap.size W W1) (ho : OwN W.heap.size W1.heap.size W1 xs vs) (hT : pre.length + xs.length ≤ T) (hl : xs.length = vs.length) (q : Nat) (hq : q = pre.length) :
    FillL w0 g T (pre ++ xs) (putL W1 g q vs) := by
  subst hq
  obtain ⟨P, h1, h2⟩ := h.own
  have hlt1 : g < W1.heap.size := Nat.lt_of_lt_of_le h.lt hb.size
  have hc := putL_chg W1 g pre.length vs
  have hroom : ∀ x, x < T → ∃ v, W1.cell? ⟨g, x, none⟩ = some v := fun x hx => by
    obtain ⟨v, hv⟩ := h.room x hx
    exact ⟨v, (hb.cell (p := ⟨g, x, none⟩) h.lt).trans hv⟩
  have hfz : ∀ t, W1.frozen? ⟨g, t, none⟩ = false := fun t => (hb.frozen (p := ⟨g, t, none⟩) h.lt).trans (h.fz t)
  have hz := putL_size W1 g pre.length vs
  refine ⟨(btr h.old hb).trans ((hc.below (B := g) (C := g + 1) (fun a b y => by have := y.1; omega) (by omega)).mono h.hg), h.hg, by rw [hz]; exact hlt1, ?_, fun t => by rw [hc.frozen ⟨g, t, none⟩ hlt1]; exact hfz t, ?_⟩
  · -- cells stay cells
    intro x hx
    have key : ∀ (ws : List Value) (U : World) (i : Nat), (∀ x, x < T → ∃ v, U.cell? ⟨g, x, none⟩ = some v) → ∀ x, x < T → ∃ v, (putL U g i ws).cell? ⟨g, x, none⟩ = some v := by
      intro ws
      induction ws with
      | nil => intro U i h x hx; exact h x hx
      | cons a rest ih =>
        intro U i h x hx
        rw [putL]
        refine ih _ _ (fun y hy => ?_) x hx
        obtain ⟨t, ht⟩ := h y hy
        by_cases e : y = i
        · subst e; exact ⟨a, World.cell?_setCell_same _ _ _ ht⟩
        · exact ⟨t, (World.cell?_setCell_other _ _ _ _ (fun e2 => by injection e2 with _ e3; exact e e3.symm)).trans ht⟩
    exact key vs W1 pre.length hroom x hx
  · rw [hz]
    exact fill_put (B := w0.heap.size) (C := W1.heap.size) (S := Wn W.heap.size W1.heap.size) hlt1 rfl h.hg (fun a b y => by have := h1 a b y; exact ⟨this.1, Nat.lt_of_lt_of_le this.2.1 hb.size, this.2.2⟩) (OwL.kept pre (Kept.of_below hb) h.lt h2) ho.2
      (fun a b y z => by have := (h1 a b y).2.1; have := z.1; omega) (fun a b y => ⟨Nat.le_trans h.old.size y.1, y.2, by have := y.1; have := h.lt; omega⟩) (fun x hx => hroom x (by omega)) hfz
theorem FillL.done {w0 W : World} {g T n : Nat} {xs : List V} (h : FillL w0 g T xs W) (hc : Caps n n) : OwV w0.heap.size W.heap.size W (.st n xs) (.slice (some ⟨g, 0, none⟩) n n) := by
  obtain ⟨P, h1, h2⟩ := h.own
  refine ⟨Nat.le_refl _, ?_⟩
  unfold Ow
  exact ⟨_, n, rfl, hc, .inr ⟨g, 0, rfl, h.lt, OwL.sub xs (fun a b y => ⟨(h1 a b y).1, (h1 a b y).2.1⟩) h2⟩⟩
theorem fillL0 {w w1 : World} {B g n W : Nat} {t : TypeId} {xs : List Value} (h : w1.ownsRow B t W (.slice (some ⟨g, 0, none⟩) n n) n xs) (hb : Below w.heap.size w w1) (hg : w.heap.size ≤ g) : FillL w g (n * W) [] w1 := by
  rcases h.2 with ⟨h', _⟩ | ⟨g', cap', cur, h', hb', hblk, hnc, hcm, hcs, htake⟩
  · simp at h'
  · simp only [Value.slice.injEq, Option.some.injEq, Addr.mk.injEq, and_true, true_and] at h'
    obtain ⟨rfl, rfl⟩ := h'
    have K : Blk w1 g t cur := hblk
    refine ⟨hb, hg, K.lt, fun x hx => ⟨cur[x]'(by omega), ?_⟩, fun t => K.frozen t, fun _ _ => False, fun _ _ y => y.elim, by unfold OwL; trivial⟩
    rw [K.cell, Array.getElem?_eq_getElem]
theorem totL_append (a b : List V) : tot.totL (a ++ b) = tot.totL a + tot.totL b := by
  induction a with
  | nil => simp [tot.totL]
  | cons x xs ih => simp [tot.totL, ih]; omega
def tRow {α : Type} (f : α → List V) (r : List α) (j : Nat) : Nat := tot.totL ((r.take j).flatMap f)
theorem tRow_zero {α : Type} (f : α → List V) (r : List α) : tRow f r 0 = 0 := by simp [tRow, tot.totL]
theorem tRow_succ {α : Type} (f : α → List V) (r : List α) (j : Nat) (hj : j < r.length) : tRow f r (j + 1) = tRow f r j + tot.totL (f r[j]) := by rw [tRow, tRow, flat_take f r j hj, totL_append]
theorem tRow_all {α : Type} (f : α → List V) (r : List α) : r.length + tRow f r r.length = tot (.st r.length (r.flatMap f)) := by rw [tRow, List.take_length, tot]
theorem row_tot {α : Type} (f : α → List V) (r : List α) (j : Nat) (hj : j < r.length) : tot.totL (f r[j]) ≤ tot (.st r.length (r.flatMap f)) := by
  rw [tot, flat_split f r j hj, totL_append, totL_append]; omega
end Go.Proofs.YtncnibkojneejaaGreatDoor
