import Derived.Test.YthljdikcpdokdaaNa2
import Derived.Test.YthljdikcpdokdaaNa3
import Derived.Maps.AppendAt

/- Rows of structs that hold plain cells (numbers, bools) and then one slice of bytes: the row owned, each struct's bytes in a window of its own. -/
namespace Go.Proofs.Ythljdikcpdokdaa
open Go.RowKit Go.Deep

/-- A plain cell, its value. -/
def pv : V → Value
  | .int n => .int .i64 n
  | .bool b => .bool b
  | _ => .int .i64 0
def Pl : V → Prop
  | .int _ => True
  | .bool _ => True
  | _ => False
structure RowE where
  pre : List V
  val : Value
  bytes : List Int
  lo : Nat
  hi : Nat
def RowE.vs (x : RowE) : List V := x.pre ++ [.bs x.bytes]
def RowE.cs (x : RowE) : List Value := x.pre.map pv ++ [x.val]
def REok (W : Nat) (x : RowE) : Prop := x.pre.length + 1 = W ∧ ∀ p ∈ x.pre, Pl p
def flatR (q : List RowE) : List Value := q.flatMap RowE.cs
theorem flatR_app (a b : List RowE) : flatR (a ++ b) = flatR a ++ flatR b := by simp [flatR]
theorem flatR_cons (x : RowE) (q : List RowE) : flatR (x :: q) = x.cs ++ flatR q := rfl
theorem REok.cs {W : Nat} {x : RowE} (h : REok W x) : x.cs.length = W := by simp [RowE.cs, h.1]
theorem flatR_len {W : Nat} : ∀ {q : List RowE}, (∀ x ∈ q, REok W x) → (flatR q).length = q.length * W
  | [], _ => by simp [flatR]
  | x :: q, h => by
    rw [flatR_cons, List.length_append, (h x (by simp)).cs, flatR_len (fun y hy => h y (by simp [hy])), List.length_cons, Nat.add_mul]; omega
theorem Ow.pv {w : World} {S : Fp} : ∀ {p : V}, Pl p → Ow w p S (pv p)
  | .int _, _ => by unfold Ow; rfl
  | .bool _, _ => by unfold Ow; rfl
  | .bs _, h => h.elim
  | .is _, h => h.elim
  | .st _ _, h => h.elim
/-- The plain cells ahead of the rest. -/
theorem OwL.pre {w : World} {g : Nat} {T : Fp} : ∀ (ps : List V) (o : Nat) (rest : List V), (∀ p ∈ ps, Pl p) → (∀ k, k < ps.length → w.cell? ⟨g, o + k, none⟩ = (ps.map pv)[k]? ∧ w.frozen? ⟨g, o + k, none⟩ = false) →
    OwL w rest T g (o + ps.length) → (∀ k, k < ps.length → ¬ T g (o + k)) → OwL w (ps ++ rest) (fun a b => (a = g ∧ o ≤ b ∧ b < o + ps.length) ∨ T a b) g o
  | [], o, rest, _, _, h, _ => by
    rw [List.nil_append]
    exact OwL.sub _ (fun a b z => .inr z) (by simpa using h)
  | p :: ps, o, rest, hp, hc, h, hT => by
    have ih := OwL.pre ps (o + 1) rest (fun y hy => hp y (by simp [hy])) (fun k hk => by
      have := hc (k + 1) (by simp; omega)
      rw [show o + (k + 1) = o + 1 + k by omega] at this
      simpa using this) (by rw [List.length_cons] at h; rwa [show o + 1 + ps.length = o + (ps.length + 1) by omega]) (fun k hk => by
      have := hT (k + 1) (by simp; omega)
      rwa [show o + (k + 1) = o + 1 + k by omega] at this)
    have c0 := hc 0 (by simp)
    rw [List.cons_append]
    unfold OwL
    refine ⟨pv p, fun _ _ => False, _, by simpa using c0.1, by simpa using c0.2, .inl ⟨rfl, Nat.le_refl _, by simp⟩, Ow.pv (hp p (by simp)), ih, fun _ _ z => z.elim, ?_, fun z => z.elim, ?_, fun _ _ z => z.elim⟩
    · rintro a b (⟨z1, z2, z3⟩ | z)
      · exact .inl ⟨z1, by omega, by simp; omega⟩
      · exact .inr z
    · rintro (⟨_, z2, _⟩ | z)
      · omega
      · exact hT 0 (by simp) (by simpa using z)
def RowFp (W g o : Nat) (q : List RowE) : Fp := fun a b => (a = g ∧ o ≤ b ∧ b < o + q.length * W) ∨ ∃ x ∈ q, x.lo ≤ a ∧ a < x.hi
theorem OwL.rows {w : World} {g W : Nat} : ∀ (q : List RowE) (o : Nat), (∀ x ∈ q, REok W x) → (∀ x ∈ q, Ow w (.bs x.bytes) (Wn x.lo x.hi) x.val ∧ (g < x.lo ∨ x.hi ≤ g)) → q.Pairwise (fun x y => x.hi ≤ y.lo ∨ y.hi ≤ x.lo) →
    (∀ k, k < q.length * W → w.cell? ⟨g, o + k, none⟩ = (flatR q)[k]? ∧ w.frozen? ⟨g, o + k, none⟩ = false) → OwL w (q.flatMap RowE.vs) (RowFp W g o q) g o
  | [], o, _, _, _, _ => by simp only [List.flatMap_nil]; unfold OwL; trivial
  | x :: q, o, hk, h, hp, hc => by
    rw [List.pairwise_cons] at hp
    have hx := h x (by simp)
    have kx := hk x (by simp)
    have hcl := kx.cs
    have hW : x.pre.length + 1 = W := kx.1
    have hmul : (x :: q).length * W = q.length * W + W := by rw [List.length_cons, Nat.add_mul]; omega
    have ih := OwL.rows q (o + W) (fun y hy => hk y (by simp [hy])) (fun y hy => h y (by simp [hy])) hp.2 (fun k hk' => by
      have := hc (k + W) (by omega)
      rw [show o + (k + W) = o + W + k by omega] at this
      refine ⟨this.1.trans ?_, this.2⟩
      rw [flatR_cons, List.getElem?_append_right (by omega), hcl, show k + W - W = k by omega])
    have cl := hc x.pre.length (by omega)
    have e1 : (flatR (x :: q))[x.pre.length]? = some x.val := by
      rw [flatR_cons, List.getElem?_append_left (by omega), RowE.cs, List.getElem?_append_right (by simp)]
      simp
    have e : (x :: q).flatMap RowE.vs = x.pre ++ (.bs x.bytes :: q.flatMap RowE.vs) := by simp [RowE.vs]
    rw [e]
    refine OwL.sub _ ?_ (OwL.pre (T := fun a b => (a = g ∧ o + x.pre.length ≤ b ∧ b < o + (q.length * W + W)) ∨ ∃ y ∈ x :: q, y.lo ≤ a ∧ a < y.hi) x.pre o _ kx.2 (fun k hk' => ?_) ?_ ?_)
    · rintro a b (⟨z1, z2, z3⟩ | ⟨z1, z2, z3⟩ | z)
      · exact .inl ⟨z1, z2, by omega⟩
      · exact .inl ⟨z1, by omega, by omega⟩
      · exact .inr z
    · have := hc k (by omega)
      refine ⟨this.1.trans ?_, this.2⟩
      rw [flatR_cons, List.getElem?_append_left (by omega), RowE.cs, List.getElem?_append_left (by simpa using hk')]
    · unfold OwL
      refine ⟨x.val, Wn x.lo x.hi, RowFp W g (o + W) q, cl.1.trans e1, cl.2, .inl ⟨rfl, by omega, by omega⟩, hx.1, by rw [show o + x.pre.length + 1 = o + W by omega]; exact ih, fun a b z => .inr ⟨x, by simp, z.1, z.2⟩, fun a b z => ?_, fun z => ?_, fun z => ?_, fun a b y z => ?_⟩
      · rcases z with ⟨z1, z2, z3⟩ | ⟨y, hy, z⟩
        · exact .inl ⟨z1, by omega, by omega⟩
        · exact .inr ⟨y, by simp [hy], z⟩
      · have := z.1; have := z.2; rcases hx.2 with q | q <;> omega
      · rcases z with ⟨z1, z2, z3⟩ | ⟨y, hy, z⟩
        · omega
        · rcases (h y (by simp [hy])).2 with q | q <;> omega
      · have y1 := y.1
        have y2 := y.2
        rcases z with ⟨z1, z2, z3⟩ | ⟨y, hy, z⟩
        · rcases hx.2 with q | q <;> omega
        · rcases hp.1 y hy with q | q <;> omega
    · rintro k hk' (⟨_, z2, _⟩ | ⟨y, hy, z⟩)
      · omega
      · rcases (h y hy).2 with q | q <;> omega
/-- A row of structs, its block told apart from the bytes' windows. -/
theorem own_rows {w : World} {B0 B n W : Nat} {t : TypeId} {v : Value} {q : List RowE} (h : w.ownsRow B t W v n (flatR q)) (hn : q.length = n) (hk : ∀ x ∈ q, REok W x) (h00 : B0 ≤ B) (hq : ∀ x ∈ q, OwV x.lo x.hi w (.bs x.bytes) x.val ∧ B0 ≤ x.lo)
    (hg : ∀ g cs, B ≤ g → w.heap[g]? = some (.cells cs t (0, 0)) → ∀ x ∈ q, g < x.lo ∨ x.hi ≤ g) (hp : q.Pairwise (fun x y => x.hi ≤ y.lo ∨ y.hi ≤ x.lo)) :
    OwV B0 w.heap.size w (.st n (q.flatMap RowE.vs)) v := by
  refine ⟨Nat.le_refl _, ?_⟩
  obtain ⟨h1, ⟨rfl, h0⟩ | ⟨g, cap, cur, rfl, hB, hc, hnc, hm, hs, ht⟩⟩ := h
  · unfold Ow
    have : q = [] := List.eq_nil_of_length_eq_zero (by omega)
    subst this
    exact ⟨none, 0, by rw [h0], ⟨by omega, by simp⟩, .inl ⟨h0, rfl⟩⟩
  · have K : Blk w g t cur := hc
    unfold Ow
    unfold maxLen at hm
    refine ⟨_, cap, rfl, ⟨hnc, by omega⟩, .inr ⟨g, 0, rfl, K.lt, OwL.sub _ ?_ (OwL.rows q 0 hk (fun x hx => ⟨(hq x hx).1.2, hg g cur hB hc x hx⟩) hp (fun k hk' => ⟨?_, K.frozen _⟩))⟩⟩
    · rintro a b (⟨z1, _, _⟩ | ⟨x, hx, z1, z2⟩)
      · exact ⟨by omega, by have := K.lt; omega⟩
      · exact ⟨by have := (hq x hx).2; omega, by have := (hq x hx).1.1; omega⟩
    · rw [Nat.zero_add, K.cell, ← Array.getElem?_toList, ← ht, List.getElem?_take_of_lt (by rw [← hn]; omega)]

/-! Bytes' blocks told apart by their type. -/
def B8 (w w' : World) : Prop := ∀ (g : Nat) (cs : Array Value), w.heap[g]? = some (.cells cs 5 (0, 0)) → w'.heap[g]? = some (.cells cs 5 (0, 0))
theorem B8.refl (w : World) : B8 w w := fun _ _ h => h
theorem B8.trans {a b c : World} (h : B8 a b) (k : B8 b c) : B8 a c := fun g cs e => k g cs (h g cs e)
theorem B8.of_below {w w' : World} (hb : Below w.heap.size w w') : B8 w w' := fun g _ e => (hb.block g (Array.getElem?_eq_some_iff.1 e).1).trans e
theorem B8.of_grown {w w' : World} {B s n : Nat} {t : TypeId} {v : Value} {xs : List Value} (hg : w.grownBy w' v.ownBlock) (h2 : w.ownsRow B t s v n xs) (ht : t ≠ 5) : B8 w w' := fun g cs e => by
  refine (hg.block g (Array.getElem?_eq_some_iff.1 e).1 (fun q => ?_)).trans e
  obtain ⟨_, ⟨rfl, _⟩ | ⟨g2, cap2, cur2, rfl, _, k5, _⟩⟩ := h2
  · simp [Value.ownBlock] at q
  · simp [Value.ownBlock] at q
    subst q
    rw [e] at k5
    injection k5 with k5
    injection k5 with _ k5 _
    exact absurd k5.symm ht
theorem B8.of_win {w w' : World} {g : Nat} {t : TypeId} {cs : Array Value} (hw : Win g (g + 1) w w') (hb : Blk w g t cs) (ht : t ≠ 5) : B8 w w' := fun k ks e => by
  have hne : k ≠ g := fun q => by
    have hb' : w.heap[g]? = some (.cells cs t (0, 0)) := hb
    rw [← q, e] at hb'
    injection hb' with hb'
    injection hb' with _ hb' _
    exact ht hb'.symm
  exact (hw.block k (Array.getElem?_eq_some_iff.1 e).1 (by omega)).trans e
def RT (w : World) (x : RowE) : Prop := OwV x.lo x.hi w (.bs x.bytes) x.val ∧ (x.hi ≤ x.lo ∨ (x.hi = x.lo + 1 ∧ ∃ cs, w.heap[x.lo]? = some (.cells cs 5 (0, 0))))
theorem RT.turn {w w' : World} {x : RowE} (h : RT w x) (hs : w.heap.size ≤ w'.heap.size) (hu : B8 w w') : RT w' x := by
  obtain ⟨h1, h2⟩ := h
  have hk : Kept (Wn x.lo x.hi) w w' := by
    rcases h2 with h2 | ⟨h2, cs, h3⟩
    · exact ⟨hs, fun g o _ z => by have := z.1; have := z.2; omega, fun g o _ z => by have := z.1; have := z.2; omega⟩
    · have e : w'.heap[x.lo]? = w.heap[x.lo]? := (hu _ _ h3).trans h3.symm
      refine ⟨hs, fun g o _ z => ?_, fun g o _ z => ?_⟩
      · obtain rfl : x.lo = g := by have := z.1; have := z.2; omega
        exact World.cell?_of_block (a := ⟨x.lo, o, none⟩) e
      · obtain rfl : x.lo = g := by have := z.1; have := z.2; omega
        exact World.frozen?_of_block (a := ⟨x.lo, o, none⟩) e
  refine ⟨⟨Nat.le_trans h1.1 hs, Ow.kept _ hk h1.2⟩, ?_⟩
  rcases h2 with h2 | ⟨h2, cs, h3⟩
  · exact .inl h2
  · exact .inr ⟨h2, cs, hu _ _ h3⟩
theorem RT.of_row {w : World} {B c : Nat} {A : Option Addr} {l : List Int} (h : w.ownsRow B 5 1 (.slice A l.length c) l.length (l.map (Value.int .u8))) (hB : B ≤ w.heap.size) (ps : List V) :
    ∃ lo hi, B ≤ lo ∧ RT w ⟨ps, .slice A l.length c, l, lo, hi⟩ := by
  obtain ⟨A', cp, e, ob, k1, k2⟩ := own_ob h
  injection e with e1 _ e3
  subst e1 e3
  by_cases hl : l = []
  · exact ⟨B, B, Nat.le_refl _, ⟨hB, by unfold Ow; exact ⟨A, c, rfl, ⟨k1, k2⟩, .inl hl⟩⟩, .inl (Nat.le_refl _)⟩
  · have h0 : 0 < l.length := List.length_pos_iff.2 hl
    obtain ⟨_, ⟨_, h9⟩ | ⟨g, cap, cur, h3, h4, h5, _⟩⟩ := h
    · omega
    · injection h3 with h3 _ _
      rcases ob with q | ⟨b, off, q1, q2, q3, q4, q5⟩
      · exact absurd q hl
      · rw [h3] at q1
        have e1 : g = b := by simpa using congrArg (fun z => z.map Addr.block) q1
        have e2 : (0 : Nat) = off := by simpa using congrArg (fun z => z.map Addr.off) q1
        subst e1 e2
        have hg := (Array.getElem?_eq_some_iff.1 h5).1
        exact ⟨g, g + 1, h4, Ob.owv (.inr ⟨g, 0, h3, Nat.le_refl _, Nat.lt_succ_self _, hg, q5⟩) hg ⟨k1, k2⟩, .inr ⟨rfl, cur, h5⟩⟩
theorem RT.far {w : World} {x : RowE} (h : RT w x) {t : TypeId} (ht : t ≠ 5) {g : Nat} {cs : Array Value} (hg : w.heap[g]? = some (.cells cs t (0, 0))) : g < x.lo ∨ x.hi ≤ g := by
  rcases h.2 with h2 | ⟨h2, cs2, h3⟩
  · omega
  · have : g ≠ x.lo := fun e => by
      rw [e, h3] at hg
      injection hg with hg
      injection hg with _ hg _
      exact ht hg.symm
    omega
/-- Owned entries, each in a window of its own. -/
def RTs (B : Nat) (w : World) (q : List RowE) : Prop := (∀ x ∈ q, RT w x ∧ B ≤ x.lo) ∧ q.Pairwise (fun x y => x.hi ≤ y.lo ∨ y.hi ≤ x.lo)
theorem RTs.nil (B : Nat) (w : World) : RTs B w [] := ⟨fun _ h => by simp at h, List.Pairwise.nil⟩
theorem RTs.turn {B : Nat} {w w' : World} {q : List RowE} (h : RTs B w q) (hs : w.heap.size ≤ w'.heap.size) (hu : B8 w w') : RTs B w' q := ⟨fun x hx => ⟨(h.1 x hx).1.turn hs hu, (h.1 x hx).2⟩, h.2⟩
theorem RTs.snoc {B : Nat} {w : World} {q : List RowE} {x : RowE} (h : RTs B w q) (hx : RT w x) (hB : B ≤ x.lo) (hl : ∀ y ∈ q, y.hi ≤ x.lo) : RTs B w (q ++ [x]) :=
  ⟨fun y hy => by
    rcases List.mem_append.1 hy with hy | hy
    · exact h.1 y hy
    · simp at hy; subst hy; exact ⟨hx, hB⟩, List.pairwise_append.2 ⟨h.2, by simp, fun y hy z hz => by simp at hz; subst hz; exact .inl (hl y hy)⟩⟩
theorem RTs.top {B : Nat} {w : World} {q : List RowE} (h : RTs B w q) : ∀ x ∈ q, x.hi ≤ w.heap.size := fun x hx => (h.1 x hx).1.1.1
theorem RTs.own {w : World} {B0 B n W : Nat} {t : TypeId} {v : Value} {q : List RowE} (h : w.ownsRow B t W v n (flatR q)) (hn : q.length = n) (hk : ∀ x ∈ q, REok W x) (ht : t ≠ 5) (h00 : B0 ≤ B) (hq : RTs B0 w q) : OwV B0 w.heap.size w (.st n (q.flatMap RowE.vs)) v :=
  own_rows h hn hk h00 (fun x hx => ⟨(hq.1 x hx).1.1, (hq.1 x hx).2⟩) (fun _ _ _ hh x hx => (hq.1 x hx).1.far ht hh) hq.2

/-! Rows of other types; a row's own block. -/
theorem own_otherT {w w' : World} {B B2 s s2 n n2 : Nat} {e e2 : TypeId} {v v2 : Value} {xs xs2 : List Value} (h : w.ownsRow B e s v n xs) (hg : w.grownBy w' v2.ownBlock) (h2 : w.ownsRow B2 e2 s2 v2 n2 xs2) (ht : e ≠ e2) : w'.ownsRow B e s v n xs := by
  obtain ⟨h1, h3 | ⟨g, cap, cur, h3, h4, h5, h6⟩⟩ := h
  · exact ⟨h1, .inl h3⟩
  · refine ⟨h1, .inr ⟨g, cap, cur, h3, h4, (hg.block g (Array.getElem?_eq_some_iff.1 h5).1 (fun q => ?_)).trans h5, h6⟩⟩
    obtain ⟨_, ⟨rfl, _⟩ | ⟨g2, cap2, cur2, rfl, _, k5, _⟩⟩ := h2
    · simp [Value.ownBlock] at q
    · simp [Value.ownBlock] at q
      subst q
      rw [h5] at k5
      injection k5 with k5
      injection k5 with _ k5 _
      exact ht k5
theorem own_farT {w : World} {B s n g : Nat} {e t : TypeId} {v : Value} {xs : List Value} {cs : Array Value} (h : w.ownsRow B e s v n xs) (k : Blk w g t cs) (ht : t ≠ e) (i : Nat) (u : Value) : (w.setCell ⟨g, i, none⟩ u).ownsRow B e s v n xs := by
  obtain ⟨h1, h2 | ⟨g', cap, cur, h3, h4, h5, h6⟩⟩ := h
  · exact ⟨h1, .inl h2⟩
  · refine ⟨h1, .inr ⟨g', cap, cur, h3, h4, (Below.heap_setCell _ _ _ _ (show g' ≠ g from fun q => ?_)).trans h5, h6⟩⟩
    subst q
    have k' : w.heap[g']? = some (.cells cs t (0, 0)) := k
    rw [h5] at k'
    injection k' with k'
    injection k' with _ k' _
    exact ht k'.symm
theorem own_keptT {w w' : World} {B g s n : Nat} {e : TypeId} {v : Value} {xs : List Value} (h : w.ownsRow B e s v n xs) (hw : Win g (g + 1) w w') (hg : g < B) : w'.ownsRow B e s v n xs := by
  obtain ⟨h1, h2 | ⟨g', cap, cur, h3, h4, h5, h6⟩⟩ := h
  · exact ⟨h1, .inl h2⟩
  · exact ⟨h1, .inr ⟨g', cap, cur, h3, h4, (hw.block g' (Array.getElem?_eq_some_iff.1 h5).1 (.inr (by omega))).trans h5, h6⟩⟩
theorem own_lenT {w : World} {B s n : Nat} {e : TypeId} {v : Value} {xs : List Value} (h : w.ownsRow B e s v n xs) : ∃ (A : Option Addr) (c : Nat), v = .slice A n c := by
  obtain ⟨_, ⟨h2, h3⟩ | ⟨g, cap, cur, h3, _⟩⟩ := h
  · exact ⟨none, 0, by rw [h2, h3]⟩
  · exact ⟨_, _, h3⟩
theorem own_monoT {w : World} {B B' s n : Nat} {e : TypeId} {v : Value} {xs : List Value} (h : w.ownsRow B e s v n xs) (hB : B' ≤ B) : w.ownsRow B' e s v n xs := by
  obtain ⟨h1, h2 | ⟨g, cap, cur, h3, h4, h5⟩⟩ := h
  · exact ⟨h1, .inl h2⟩
  · exact ⟨h1, .inr ⟨g, cap, cur, h3, Nat.le_trans hB h4, h5⟩⟩
theorem own_cellsT {w : World} {B s n : Nat} {e : TypeId} {v : Value} {xs : List Value} (h : w.ownsRow B e s v n xs) : ∃ (A : Option Addr) (c : Nat), v = .slice A n c ∧ ∀ j, j < n * s → ∃ g, A = some ⟨g, 0, none⟩ ∧ B ≤ g ∧ g < w.heap.size ∧ ∀ t, t < n * s → w.cell? ⟨g, t, none⟩ = xs[t]? := by
  have h' := h
  obtain ⟨h1, ⟨rfl, h0⟩ | ⟨g, cap, cur, rfl, h4, h5, h6⟩⟩ := h
  · exact ⟨none, 0, by rw [h0], fun j hj => by rw [h0] at hj; omega⟩
  · exact ⟨_, _, rfl, fun j hj => ⟨g, rfl, h4, (Array.getElem?_eq_some_iff.1 h5).1, fun t ht => h'.cellAt t ht⟩⟩
/-- A row of any struct type: one struct appended, out of a new block. -/
theorem wpList_append_row {w : World} {ops : Array Oper} {rest : List Oper} {o : Oper} {a : Act} {Q : Exit → Act → World → Prop} (hgd : o.guard = none) (s x : Operand) {T e : TypeId} {W by_ : Nat} {z : Value}
    (hT : Try.prog.underlying T = some (.slice e)) (hinfo : (Try.prog.info? e).map (fun i => (i.zero, i.size, i.bytes)) = some (some z, W, by_)) (hz : z.cells.size = W) (hW : 0 < W) (hby : by_ ≤ 1000)
    (ho : o.op = .call { callee := .builtin .append, args := #[s, x], argTypes := #[T, T] })
    (base : Nat) (v : Value) (n : Nat) (xs : List Value) (hs : a.eval s = v) (hown : w.ownsRow base e W v n xs)
    (q m c : Nat) (news : List Value) (hx : a.eval x = .slice (some ⟨q, 0, none⟩) m c) (hl : news.length = m * W) (hq : ∀ j u, news[j]? = some u → w.cell? ⟨q, j, none⟩ = some u) (h1c : ∀ u ∈ news, u.oneCell' = true) (hm : n + m ≤ 100000) (hbase : base ≤ w.heap.size)
    (h : ∀ v' w', w'.ownsRow base e W v' (n + m) (xs ++ news) → w.grownBy w' v.ownBlock → (v'.ownBlock = v.ownBlock ∨ v'.ownBlock = some w.heap.size) → wpList Try.prog ops Q rest (a.put o.dst v') w') : wpList Try.prog ops Q (o :: rest) a w := by
  obtain ⟨i0, hi, hzz⟩ := Option.map_eq_some_iff.1 hinfo
  simp only [Prod.mk.injEq] at hzz
  obtain ⟨hz0, hz1, hz2⟩ := hzz
  refine wpList_append_own_at w hgd s x T ho base e i0 z W by_ hT hi hz0 hz1 hz2 hz hW v n xs hs hown ⟨q, 0, none⟩ m c news hx hl
    (fun j u hu => ?_) h1c (by unfold maxLen; omega) (by have := Nat.mul_le_mul hm hby; omega) hbase (fun v' w' h1 h2 _ h4 => h v' w' h1 h2 h4)
  have e : (⟨q, 0, none⟩ : Addr).add j = ⟨q, j, none⟩ := by rw [show (⟨q, 0, none⟩ : Addr).add j = ⟨q, 0 + j, none⟩ by unfold Addr.add; split <;> simp_all, Nat.zero_add]
  rw [e]
  exact hq j u hu
/-- A row of structs appended to a row of structs. -/
theorem wpList_append_rows {w : World} {ops : Array Oper} {rest : List Oper} {o : Oper} {a : Act} {Q : Exit → Act → World → Prop} (hgd : o.guard = none) (s x : Operand) {T e : TypeId} {W by_ : Nat} {z : Value}
    (hT : Try.prog.underlying T = some (.slice e)) (hinfo : (Try.prog.info? e).map (fun i => (i.zero, i.size, i.bytes)) = some (some z, W, by_)) (hz : z.cells.size = W) (hW : 0 < W) (hby : by_ ≤ 1000)
    (ho : o.op = .call { callee := .builtin .append, args := #[s, x], argTypes := #[T, T] })
    (base : Nat) (v : Value) (n : Nat) (xs : List Value) (hs : a.eval s = v) (hown : w.ownsRow base e W v n xs)
    (base2 m : Nat) (v2 : Value) (ys : List Value) (hx : a.eval x = v2) (hown2 : w.ownsRow base2 e W v2 m ys) (h1c : ∀ u ∈ ys, u.oneCell' = true) (hm : n + m ≤ 100000) (hbase : base ≤ w.heap.size)
    (h : ∀ v' w', w'.ownsRow base e W v' (n + m) (xs ++ ys) → w.grownBy w' v.ownBlock → (v'.ownBlock = v.ownBlock ∨ v'.ownBlock = some w.heap.size) → wpList Try.prog ops Q rest (a.put o.dst v') w') : wpList Try.prog ops Q (o :: rest) a w := by
  have h' := hown2
  obtain ⟨hl2, ⟨rfl, h0⟩ | ⟨g, cap, cur, rfl, h4, h5, h6⟩⟩ := hown2
  · obtain ⟨i0, hi, hzz⟩ := Option.map_eq_some_iff.1 hinfo
    simp only [Prod.mk.injEq] at hzz
    have hy : ys = [] := List.eq_nil_of_length_eq_zero (by rw [hl2, h0]; omega)
    subst h0 hy
    refine wpList_plain hgd fun K hK => ?_
    have hrun := run_append_of_nil (P := Try.prog) w base T o.type e i0 W hT hi v n xs hown 0
    unfold Oper.wp
    simp [execOp, ho, resolve, invoke, builtin, hs, hx, hrun, Result.andThen]
    exact hK _ _ (h v w (by simpa using hown) (World.grownBy.refl w _) (.inl rfl))
  · exact wpList_append_row hgd s x hT hinfo hz hW hby ho base v n xs hs hown g m cap ys hx hl2 (fun j u hu => (h'.cellAt j (by rw [← hl2]; exact (List.getElem?_eq_some_iff.1 hu).1)).trans hu) h1c hm hbase h
theorem flatR_one {W : Nat} : ∀ {q : List RowE}, (∀ x ∈ q, REok W x) → (∀ x ∈ q, ∃ A n c, x.val = .slice A n c) → ∀ u ∈ flatR q, u.oneCell' = true
  | [], _, _, u, hu => by simp [flatR] at hu
  | x :: q, h, k, u, hu => by
    rw [flatR_cons] at hu
    rcases List.mem_append.1 hu with hu | hu
    · rcases List.mem_append.1 hu with hu | hu
      · obtain ⟨p, hp, rfl⟩ := List.mem_map.1 hu
        have := (h x (by simp)).2 p hp
        cases p <;> first | rfl | exact this.elim
      · simp only [List.mem_cons, List.not_mem_nil, or_false] at hu
        obtain ⟨A, n, c, e⟩ := k x (by simp)
        rw [hu, e]; rfl
    · exact flatR_one (fun y hy => h y (by simp [hy])) (fun y hy => k y (by simp [hy])) u hu
theorem RT.val {w : World} {x : RowE} (h : RT w x) : ∃ A n c, x.val = .slice A n c := by
  obtain ⟨A, c, e⟩ := h.1.rd.bs_sh
  exact ⟨A, _, c, e⟩
/-- A row is kept where another block is written. -/
theorem own_set {w : World} {B s n : Nat} {e : TypeId} {v : Value} {xs : List Value} (h : w.ownsRow B e s v n xs) {g : Nat} (hg : ∀ k, v.ownBlock = some k → k ≠ g) (i : Nat) (u : Value) : (w.setCell ⟨g, i, none⟩ u).ownsRow B e s v n xs := by
  obtain ⟨h1, h2 | ⟨g', cap, cur, rfl, h4, h5, h6⟩⟩ := h
  · exact ⟨h1, .inl h2⟩
  · exact ⟨h1, .inr ⟨g', cap, cur, rfl, h4, (Below.heap_setCell _ _ _ _ (show g' ≠ g from hg g' (by simp [Value.ownBlock]))).trans h5, h6⟩⟩
end Go.Proofs.Ythljdikcpdokdaa

/- Rows of structs that hold plain cells, one slice of bytes, and plain cells again: the row owned, each struct's bytes in a window of its own. -/
namespace Go.Proofs.Ythljdikcpdokdaa
open Go.RowKit Go.Deep

structure RowF where
  pre : List V
  val : Value
  bytes : List Int
  post : List V
  lo : Nat
  hi : Nat
/-- The same without what stands behind the bytes. -/
def RowF.e (x : RowF) : RowE := ⟨x.pre, x.val, x.bytes, x.lo, x.hi⟩
def RowF.vs (x : RowF) : List V := x.pre ++ (.bs x.bytes :: x.post)
def RowF.cs (x : RowF) : List Value := x.pre.map pv ++ (x.val :: x.post.map pv)
def RFok (W : Nat) (x : RowF) : Prop := x.pre.length + 1 + x.post.length = W ∧ (∀ p ∈ x.pre, Pl p) ∧ ∀ p ∈ x.post, Pl p
def flatF (q : List RowF) : List Value := q.flatMap RowF.cs
theorem flatF_app (a b : List RowF) : flatF (a ++ b) = flatF a ++ flatF b := by simp [flatF]
theorem flatF_cons (x : RowF) (q : List RowF) : flatF (x :: q) = x.cs ++ flatF q := rfl
theorem RFok.cs {W : Nat} {x : RowF} (h : RFok W x) : x.cs.length = W := by have := h.1; simp [RowF.cs]; omega
theorem flatF_len {W : Nat} : ∀ {q : List RowF}, (∀ x ∈ q, RFok W x) → (flatF q).length = q.length * W
  | [], _ => by simp [flatF]
  | x :: q, h => by
    rw [flatF_cons, List.length_append, (h x (by simp)).cs, flatF_len (fun y hy => h y (by simp [hy])), List.length_cons, Nat.add_mul]; omega
def RowFp2 (W g o : Nat) (q : List RowF) : Fp := fun a b => (a = g ∧ o ≤ b ∧ b < o + q.length * W) ∨ ∃ x ∈ q, x.lo ≤ a ∧ a < x.hi
theorem OwL.rowsF {w : World} {g W : Nat} : ∀ (q : List RowF) (o : Nat), (∀ x ∈ q, RFok W x) → (∀ x ∈ q, Ow w (.bs x.bytes) (Wn x.lo x.hi) x.val ∧ (g < x.lo ∨ x.hi ≤ g)) → q.Pairwise (fun x y => x.hi ≤ y.lo ∨ y.hi ≤ x.lo) →
    (∀ k, k < q.length * W → w.cell? ⟨g, o + k, none⟩ = (flatF q)[k]? ∧ w.frozen? ⟨g, o + k, none⟩ = false) → OwL w (q.flatMap RowF.vs) (RowFp2 W g o q) g o
  | [], o, _, _, _, _ => by simp only [List.flatMap_nil]; unfold OwL; trivial
  | x :: q, o, hk, h, hp, hc => by
    rw [List.pairwise_cons] at hp
    have hx := h x (by simp)
    have kx := hk x (by simp)
    have hcl := kx.cs
    have hW : x.pre.length + 1 + x.post.length = W := kx.1
    have hmul : (x :: q).length * W = q.length * W + W := by rw [List.length_cons, Nat.add_mul]; omega
    have ih := OwL.rowsF q (o + W) (fun y hy => hk y (by simp [hy])) (fun y hy => h y (by simp [hy])) hp.2 (fun k hk' => by
      have := hc (k + W) (by omega)
      rw [show o + (k + W) = o + W + k by omega] at this
      refine ⟨this.1.trans ?_, this.2⟩
      rw [flatF_cons, List.getElem?_append_right (by omega), hcl, show k + W - W = k by omega])
    have cl := hc x.pre.length (by omega)
    have e1 : (flatF (x :: q))[x.pre.length]? = some x.val := by
      rw [flatF_cons, List.getElem?_append_left (by omega), RowF.cs, List.getElem?_append_right (by simp)]
      simp
    have e2 : ∀ k, k < x.post.length → (flatF (x :: q))[x.pre.length + 1 + k]? = (x.post.map pv)[k]? := fun k hk => by
      rw [flatF_cons, List.getElem?_append_left (by omega), RowF.cs, List.getElem?_append_right (by simp; omega)]
      simp only [List.length_map]
      rw [show x.pre.length + 1 + k - x.pre.length = k + 1 by omega, List.getElem?_cons_succ]
    have e : (x :: q).flatMap RowF.vs = x.pre ++ (.bs x.bytes :: (x.post ++ q.flatMap RowF.vs)) := by simp [RowF.vs]
    have ip := OwL.pre (w := w) (g := g) (T := RowFp2 W g (o + W) q) x.post (o + x.pre.length + 1) (q.flatMap RowF.vs) kx.2.2 (fun k hk' => by
      have := hc (x.pre.length + 1 + k) (by omega)
      rw [e2 k hk', show o + (x.pre.length + 1 + k) = o + x.pre.length + 1 + k by omega] at this
      exact this) (by rw [show o + x.pre.length + 1 + x.post.length = o + W by omega]; exact ih) (fun k hk' => by
      rintro (⟨_, z2, _⟩ | ⟨y, hy, z⟩)
      · omega
      · rcases (h y (by simp [hy])).2 with q | q <;> omega)
    rw [e]
    refine OwL.sub _ ?_ (OwL.pre (T := fun a b => (a = g ∧ o + x.pre.length ≤ b ∧ b < o + (q.length * W + W)) ∨ ∃ y ∈ x :: q, y.lo ≤ a ∧ a < y.hi) x.pre o _ kx.2.1 (fun k hk' => ?_) ?_ ?_)
    · rintro a b (⟨z1, z2, z3⟩ | ⟨z1, z2, z3⟩ | z)
      · exact .inl ⟨z1, z2, by omega⟩
      · exact .inl ⟨z1, by omega, by omega⟩
      · exact .inr z
    · have := hc k (by omega)
      refine ⟨this.1.trans ?_, this.2⟩
      rw [flatF_cons, List.getElem?_append_left (by omega), RowF.cs, List.getElem?_append_left (by simpa using hk')]
    · unfold OwL
      refine ⟨x.val, Wn x.lo x.hi, _, cl.1.trans e1, cl.2, .inl ⟨rfl, by omega, by omega⟩, hx.1, ip, fun a b z => .inr ⟨x, by simp, z.1, z.2⟩, fun a b z => ?_, fun z => ?_, fun z => ?_, fun a b y z => ?_⟩
      · rcases z with ⟨z1, z2, z3⟩ | ⟨z1, z2, z3⟩ | ⟨y, hy, z⟩
        · exact .inl ⟨z1, by omega, by omega⟩
        · exact .inl ⟨z1, by omega, by omega⟩
        · exact .inr ⟨y, by simp [hy], z⟩
      · have := z.1; have := z.2; rcases hx.2 with q | q <;> omega
      · rcases z with ⟨z1, z2, z3⟩ | ⟨z1, z2, z3⟩ | ⟨y, hy, z⟩
        · omega
        · omega
        · rcases (h y (by simp [hy])).2 with q | q <;> omega
      · have y1 := y.1
        have y2 := y.2
        rcases z with ⟨z1, z2, z3⟩ | ⟨z1, z2, z3⟩ | ⟨y, hy, z⟩
        · rcases hx.2 with q | q <;> omega
        · rcases hx.2 with q | q <;> omega
        · rcases hp.1 y hy with q | q <;> omega
    · rintro k hk' (⟨_, z2, _⟩ | ⟨y, hy, z⟩)
      · omega
      · rcases (h y hy).2 with q | q <;> omega
/-- The cells that a row and its bytes hold: the block of the row, the windows. -/
def FpF (v : Value) (q : List RowF) : Fp := fun a _ => v.ownBlock = some a ∨ ∃ x ∈ q, x.lo ≤ a ∧ a < x.hi
def FpE (v : Value) (q : List RowE) : Fp := fun a _ => v.ownBlock = some a ∨ ∃ x ∈ q, x.lo ≤ a ∧ a < x.hi
/-- A row of structs, its block told apart from the bytes' windows: owned by its own cells alone. -/
theorem own_rowsF {w : World} {B n W : Nat} {t : TypeId} {v : Value} {q : List RowF} (h : w.ownsRow B t W v n (flatF q)) (hn : q.length = n) (hk : ∀ x ∈ q, RFok W x) (hq : ∀ x ∈ q, OwV x.lo x.hi w (.bs x.bytes) x.val)
    (hg : ∀ g cs, B ≤ g → w.heap[g]? = some (.cells cs t (0, 0)) → ∀ x ∈ q, g < x.lo ∨ x.hi ≤ g) (hp : q.Pairwise (fun x y => x.hi ≤ y.lo ∨ y.hi ≤ x.lo)) :
    Ow w (.st n (q.flatMap RowF.vs)) (FpF v q) v := by
  obtain ⟨h1, ⟨rfl, h0⟩ | ⟨g, cap, cur, rfl, hB, hc, hnc, hm, hs, ht⟩⟩ := h
  · unfold Ow
    have : q = [] := List.eq_nil_of_length_eq_zero (by omega)
    subst this
    exact ⟨none, 0, by rw [h0], ⟨by omega, by simp⟩, .inl ⟨h0, rfl⟩⟩
  · have K : Blk w g t cur := hc
    unfold Ow
    unfold maxLen at hm
    refine ⟨_, cap, rfl, ⟨hnc, by omega⟩, .inr ⟨g, 0, rfl, K.lt, OwL.sub _ ?_ (OwL.rowsF q 0 hk (fun x hx => ⟨(hq x hx).2, hg g cur hB hc x hx⟩) hp (fun k hk' => ⟨?_, K.frozen _⟩))⟩⟩
    · rintro a b (⟨z1, _, _⟩ | z)
      · exact .inl (by simp [Value.ownBlock, z1])
      · exact .inr z
    · rw [Nat.zero_add, K.cell, ← Array.getElem?_toList, ← ht, List.getElem?_take_of_lt (by rw [← hn]; omega)]
theorem own_rowsE {w : World} {B n W : Nat} {t : TypeId} {v : Value} {q : List RowE} (h : w.ownsRow B t W v n (flatR q)) (hn : q.length = n) (hk : ∀ x ∈ q, REok W x) (hq : ∀ x ∈ q, OwV x.lo x.hi w (.bs x.bytes) x.val)
    (hg : ∀ g cs, B ≤ g → w.heap[g]? = some (.cells cs t (0, 0)) → ∀ x ∈ q, g < x.lo ∨ x.hi ≤ g) (hp : q.Pairwise (fun x y => x.hi ≤ y.lo ∨ y.hi ≤ x.lo)) :
    Ow w (.st n (q.flatMap RowE.vs)) (FpE v q) v := by
  obtain ⟨h1, ⟨rfl, h0⟩ | ⟨g, cap, cur, rfl, hB, hc, hnc, hm, hs, ht⟩⟩ := h
  · unfold Ow
    have : q = [] := List.eq_nil_of_length_eq_zero (by omega)
    subst this
    exact ⟨none, 0, by rw [h0], ⟨by omega, by simp⟩, .inl ⟨h0, rfl⟩⟩
  · have K : Blk w g t cur := hc
    unfold Ow
    unfold maxLen at hm
    refine ⟨_, cap, rfl, ⟨hnc, by omega⟩, .inr ⟨g, 0, rfl, K.lt, OwL.sub _ ?_ (OwL.rows q 0 hk (fun x hx => ⟨(hq x hx).2, hg g cur hB hc x hx⟩) hp (fun k hk' => ⟨?_, K.frozen _⟩))⟩⟩
    · rintro a b (⟨z1, _, _⟩ | z)
      · exact .inl (by simp [Value.ownBlock, z1])
      · exact .inr z
    · rw [Nat.zero_add, K.cell, ← Array.getElem?_toList, ← ht, List.getElem?_take_of_lt (by rw [← hn]; omega)]
/-- Owned entries of such a row. -/
def RFs (B : Nat) (w : World) (q : List RowF) : Prop := RTs B w (q.map RowF.e)
theorem RFs.nil (B : Nat) (w : World) : RFs B w [] := RTs.nil B w
theorem RFs.turn {B : Nat} {w w' : World} {q : List RowF} (h : RFs B w q) (hs : w.heap.size ≤ w'.heap.size) (hu : B8 w w') : RFs B w' q := RTs.turn h hs hu
theorem RFs.mem {B : Nat} {w : World} {q : List RowF} (h : RFs B w q) : ∀ x ∈ q, RT w x.e ∧ B ≤ x.lo := fun x hx => h.1 x.e (List.mem_map_of_mem hx)
theorem RFs.apart {B : Nat} {w : World} {q : List RowF} (h : RFs B w q) : q.Pairwise (fun x y => x.hi ≤ y.lo ∨ y.hi ≤ x.lo) := List.pairwise_map.1 h.2
theorem RFs.top {B : Nat} {w : World} {q : List RowF} (h : RFs B w q) : ∀ x ∈ q, x.hi ≤ w.heap.size := fun x hx => (h.mem x hx).1.1.1
theorem RFs.snoc {B : Nat} {w : World} {q : List RowF} {x : RowF} (h : RFs B w q) (hx : RT w x.e) (hB : B ≤ x.lo) (hl : ∀ y ∈ q, y.hi ≤ x.lo) : RFs B w (q ++ [x]) := by
  unfold RFs
  rw [List.map_append]
  exact RTs.snoc h hx hB (fun y hy => by obtain ⟨z, hz, rfl⟩ := List.mem_map.1 hy; exact hl z hz)
theorem RFs.own1 {w : World} {B B0 n W : Nat} {t : TypeId} {v : Value} {q : List RowF} (h : w.ownsRow B t W v n (flatF q)) (hn : q.length = n) (hk : ∀ x ∈ q, RFok W x) (ht : t ≠ 5) (hq : RFs B0 w q) : Ow w (.st n (q.flatMap RowF.vs)) (FpF v q) v :=
  own_rowsF h hn hk (fun x hx => (hq.mem x hx).1.1) (fun _ _ _ hh x hx => (hq.mem x hx).1.far ht hh) hq.apart
theorem RTs.own1 {w : World} {B B0 n W : Nat} {t : TypeId} {v : Value} {q : List RowE} (h : w.ownsRow B t W v n (flatR q)) (hn : q.length = n) (hk : ∀ x ∈ q, REok W x) (ht : t ≠ 5) (hq : RTs B0 w q) : Ow w (.st n (q.flatMap RowE.vs)) (FpE v q) v :=
  own_rowsE h hn hk (fun x hx => (hq.1 x hx).1.1) (fun _ _ _ hh x hx => (hq.1 x hx).1.far ht hh) hq.2
theorem own_block {w : World} {B s n : Nat} {e : TypeId} {v : Value} {xs : List Value} (h : w.ownsRow B e s v n xs) {k : Nat} (hk : v.ownBlock = some k) : B ≤ k ∧ k < w.heap.size ∧ ∃ cs, w.heap[k]? = some (.cells cs e (0, 0)) := by
  obtain ⟨_, ⟨rfl, _⟩ | ⟨g, cap, cur, rfl, h4, h5, _⟩⟩ := h
  · simp [Value.ownBlock] at hk
  · simp [Value.ownBlock] at hk
    subst hk
    exact ⟨h4, (Array.getElem?_eq_some_iff.1 h5).1, cur, h5⟩
theorem RFs.own {w : World} {B0 B n W : Nat} {t : TypeId} {v : Value} {q : List RowF} (h : w.ownsRow B t W v n (flatF q)) (hn : q.length = n) (hk : ∀ x ∈ q, RFok W x) (ht : t ≠ 5) (h00 : B0 ≤ B) (hq : RFs B0 w q) : OwV B0 w.heap.size w (.st n (q.flatMap RowF.vs)) v := by
  refine ⟨Nat.le_refl _, Ow.sub _ ?_ (RFs.own1 h hn hk ht hq)⟩
  rintro a b (z | ⟨x, hx, z1, z2⟩)
  · have := own_block h z; exact ⟨by omega, this.2.1⟩
  · have h1 := hq.top x hx; have h2 := (hq.mem x hx).2; exact ⟨by omega, by omega⟩
theorem flatF_one {W : Nat} : ∀ {q : List RowF}, (∀ x ∈ q, RFok W x) → (∀ x ∈ q, ∃ A n c, x.val = .slice A n c) → ∀ u ∈ flatF q, u.oneCell' = true
  | [], _, _, u, hu => by simp [flatF] at hu
  | x :: q, h, k, u, hu => by
    have hpl : ∀ p : V, Pl p → (pv p).oneCell' = true := fun p hp => by cases p <;> first | rfl | exact hp.elim
    rw [flatF_cons] at hu
    rcases List.mem_append.1 hu with hu | hu
    · rcases List.mem_append.1 hu with hu | hu
      · obtain ⟨p, hp, rfl⟩ := List.mem_map.1 hu
        exact hpl p ((h x (by simp)).2.1 p hp)
      · rcases List.mem_cons.1 hu with rfl | hu
        · obtain ⟨A, n, c, e⟩ := k x (by simp)
          rw [e]; rfl
        · obtain ⟨p, hp, rfl⟩ := List.mem_map.1 hu
          exact hpl p ((h x (by simp)).2.2 p hp)
    · exact flatF_one (fun y hy => h y (by simp [hy])) (fun y hy => k y (by simp [hy])) u hu
end Go.Proofs.Ythljdikcpdokdaa
