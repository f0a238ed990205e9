import Derived.Test.YtacdnednkglobaaMa2
import Derived.Test.YtacdnednkglobaaMa5
import Derived.Test.YtacdnednkglobaaMa6
import Derived.Maps.AppendAt
import Derived.Test.YtacdnednkglobaaMa8
import Derived.Test.YtacdnednkglobaaMa0

/- Rows of structs that hold plain cells (numbers, bools) and then one slice of bytes: the row owned, each struct's bytes in a window of its own. -/
namespace Go.Proofs.Ytacdnednkglobaa
open Go.RowKit Go.Deep

/-- A plain cell, its value. -/
def pv : V → Value
  | .int n => .int .i64 n
  | .bool b => .bool b
  | _ => .int .i64 0
def Pl : V → Prop
  | .int _ => True
  | .bool _ => True
  | _ => False
structure RE where
  pre : List V
  val : Value
  bytes : List Int
  lo : Nat
  hi : Nat
def RE.vs (x : RE) : List V := x.pre ++ [.bs x.bytes]
def RE.cs (x : RE) : List Value := x.pre.map pv ++ [x.val]
def REok (W : Nat) (x : RE) : Prop := x.pre.length + 1 = W ∧ ∀ p ∈ x.pre, Pl p
def flatR (q : List RE) : List Value := q.flatMap RE.cs
theorem flatR_app (a b : List RE) : flatR (a ++ b) = flatR a ++ flatR b := by simp [flatR]
theorem flatR_cons (x : RE) (q : List RE) : flatR (x :: q) = x.cs ++ flatR q := rfl
theorem REok.cs {W : Nat} {x : RE} (h : REok W x) : x.cs.length = W := by simp [RE.cs, h.1]
theorem flatR_len {W : Nat} : ∀ {q : List RE}, (∀ x ∈ q, REok W x) → (flatR q).length = q.length * W
  | [], _ => by simp [flatR]
  | x :: q, h => by
    rw [flatR_cons, List.length_append, (h x (by simp)).cs, flatR_len (fun y hy => h y (by simp [hy])), List.length_cons, Nat.add_mul]; omega
theorem Ow.pv {w : World} {S : Fp} : ∀ {p : V}, Pl p → Ow w p S (pv p)
  | .int _, _ => by unfold Ow; rfl
  | .bool _, _ => by unfold Ow; rfl
  | .bs _, h => h.elim
  | .is _, h => h.elim
  | .st _ _, h => h.elim
/-- The plain cells ahead of the rest. -/
theorem OwL.pre {w : World} {g : Nat} {T : Fp} : ∀ (ps : List V) (o : Nat) (rest : List V), (∀ p ∈ ps, Pl p) → (∀ k, k < ps.length → w.cell? ⟨g, o + k, none⟩ = (ps.map pv)[k]? ∧ w.frozen? ⟨g, o + k, none⟩ = false) →
    OwL w rest T g (o + ps.length) → (∀ k, k < ps.length → ¬ T g (o + k)) → OwL w (ps ++ rest) (fun a b => (a = g ∧ o ≤ b ∧ b < o + ps.length) ∨ T a b) g o
  | [], o, rest, _, _, h, _ => by
    rw [List.nil_append]
    exact OwL.sub _ (fun a b z => .inr z) (by simpa using h)
  | p :: ps, o, rest, hp, hc, h, hT => by
    have ih := OwL.pre ps (o + 1) rest (fun y hy => hp y (by simp [hy])) (fun k hk => by
      have := hc (k + 1) (by simp; omega)
      rw [show o + (k + 1) = o + 1 + k by omega] at this
      simpa using this) (by rw [List.length_cons] at h; rwa [show o + 1 + ps.length = o + (ps.length + 1) by omega]) (fun k hk => by
      have := hT (k + 1) (by simp; omega)
      rwa [show o + (k + 1) = o + 1 + k by omega] at this)
    have c0 := hc 0 (by simp)
    rw [List.cons_append]
    unfold OwL
    refine ⟨pv p, fun _ _ => False, _, by simpa using c0.1, by simpa using c0.2, .inl ⟨rfl, Nat.le_refl _, by simp⟩, Ow.pv (hp p (by simp)), ih, fun _ _ z => z.elim, ?_, fun z => z.elim, ?_, fun _ _ z => z.elim⟩
    · rintro a b (⟨z1, z2, z3⟩ | z)
      · exact .inl ⟨z1, by omega, by simp; omega⟩
      · exact .inr z
    · rintro (⟨_, z2, _⟩ | z)
      · omega
      · exact hT 0 (by simp) (by simpa using z)
def RowFp (W g o : Nat) (q : List RE) : Fp := fun a b => (a = g ∧ o ≤ b ∧ b < o + q.length * W) ∨ ∃ x ∈ q, x.lo ≤ a ∧ a < x.hi
theorem OwL.rows {w : World} {g W : Nat} : ∀ (q : List RE) (o : Nat), (∀ x ∈ q, REok W x) → (∀ x ∈ q, Ow w (.bs x.bytes) (Wn x.lo x.hi) x.val ∧ (g < x.lo ∨ x.hi ≤ g)) → q.Pairwise (fun x y => x.hi ≤ y.lo ∨ y.hi ≤ x.lo) →
    (∀ k, k < q.length * W → w.cell? ⟨g, o + k, none⟩ = (flatR q)[k]? ∧ w.frozen? ⟨g, o + k, none⟩ = false) → OwL w (q.flatMap RE.vs) (RowFp W g o q) g o
  | [], o, _, _, _, _ => by simp only [List.flatMap_nil]; unfold OwL; trivial
  | x :: q, o, hk, h, hp, hc => by
    rw [List.pairwise_cons] at hp
    have hx := h x (by simp)
    have kx := hk x (by simp)
    have hcl := kx.cs
    have hW : x.pre.length + 1 = W := kx.1
    have hmul : (x :: q).length * W = q.length * W + W := by rw [List.length_cons, Nat.add_mul]; omega
    have ih := OwL.rows q (o + W) (fun y hy => hk y (by simp [hy])) (fun y hy => h y (by simp [hy])) hp.2 (fun k hk' => by
      have := hc (k + W) (by omega)
      rw [show o + (k + W) = o + W + k by omega] at this
      refine ⟨this.1.trans ?_, this.2⟩
      rw [flatR_cons, List.getElem?_append_right (by omega), hcl, show k + W - W = k by omega])
    have cl := hc x.pre.length (by omega)
    have e1 : (flatR (x :: q))[x.pre.length]? = some x.val := by
      rw [flatR_cons, List.getElem?_append_left (by omega), RE.cs, List.getElem?_append_right (by simp)]
      simp
    have e : (x :: q).flatMap RE.vs = x.pre ++ (.bs x.bytes :: q.flatMap RE.vs) := by simp [RE.vs]
    rw [e]
    refine OwL.sub _ ?_ (OwL.pre (T := fun a b => (a = g ∧ o + x.pre.length ≤ b ∧ b < o + (q.length * W + W)) ∨ ∃ y ∈ x :: q, y.lo ≤ a ∧ a < y.hi) x.pre o _ kx.2 (fun k hk' => ?_) ?_ ?_)
    · rintro a b (⟨z1, z2, z3⟩ | ⟨z1, z2, z3⟩ | z)
      · exact .inl ⟨z1, z2, by omega⟩
      · exact .inl ⟨z1, by omega, by omega⟩
      · exact .inr z
    · have := hc k (by omega)
      refine ⟨this.1.trans ?_, this.2⟩
      rw [flatR_cons, List.getElem?_append_left (by omega), RE.cs, List.getElem?_append_left (by simpa using hk')]
    · unfold OwL
      refine ⟨x.val, Wn x.lo x.hi, RowFp W g (o + W) q, cl.1.trans e1, cl.2, .inl ⟨rfl, by omega, by omega⟩, hx.1, by rw [show o + x.pre.length + 1 = o + W by omega]; exact ih, fun a b z => .inr ⟨x, by simp, z.1, z.2⟩, fun a b z => ?_, fun z => ?_, fun z => ?_, fun a b y z => ?_⟩
      · rcases z with ⟨z1, z2, z3⟩ | ⟨y, hy, z⟩
        · exact .inl ⟨z1, by omega, by omega⟩
        · exact .inr ⟨y, by simp [hy], z⟩
      · have := z.1; have := z.2; rcases hx.2 with q | q <;> omega
      · rcases z with ⟨z1, z2, z3⟩ | ⟨y, hy, z⟩
        · omega
        · rcases (h y (by simp [hy])).2 with q | q <;> omega
      · have y1 := y.1
        have y2 := y.2
        rcases z with ⟨z1, z2, z3⟩ | ⟨y, hy, z⟩
        · rcases hx.2 with q | q <;> omega
        · rcases hp.1 y hy with q | q <;> omega
    · rintro k hk' (⟨_, z2, _⟩ | ⟨y, hy, z⟩)
      · omega
      · rcases (h y hy).2 with q | q <;> omega
/-- A row of structs, its block told apart from the bytes' windows. -/
theorem own_rows {w : World} {B0 B n W : Nat} {t : TypeId} {v : Value} {q : List RE} (h : w.ownsRow B t W v n (flatR q)) (hn : q.length = n) (hk : ∀ x ∈ q, REok W x) (h00 : B0 ≤ B) (hq : ∀ x ∈ q, OwV x.lo x.hi w (.bs x.bytes) x.val ∧ B0 ≤ x.lo)
    (hg : ∀ g cs, B ≤ g → w.heap[g]? = some (.cells cs t (0, 0)) → ∀ x ∈ q, g < x.lo ∨ x.hi ≤ g) (hp : q.Pairwise (fun x y => x.hi ≤ y.lo ∨ y.hi ≤ x.lo)) :
    OwV B0 w.heap.size w (.st n (q.flatMap RE.vs)) v := by
  refine ⟨Nat.le_refl _, ?_⟩
  obtain ⟨h1, ⟨rfl, h0⟩ | ⟨g, cap, cur, rfl, hB, hc, hnc, hm, hs, ht⟩⟩ := h
  · unfold Ow
    have : q = [] := List.eq_nil_of_length_eq_zero (by omega)
    subst this
    exact ⟨none, 0, by rw [h0], ⟨by omega, by simp⟩, .inl ⟨h0, rfl⟩⟩
  · have K : Blk w g t cur := hc
    unfold Ow
    unfold maxLen at hm
    refine ⟨_, cap, rfl, ⟨hnc, by omega⟩, .inr ⟨g, 0, rfl, K.lt, OwL.sub _ ?_ (OwL.rows q 0 hk (fun x hx => ⟨(hq x hx).1.2, hg g cur hB hc x hx⟩) hp (fun k hk' => ⟨?_, K.frozen _⟩))⟩⟩
    · rintro a b (⟨z1, _, _⟩ | ⟨x, hx, z1, z2⟩)
      · exact ⟨by omega, by have := K.lt; omega⟩
      · exact ⟨by have := (hq x hx).2; omega, by have := (hq x hx).1.1; omega⟩
    · rw [Nat.zero_add, K.cell, ← Array.getElem?_toList, ← ht, List.getElem?_take_of_lt (by rw [← hn]; omega)]

/-! Bytes' blocks told apart by their type. -/
def B8 (w w' : World) : Prop := ∀ (g : Nat) (cs : Array Value), w.heap[g]? = some (.cells cs 5 (0, 0)) → w'.heap[g]? = some (.cells cs 5 (0, 0))
theorem B8.refl (w : World) : B8 w w := fun _ _ h => h
theorem B8.trans {a b c : World} (h : B8 a b) (k : B8 b c) : B8 a c := fun g cs e => k g cs (h g cs e)
theorem B8.of_below {w w' : World} (hb : Below w.heap.size w w') : B8 w w' := fun g _ e => (hb.block g (Array.getElem?_eq_some_iff.1 e).1).trans e
theorem B8.of_grown {w w' : World} {B s n : Nat} {t : TypeId} {v : Value} {xs : List Value} (hg : w.grownBy w' v.ownBlock) (h2 : w.ownsRow B t s v n xs) (ht : t ≠ 5) : B8 w w' := fun g cs e => by
  refine (hg.block g (Array.getElem?_eq_some_iff.1 e).1 (fun q => ?_)).trans e
  obtain ⟨_, ⟨rfl, _⟩ | ⟨g2, cap2, cur2, rfl, _, k5, _⟩⟩ := h2
  · simp [Value.ownBlock] at q
  · simp [Value.ownBlock] at q
    subst q
    rw [e] at k5
    injection k5 with k5
    injection k5 with _ k5 _
    exact absurd k5.symm ht
theorem B8.of_win {w w' : World} {g : Nat} {t : TypeId} {cs : Array Value} (hw : Win g (g + 1) w w') (hb : Blk w g t cs) (ht : t ≠ 5) : B8 w w' := fun k ks e => by
  have hne : k ≠ g := fun q => by
    have hb' : w.heap[g]? = some (.cells cs t (0, 0)) := hb
    rw [← q, e] at hb'
    injection hb' with hb'
    injection hb' with _ hb' _
    exact ht hb'.symm
  exact (hw.block k (Array.getElem?_eq_some_iff.1 e).1 (by omega)).trans e
def RT (w : World) (x : RE) : Prop := OwV x.lo x.hi w (.bs x.bytes) x.val ∧ (x.hi ≤ x.lo ∨ (x.hi = x.lo + 1 ∧ ∃ cs, w.heap[x.lo]? = some (.cells cs 5 (0, 0))))
theorem RT.turn {w w' : World} {x : RE} (h : RT w x) (hs : w.heap.size ≤ w'.heap.size) (hu : B8 w w') : RT w' x := by
  obtain ⟨h1, h2⟩ := h
  have hk : Kept (Wn x.lo x.hi) w w' := by
    rcases h2 with h2 | ⟨h2, cs, h3⟩
    · exact ⟨hs, fun g o _ z => by have := z.1; have := z.2; omega, fun g o _ z => by have := z.1; have := z.2; omega⟩
    · have e : w'.heap[x.lo]? = w.heap[x.lo]? := (hu _ _ h3).trans h3.symm
      refine ⟨hs, fun g o _ z => ?_, fun g o _ z => ?_⟩
      · obtain rfl : x.lo = g := by have := z.1; have := z.2; omega
        exact World.cell?_of_block (a := ⟨x.lo, o, none⟩) e
      · obtain rfl : x.lo = g := by have := z.1; have := z.2; omega
        exact World.frozen?_of_block (a := ⟨x.lo, o, none⟩) e
  refine ⟨⟨Nat.le_trans h1.1 hs, Ow.kept _ hk h1.2⟩, ?_⟩
  rcases h2 with h2 | ⟨h2, cs, h3⟩
  · exact .inl h2
  · exact .inr ⟨h2, cs, hu _ _ h3⟩
theorem RT.of_row {w : World} {B c : Nat} {A : Option Addr} {l : List Int} (h : w.ownsRow B 5 1 (.slice A l.length c) l.length (l.map (Value.int .u8))) (hB : B ≤ w.heap.size) (ps : List V) :
    ∃ lo hi, B ≤ lo ∧ RT w ⟨ps, .slice A l.length c, l, lo, hi⟩ := by
  obtain ⟨A', cp, e, ob, k1, k2⟩ := own_ob h
  injection e with e1 _ e3
  subst e1 e3
  by_cases hl : l = []
  · exact ⟨B, B, Nat.le_refl _, ⟨hB, by unfold Ow; exact ⟨A, c, rfl, ⟨k1, k2⟩, .inl hl⟩⟩, .inl (Nat.le_refl _)⟩
  · have h0 : 0 < l.length := List.length_pos_iff.2 hl
    obtain ⟨_, ⟨_, h9⟩ | ⟨g, cap, cur, h3, h4, h5, _⟩⟩ := h
    · omega
    · injection h3 with h3 _ _
      rcases ob with q | ⟨b, off, q1, q2, q3, q4, q5⟩
      · exact absurd q hl
      · rw [h3] at q1
        have e1 : g = b := by simpa using congrArg (fun z => z.map Addr.block) q1
        have e2 : (0 : Nat) = off := by simpa using congrArg (fun z => z.map Addr.off) q1
        subst e1 e2
        have hg := (Array.getElem?_eq_some_iff.1 h5).1
        exact ⟨g, g + 1, h4, Ob.owv (.inr ⟨g, 0, h3, Nat.le_refl _, Nat.lt_succ_self _, hg, q5⟩) hg ⟨k1, k2⟩, .inr ⟨rfl, cur, h5⟩⟩
theorem RT.far {w : World} {x : RE} (h : RT w x) {t : TypeId} (ht : t ≠ 5) {g : Nat} {cs : Array Value} (hg : w.heap[g]? = some (.cells cs t (0, 0))) : g < x.lo ∨ x.hi ≤ g := by
  rcases h.2 with h2 | ⟨h2, cs2, h3⟩
  · omega
  · have : g ≠ x.lo := fun e => by
      rw [e, h3] at hg
      injection hg with hg
      injection hg with _ hg _
      exact ht hg.symm
    omega
/-- Owned entries, each in a window of its own. -/
def RTs (B : Nat) (w : World) (q : List RE) : Prop := (∀ x ∈ q, RT w x ∧ B ≤ x.lo) ∧ q.Pairwise (fun x y => x.hi ≤ y.lo ∨ y.hi ≤ x.lo)
theorem RTs.nil (B : Nat) (w : World) : RTs B w [] := ⟨fun _ h => by simp at h, List.Pairwise.nil⟩
theorem RTs.turn {B : Nat} {w w' : World} {q : List RE} (h : RTs B w q) (hs : w.heap.size ≤ w'.heap.size) (hu : B8 w w') : RTs B w' q := ⟨fun x hx => ⟨(h.1 x hx).1.turn hs hu, (h.1 x hx).2⟩, h.2⟩
theorem RTs.snoc {B : Nat} {w : World} {q : List RE} {x : RE} (h : RTs B w q) (hx : RT w x) (hB : B ≤ x.lo) (hl : ∀ y ∈ q, y.hi ≤ x.lo) : RTs B w (q ++ [x]) :=
  ⟨fun y hy => by
    rcases List.mem_append.1 hy with hy | hy
    · exact h.1 y hy
    · simp at hy; subst hy; exact ⟨hx, hB⟩, List.pairwise_append.2 ⟨h.2, by simp, fun y hy z hz => by simp at hz; subst hz; exact .inl (hl y hy)⟩⟩
theorem RTs.top {B : Nat} {w : World} {q : List RE} (h : RTs B w q) : ∀ x ∈ q, x.hi ≤ w.heap.size := fun x hx => (h.1 x hx).1.1.1
theorem RTs.own {w : World} {B0 B n W : Nat} {t : TypeId} {v : Value} {q : List RE} (h : w.ownsRow B t W v n (flatR q)) (hn : q.length = n) (hk : ∀ x ∈ q, REok W x) (ht : t ≠ 5) (h00 : B0 ≤ B) (hq : RTs B0 w q) : OwV B0 w.heap.size w (.st n (q.flatMap RE.vs)) v :=
  own_rows h hn hk h00 (fun x hx => ⟨(hq.1 x hx).1.1, (hq.1 x hx).2⟩) (fun _ _ _ hh x hx => (hq.1 x hx).1.far ht hh) hq.2

/-! Rows of other types; a row's own block. -/
theorem own_otherT {w w' : World} {B B2 s s2 n n2 : Nat} {e e2 : TypeId} {v v2 : Value} {xs xs2 : List Value} (h : w.ownsRow B e s v n xs) (hg : w.grownBy w' v2.ownBlock) (h2 : w.ownsRow B2 e2 s2 v2 n2 xs2) (ht : e ≠ e2) : w'.ownsRow B e s v n xs := by
  obtain ⟨h1, h3 | ⟨g, cap, cur, h3, h4, h5, h6⟩⟩ := h
  · exact ⟨h1, .inl h3⟩
  · refine ⟨h1, .inr ⟨g, cap, cur, h3, h4, (hg.block g (Array.getElem?_eq_some_iff.1 h5).1 (fun q => ?_)).trans h5, h6⟩⟩
    obtain ⟨_, ⟨rfl, _⟩ | ⟨g2, cap2, cur2, rfl, _, k5, _⟩⟩ := h2
    · simp [Value.ownBlock] at q
    · simp [Value.ownBlock] at q
      subst q
      rw [h5] at k5
      injection k5 with k5
      injection k5 with _ k5 _
      exact ht k5
theorem own_farT {w : World} {B s n g : Nat} {e t : TypeId} {v : Value} {xs : List Value} {cs : Array Value} (h : w.ownsRow B e s v n xs) (k : Blk w g t cs) (ht : t ≠ e) (i : Nat) (u : Value) : (w.setCell ⟨g, i, none⟩ u).ownsRow B e s v n xs := by
  obtain ⟨h1, h2 | ⟨g', cap, cur, h3, h4, h5, h6⟩⟩ := h
  · exact ⟨h1, .inl h2⟩
  · refine ⟨h1, .inr ⟨g', cap, cur, h3, h4, (Below.heap_setCell _ _ _ _ (show g' ≠ g from fun q => ?_)).trans h5, h6⟩⟩
    subst q
    have k' : w.heap[g']? = some (.cells cs t (0, 0)) := k
    rw [h5] at k'
    injection k' with k'
    injection k' with _ k' _
    exact ht k'.symm
theorem own_keptT {w w' : World} {B g s n : Nat} {e : TypeId} {v : Value} {xs : List Value} (h : w.ownsRow B e s v n xs) (hw : Win g (g + 1) w w') (hg : g < B) : w'.ownsRow B e s v n xs := by
  obtain ⟨h1, h2 | ⟨g', cap, cur, h3, h4, h5, h6⟩⟩ := h
  · exact ⟨h1, .inl h2⟩
  · exact ⟨h1, .inr ⟨g', cap, cur, h3, h4, (hw.block g' (Array.getElem?_eq_some_iff.1 h5).1 (.inr (by omega))).trans h5, h6⟩⟩
theorem own_lenT {w : World} {B s n : Nat} {e : TypeId} {v : Value} {xs : List Value} (h : w.ownsRow B e s v n xs) : ∃ (A : Option Addr) (c : Nat), v = .slice A n c := by
  obtain ⟨_, ⟨h2, h3⟩ | ⟨g, cap, cur, h3, _⟩⟩ := h
  · exact ⟨none, 0, by rw [h2, h3]⟩
  · exact ⟨_, _, h3⟩
theorem own_monoT {w : World} {B B' s n : Nat} {e : TypeId} {v : Value} {xs : List Value} (h : w.ownsRow B e s v n xs) (hB : B' ≤ B) : w.ownsRow B' e s v n xs := by
  obtain ⟨h1, h2 | ⟨g, cap, cur, h3, h4, h5⟩⟩ := h
  · exact ⟨h1, .inl h2⟩
  · exact ⟨h1, .inr ⟨g, cap, cur, h3, Nat.le_trans hB h4, h5⟩⟩
theorem own_cellsT {w : World} {B s n : Nat} {e : TypeId} {v : Value} {xs : List Value} (h : w.ownsRow B e s v n xs) : ∃ (A : Option Addr) (c : Nat), v = .slice A n c ∧ ∀ j, j < n * s → ∃ g, A = some ⟨g, 0, none⟩ ∧ B ≤ g ∧ g < w.heap.size ∧ ∀ t, t < n * s → w.cell? ⟨g, t, none⟩ = xs[t]? := by
  have h' := h
  obtain ⟨h1, ⟨rfl, h0⟩ | ⟨g, cap, cur, rfl, h4, h5, h6⟩⟩ := h
  · exact ⟨none, 0, by rw [h0], fun j hj => by rw [h0] at hj; omega⟩
  · exact ⟨_, _, rfl, fun j hj => ⟨g, rfl, h4, (Array.getElem?_eq_some_iff.1 h5).1, fun t ht => h'.cellAt t ht⟩⟩
/-- A row of any struct type: one struct appended, out of a new block. -/
theorem wpList_append_row {w : World} {ops : Array Oper} {rest : List Oper} {o : Oper} {a : Act} {Q : Exit → Act → World → Prop} (hgd : o.guard = none) (s x : Operand) {T e : TypeId} {W by_ : Nat} {z : Value}
    (hT : Try.prog.underlying T = some (.slice e)) (hinfo : (Try.prog.info? e).map (fun i => (i.zero, i.size, i.bytes)) = some (some z, W, by_)) (hz : z.cells.size = W) (hW : 0 < W) (hby : by_ ≤ 1000)
    (ho : o.op = .call { callee := .builtin .append, args := #[s, x], argTypes := #[T, T] })
    (base : Nat) (v : Value) (n : Nat) (xs : List Value) (hs : a.eval s = v) (hown : w.ownsRow base e W v n xs)
    (q m c : Nat) (news : List Value) (hx : a.eval x = .slice (some ⟨q, 0, none⟩) m c) (hl : news.length = m * W) (hq : ∀ j u, news[j]? = some u → w.cell? ⟨q, j, none⟩ = some u) (h1c : ∀ u ∈ news, u.oneCell' = true) (hm : n + m ≤ 100000) (hbase : base ≤ w.heap.size)
    (h : ∀ v' w', w'.ownsRow base e W v' (n + m) (xs ++ news) → w.grownBy w' v.ownBlock → (v'.ownBlock = v.ownBlock ∨ v'.ownBlock = some w.heap.size) → wpList Try.prog ops Q rest (a.put o.dst v') w') : wpList Try.prog ops Q (o :: rest) a w := by
  obtain ⟨i0, hi, hzz⟩ := Option.map_eq_some_iff.1 hinfo
  simp only [Prod.mk.injEq] at hzz
  obtain ⟨hz0, hz1, hz2⟩ := hzz
  refine wpList_append_own_at w hgd s x T ho base e i0 z W by_ hT hi hz0 hz1 hz2 hz hW v n xs hs hown ⟨q, 0, none⟩ m c news hx hl
    (fun j u hu => ?_) h1c (by unfold maxLen; omega) (by have := Nat.mul_le_mul hm hby; omega) hbase (fun v' w' h1 h2 _ h4 => h v' w' h1 h2 h4)
  have e : (⟨q, 0, none⟩ : Addr).add j = ⟨q, j, none⟩ := by rw [show (⟨q, 0, none⟩ : Addr).add j = ⟨q, 0 + j, none⟩ by unfold Addr.add; split <;> simp_all, Nat.zero_add]
  rw [e]
  exact hq j u hu
/-- A row of structs appended to a row of structs. -/
theorem wpList_append_rows {w : World} {ops : Array Oper} {rest : List Oper} {o : Oper} {a : Act} {Q : Exit → Act → World → Prop} (hgd : o.guard = none) (s x : Operand) {T e : TypeId} {W by_ : Nat} {z : Value}
    (hT : Try.prog.underlying T = some (.slice e)) (hinfo : (Try.prog.info? e).map (fun i => (i.zero, i.size, i.bytes)) = some (some z, W, by_)) (hz : z.cells.size = W) (hW : 0 < W) (hby : by_ ≤ 1000)
    (ho : o.op = .call { callee := .builtin .append, args := #[s, x], argTypes := #[T, T] })
    (base : Nat) (v : Value) (n : Nat) (xs : List Value) (hs : a.eval s = v) (hown : w.ownsRow base e W v n xs)
    (base2 m : Nat) (v2 : Value) (ys : List Value) (hx : a.eval x = v2) (hown2 : w.ownsRow base2 e W v2 m ys) (h1c : ∀ u ∈ ys, u.oneCell' = true) (hm : n + m ≤ 100000) (hbase : base ≤ w.heap.size)
    (h : ∀ v' w', w'.ownsRow base e W v' (n + m) (xs ++ ys) → w.grownBy w' v.ownBlock → (v'.ownBlock = v.ownBlock ∨ v'.ownBlock = some w.heap.size) → wpList Try.prog ops Q rest (a.put o.dst v') w') : wpList Try.prog ops Q (o :: rest) a w := by
  have h' := hown2
  obtain ⟨hl2, ⟨rfl, h0⟩ | ⟨g, cap, cur, rfl, h4, h5, h6⟩⟩ := hown2
  · obtain ⟨i0, hi, hzz⟩ := Option.map_eq_some_iff.1 hinfo
    simp only [Prod.mk.injEq] at hzz
    have hy : ys = [] := List.eq_nil_of_length_eq_zero (by rw [hl2, h0]; omega)
    subst h0 hy
    refine wpList_plain hgd fun K hK => ?_
    have hrun := run_append_of_nil (P := Try.prog) w base T o.type e i0 W hT hi v n xs hown 0
    unfold Oper.wp
    simp [execOp, ho, resolve, invoke, builtin, hs, hx, hrun, Result.andThen]
    exact hK _ _ (h v w (by simpa using hown) (World.grownBy.refl w _) (.inl rfl))
  · exact wpList_append_row hgd s x hT hinfo hz hW hby ho base v n xs hs hown g m cap ys hx hl2 (fun j u hu => (h'.cellAt j (by rw [← hl2]; exact (List.getElem?_eq_some_iff.1 hu).1)).trans hu) h1c hm hbase h
theorem flatR_one {W : Nat} : ∀ {q : List RE}, (∀ x ∈ q, REok W x) → (∀ x ∈ q, ∃ A n c, x.val = .slice A n c) → ∀ u ∈ flatR q, u.oneCell' = true
  | [], _, _, u, hu => by simp [flatR] at hu
  | x :: q, h, k, u, hu => by
    rw [flatR_cons] at hu
    rcases List.mem_append.1 hu with hu | hu
    · rcases List.mem_append.1 hu with hu | hu
      · obtain ⟨p, hp, rfl⟩ := List.mem_map.1 hu
        have := (h x (by simp)).2 p hp
        cases p <;> first | rfl | exact this.elim
      · simp only [List.mem_cons, List.not_mem_nil, or_false] at hu
        obtain ⟨A, n, c, e⟩ := k x (by simp)
        rw [hu, e]; rfl
    · exact flatR_one (fun y hy => h y (by simp [hy])) (fun y hy => k y (by simp [hy])) u hu
theorem RT.val {w : World} {x : RE} (h : RT w x) : ∃ A n c, x.val = .slice A n c := by
  obtain ⟨A, c, e⟩ := h.1.rd.bs_sh
  exact ⟨A, _, c, e⟩
/-- A row is kept where another block is written. -/
theorem own_set {w : World} {B s n : Nat} {e : TypeId} {v : Value} {xs : List Value} (h : w.ownsRow B e s v n xs) {g : Nat} (hg : ∀ k, v.ownBlock = some k → k ≠ g) (i : Nat) (u : Value) : (w.setCell ⟨g, i, none⟩ u).ownsRow B e s v n xs := by
  obtain ⟨h1, h2 | ⟨g', cap, cur, rfl, h4, h5, h6⟩⟩ := h
  · exact ⟨h1, .inl h2⟩
  · exact ⟨h1, .inr ⟨g', cap, cur, rfl, h4, (Below.heap_setCell _ _ _ _ (show g' ≠ g from hg g' (by simp [Value.ownBlock]))).trans h5, h6⟩⟩
end Go.Proofs.Ytacdnednkglobaa

/- Chapter 7: the tag chunk and the text that is signed: the model's l7Tag, l7Text, MacText. -/
namespace Go.Proofs.Ytacdnednkglobaa
open Go.RowKit Go.Deep

/-- A tag chunk comes back, its body in memory of its own. -/
def TagR (w : World) (id : Int) (l : List Int) (e : Ending) (w' : World) : Prop :=
  ∃ (A : Option Addr) (c : Nat), e = .returned (ckV 15 0 A (tagB id l).length c) ∧ w'.ownsRow w.heap.size 5 1 (.slice A (tagB id l).length c) (tagB id l).length ((tagB id l).map (Value.int .u8)) ∧ Below w.heap.size w w'
theorem zer32_made : (madeCells #[Value.int .u8 0] 32) = (zer32.map (Value.int .u8)).toArray := by kernel_rfl
theorem zer32_bs (w : World) : Bs (w.alloc (.cells (madeCells #[Value.int .u8 0] 32) 5)) (some ⟨w.heap.size, 0, none⟩) zer32 := by rw [zer32_made]; exact lit_bs w 5 zer32
theorem make32 (w : World) : (Instr.makeSlice 25 (.int .i64 32) (.int .i64 32)).run Try.prog w = .ok (.slice (some ⟨w.heap.size, 0, none⟩) 32 32) (w.alloc (.cells (madeCells #[Value.int .u8 0] 32) 5)) :=
  run_make_row' (P := Try.prog) 25 5 (.int .u8 0) 1 Try.underlying25 infoU8 rfl .i64 .i64 32 (by omega) (by omega) w
set_option maxRecDepth 100000 in
set_option maxHeartbeats 2000000 in
theorem l7Tag_any (id : Int) (l : List Int) (A : Option Addr) (c : Nat) (w : World) (hA : Bs w A l) (h0 : 0 ≤ id) (h1 : id < 65536) (hl : l.length ≤ 1000) :
    Calls Try.prog 42 #[.int .i64 id, .slice A l.length c] w (TagR w id l) := by
  have K0 := Blk.new w 51 #[.int .i64 0, .int .i64 0, .slice none 0 0]
  have b0 := bal (Below.refl w.heap.size w) (.cells #[.int .i64 0, .int .i64 0, .slice none 0 0] 51)
  have SA := bs_below hA (bal (Below.refl w.heap.size w) (.cells #[.int .i64 0, .int .i64 0, .slice none 0 0] 51))
  obtain ⟨w0, hw0⟩ : ∃ w0, w.alloc (.cells #[.int .i64 0, .int .i64 0, .slice none 0 0] 51) = w0 := ⟨_, rfl⟩
  have hs0 : w0.heap.size = w.heap.size + 1 := by rw [← hw0]; simp
  rw [hw0] at K0 b0 SA
  have HW := hidH hw0
  have HS := hidH hs0
  have ba := bal (Below.refl w0.heap.size w0) (.cells #[.int .u8 (id / 256), .int .u8 (id % 256)] 5)
  have O1 : (w0.alloc (.cells #[.int .u8 (id / 256), .int .u8 (id % 256)] 5)).ownsRow w0.heap.size 5 1 (.slice (some ⟨w0.heap.size, 0, none⟩) 2 2) 2 ([id / 256, id % 256].map (Value.int .u8)) :=
    World.ownsRow_lit w0 #[.int .u8 (id / 256), .int .u8 (id % 256)] 2 (Nat.le_refl _) (by unfold maxLen; omega) rfl
  have OH := hidH O1
  have SH := hidH (bs_below SA ba)
  have KH := hidH (K0.below ba)
  have BH := hidH ba
  have B0 := hidH b0
  have hsz := ba.size
  have HL := hidH hl
  clear hw0 hs0 K0 b0 SA ba O1 hA hl
  go_enter Try.func42, Try.ntmps42
  go_wp2_with fail
  rw [HW.out]
  refine (pair_any id _ h0 h1).mono ?_
  rintro e w1 ⟨rfl, rfl⟩
  go_wp2_with (at_builtin; go_loud (refine wpList_append_bs rfl _ _ rfl w0.heap.size _ _ _ rfl OH.out A l c rfl SH.out (by have := HL.out; omega) hsz ?_))
  intro v3 w3 o3 g3
  obtain ⟨A3, c3, e3⟩ := own_lenT o3
  subst e3
  have hb3 : Below w0.heap.size w0 w3 := BH.out.grown g3 hsz (fun k hk => (OH.out.lt k hk).1)
  have K3 := KH.out
  have K4 : Blk w3 w.heap.size 51 #[.int .i64 0, .int .i64 0, .slice none 0 0] := (g3.block _ K3.lt (fun q => by have := (OH.out.lt _ q.symm).1; have := HS.out; omega)).trans K3
  have O3 := hidH (show w3.ownsRow w0.heap.size 5 1 (.slice A3 (tagB id l).length c3) (tagB id l).length ((tagB id l).map (Value.int .u8)) by
    have e : (tagB id l).length = 2 + l.length := by rw [tagB_len]; omega
    rw [e]
    simpa [tagB] using o3)
  have B3 := hidH (show Below w.heap.size w w3 from B0.out.trans (hb3.mono (by have := HS.out; omega)))
  have x0 := K4.cell 0
  have x1 := K4.cell 1
  have x2 := K4.cell 2
  have f0 := K4.frozen 0
  have f1 := K4.frozen 1
  have f2 := K4.frozen 2
  simp only [List.getElem?_toArray, List.getElem?_cons_succ, List.getElem?_cons_zero] at x0 x1 x2
  have hlt := K4.lt
  have K5 := hidH K4
  have HN := hidH (show (tagB id l).length = 2 + l.length by rw [tagB_len]; omega)
  clear K3 K4 o3 g3 hb3 OH SH KH BH hsz
  go_wp2
  exact bodyPost_ret (v := .agg #[.int .i64 15, .int .i64 0, .slice A3 (2 + l.length) c3]) (by simp [results, Try.results42, go_sem, x0, x1, x2]) rfl ⟨A3, c3, by rw [HN.out]; rfl, own_monoT (own_farT (own_farT (own_farT O3.out K5.out (by decide) 0 _) (K5.out.put 0 _) (by decide) 1 _) ((K5.out.put 0 _).put 1 _) (by decide) 2 _) (by have := HS.out; omega), bst (bst (bst B3.out (Nat.le_refl _) _) (Nat.le_refl _) _) (Nat.le_refl _) _⟩
set_option maxRecDepth 100000 in
set_option maxHeartbeats 4000000 in
theorem l7Text_any (id : Int) (r : List ChunkM) (v : Value) (w : World) (h : Rd w (st_Chunk r) v) (h0 : 0 ≤ id) (h1 : id < 65536) (hc : ∀ x ∈ r, cmOk x) (hn : r.length ≤ 20) :
    Calls Try.prog 28 #[.int .i64 id, v] w (OwnB w (txtL id r)) := by
  obtain ⟨A, c, rfl⟩ := st_Chunk_sh h
  have HI := hidH (fun (u : World) (hb : Below w.heap.size w u) => Rd.below hb _ h)
  have HC := hidH hc
  have HN := hidH hn
  have hnI : (r.length : Int) ≤ 20 := by omega
  have hmk := make32 w
  have SZ := hidH (zer32_bs w)
  have b1 := bal (Below.refl w.heap.size w) (.cells (madeCells #[Value.int .u8 0] 32) 5)
  obtain ⟨w1, hw1⟩ : ∃ w1, w.alloc (.cells (madeCells #[Value.int .u8 0] 32) 5) = w1 := ⟨_, rfl⟩
  rw [hw1] at hmk SZ b1
  have hz : zer32.length = 32 := by decide
  have HT := hidH (l7Tag_any id zer32 (some ⟨w.heap.size, 0, none⟩) 32 w1 SZ.out h0 h1 (by rw [hz]; omega))
  rw [hz] at HT
  have B1 := hidH b1
  clear h hc hn b1 hw1
  go_enter Try.func28, Try.ntmps28
  go_wp2_with fail
  refine HT.out.mono ?_
  rintro e w2 ⟨A2, c2, rfl, o2, b2⟩
  have B2 := hidH (B1.out.trans (b2.mono B1.out.size))
  obtain ⟨l2, hl2⟩ : ∃ l2, tagB id zer32 = l2 := ⟨_, rfl⟩
  have T0 := hidH (show cmL (tagC id zer32) = chL 15 0 l2 by rw [← hl2]; rfl)
  have hl34 : l2.length = 34 := by rw [← hl2, tagB_len, hz]
  rw [hl2, hl34] at o2
  rw [hl2, hl34]
  unfold ckV
  obtain ⟨A2', c2', e2, ob2, _, _⟩ := own_ob (d := l2) (by rw [hl34]; exact o2)
  injection e2 with e21 e22 e23
  subst e21 e23
  have HB2 := hidH ob2.bs
  have HL2 := hidH hl34
  have bc := bal (Below.refl w2.heap.size w2) (.cells #[.int .i64 15, .int .i64 0, .slice A2 34 c2] 51)
  have KC := Blk.new w2 51 #[.int .i64 15, .int .i64 0, .slice A2 34 c2]
  have HBC := hidH (bs_below ob2.bs bc)
  have B3 := hidH (B2.out.trans (bc.mono B2.out.size))
  obtain ⟨w3, hw3⟩ : ∃ w3, w2.alloc (.cells #[.int .i64 15, .int .i64 0, .slice A2 34 c2] 51) = w3 := ⟨_, rfl⟩
  rw [hw3] at KC HBC B3
  have HCH := hidH (l4Chunk_any w2.heap.size 0 15 0 A2 l2 c2 w3 ⟨KC.lt, by simpa using KC.cell 0, by simpa using KC.cell 1, by rw [HL2.out]; simpa using KC.cell 2, HBC.out⟩ (by omega) (by omega) (by omega) (by omega) (by rw [HL2.out]; omega))
  rw [← T0.out] at HCH
  have HW3 := hidH hw3
  clear o2 b2 hl2 hl34 ob2 e22 bc KC hw3 HT hmk
  go_wp2_with fail
  rw [HW3.out]
  refine HCH.out.mono ?_
  rintro e w4 ⟨v4, rfl, o4, b4⟩
  have B4 := hidH (show Below w.heap.size w w4 from B3.out.trans (b4.mono B3.out.size))
  have O4 := hidH (show w4.ownsRow w.heap.size 5 1 v4 (txtTo id r 0).length ((txtTo id r 0).map (Value.int .u8)) by rw [txtTo_zero]; exact own_monoT o4 B3.out.size)
  clear o4 b4 HCH HW3 HBC
  go_wp2
  go_loopw [6, 7] (fun v i wr => ∃ j : Nat, j ≤ r.length ∧ i = .int .i64 j ∧ wr.ownsRow w.heap.size 5 1 v (txtTo id r j).length ((txtTo id r j).map (Value.int .u8)) ∧ Below w.heap.size w wr) (fun _ i _ => r.length - (intOf i).toNat)
  case atStart => exact ⟨0, by omega, rfl, O4.out, B4.out⟩
  case round =>
    obtain ⟨j, hj, rfl, hown, hB⟩ := hrel
    have hsz := hB.size
    have HL := hidH (txtTo_len id r HC.out j hj)
    by_cases hlt : j < r.length
    · have hj0 : (0 : Int) ≤ (j : Int) := by omega
      have hj1 : (j : Int) < (r.length : Int) := by omega
      obtain ⟨g, o, c', B, cB, e, CK, _⟩ := chunk_at (HI.out _ hB) hlt
      injection e with e1 e2 e3
      subst e1 e3
      obtain ⟨⟨k0, k1⟩, ⟨f0, f1⟩, hbl⟩ := HC.out r[j] (List.getElem_mem hlt)
      have HCK := hidH (l4Chunk_any g (o + j * 3) _ _ B _ cB wr CK k0 k1 f0 f1 (by omega))
      have HSU := hidH (txtTo_succ id r j hlt)
      have hcl := hidH (cmL_len r[j] hbl)
      have hg := CK.lt
      have OH := hidH hown
      have HBW := hidH hB
      clear CK k0 k1 f0 f1 hbl hown hB
      go_wp2_with fail
      refine HCK.out.mono ?_
      rintro e w4 ⟨v4, rfl, O4, b4⟩
      obtain ⟨A4, c4, rfl, ob4, _, _⟩ := own_ob O4
      have S4 := hidH ob4.bs
      have O5 := hidH (own_below0 OH.out b4)
      have B5 := hidH (btr HBW.out b4)
      have hsz5 := B5.out.size
      clear O4 ob4 b4 HCK OH HBW
      go_wp2_with (at_builtin; go_loud (refine wpList_append_bs rfl _ _ rfl w.heap.size _ _ _ rfl O5.out A4 _ c4 rfl S4.out (by have h1 := HL.out; have h2 := hcl.out; unfold cmL at h2; omega) hsz5 ?_))
      intro v6 w6 o6 g6
      have B6 := hidH (B5.out.grown g6 hsz5 (fun x hx => (O5.out.lt x hx).1))
      have O6 := hidH (show w6.ownsRow w.heap.size 5 1 v6 (txtTo id r (j + 1)).length ((txtTo id r (j + 1)).map (Value.int .u8)) by
        rw [HSU.out]
        simpa [cmL] using o6)
      clear o6 g6 O5 B5 S4 hsz5
      go_wp2
      go_roundw
      case rel => exact ⟨j + 1, by omega, by go_num, O6.out, B6.out⟩
      case measure => simp [intOf]; omega
    · obtain rfl : j = r.length := by omega
      have OH := hidH hown
      have HBW := hidH hB
      clear hlt hj hown hB
      go_wp2
      go_ret
      exact ⟨_, rfl, OH.out, HBW.out⟩
/-- A BytesResult by value. -/
theorem br_res {w W : World} {R : Nat} {A : Option Addr} {l : List Int} {cp : Nat} (x : Int) (hO : Ob (R + 1) W.heap.size W A l) (hR : w.heap.size ≤ R) (hb : Below w.heap.size w W) (h1 : l.length ≤ cp) (h2 : (cp : Int) ≤ 9223372036854775807) (u0 u1 : Value) :
    Res w [.int x, .bs l] (.returned (.agg #[.int .i64 x, .slice A l.length cp])) ((W.setCell ⟨R, 0, none⟩ u0).setCell ⟨R, 1, none⟩ u1) := by
  have e : ((W.setCell ⟨R, 0, none⟩ u0).setCell ⟨R, 1, none⟩ u1).heap.size = W.heap.size := by simp [World.setCell]
  refine ⟨[.int .i64 x, .slice A l.length cp], rfl, ?_, bst (bst hb hR _) hR _⟩
  rw [e]
  have ho := ((hO.setCell (p := ⟨R, 0, none⟩) (Nat.lt_succ_self _) u0).setCell (p := ⟨R, 1, none⟩) (Nat.lt_succ_self _) u1).mono (B' := w.heap.size) (by omega)
  exact OwN.int x (OwN.cons' (ho.owv (by rw [e]; exact Nat.le_refl _) ⟨h1, h2⟩) (OwN.nil (B := w.heap.size) (C := w.heap.size) (by rw [e]; exact hb.size)) (Nat.le_refl _) hb.size)
theorem br_code {w W : World} {R : Nat} (x : Int) (hR : w.heap.size ≤ R) (hb : Below w.heap.size w W) (u0 u1 : Value) :
    Res w [.int x, .bs []] (.returned (.agg #[.int .i64 x, .slice none 0 0])) ((W.setCell ⟨R, 0, none⟩ u0).setCell ⟨R, 1, none⟩ u1) :=
  ⟨[.int .i64 x, .slice none 0 0], rfl, OwN.int x (OwN.empty _ (Nat.le_refl _)), bst (bst hb hR _) hR _⟩
set_option maxRecDepth 100000 in
set_option maxHeartbeats 4000000 in
theorem mt_spec (id : Int) (r : List ChunkM) (v : Value) (u : World) (_ : WfV (.int id)) (h : Rd u (st_Chunk r) v) (_ : WfV (st_Chunk r)) (_ : tot (st_Chunk r) ≤ 1048576) :
    Calls Try.prog 9 #[.int .i64 id, v] u (Res u (mtR id r).vs) := by
  have R0 := Blk.new u 27 #[.int .i64 0, .slice none 0 0]
  have b0 := bal (Below.refl u.heap.size u) (.cells #[.int .i64 0, .slice none 0 0] 27)
  obtain ⟨w0, hw0⟩ : ∃ w0, u.alloc (.cells #[.int .i64 0, .slice none 0 0] 27) = w0 := ⟨_, rfl⟩
  have hs0 : w0.heap.size = u.heap.size + 1 := by rw [← hw0]; simp
  rw [hw0] at R0 b0
  have HI := hidH (fun (w : World) (hb : Below u.heap.size u w) => Rd.below hb _ h)
  have HW := hidH hw0
  have HS := hidH hs0
  have HR := hidH R0
  have HB := hidH b0
  have HCF := hidH (l7Chunks_any r v 7 w0 (HI.out _ b0) (by omega))
  obtain ⟨x0, x1, xz⟩ := R0.two
  have f0 := R0.frozen 0
  have f1 := R0.frozen 1
  obtain ⟨b, hb⟩ : ∃ b, inB id 0 99 = b := ⟨_, rfl⟩
  clear hw0 hs0 R0 b0 h
  cases b
  · have HM := hidH (show (mtR id r).vs = [.int 3, .bs []] by simp [mtR, mtF, hb, BytesResultM.vs])
    rw [HM.out]
    obtain ⟨y0, y1, yz⟩ := (Blk.new u 27 #[.int .i64 3, .slice none 0 0]).two
    have HBB := hidH (bal (Below.refl u.heap.size u) (.cells #[.int .i64 3, .slice none 0 0] 27))
    go_enter Try.func9, Try.ntmps9
    go_wp2_with (go_at_call 26; refine (in_any _ _ _ _).mono ?_; rintro e w' ⟨rfl, rfl⟩)
    exact bodyPost_ret (v := .agg #[.int .i64 3, .slice none 0 0]) (by simp [results, Try.results9, go_sem, y0, y1]) rfl ⟨[.int .i64 3, .slice none 0 0], rfl, OwN.int 3 (OwN.empty _ (Nat.le_refl _)), HBB.out⟩
  · have HID := hidH (show 0 ≤ id ∧ id ≤ 99 by simpa [inB] using hb)
    clear x0 x1 xz f0 f1
    go_enter Try.func9, Try.ntmps9
    go_wp2_with (go_at_call 26; refine (in_any _ _ _ _).mono ?_; rintro e w' ⟨rfl, rfl⟩)
    rw [HW.out]
    refine HCF.out.mono ?_
    rintro e w1 ⟨rfl, b1⟩
    have HB1 := hidH (btr HB.out b1)
    have HR1 := hidH (HR.out.below b1)
    have HZ1 := hidH b1.size
    obtain ⟨F, hF⟩ : ∃ F, csF 7 r = F := ⟨_, rfl⟩
    rw [hF]
    clear b1 HCF
    by_cases hz : F = 0
    · have q : (F != 0) = false := by rw [bne_eq_false_iff_eq]; exact hz
      have H0 := hidH (hF.trans hz)
      have HTX := hidH (l7Text_any id r v w1 (HI.out _ HB1.out) HID.out.1 (by have := HID.out; omega) (cmsF_ok (csF_zero H0.out).2) (by have := (csF_zero H0.out).1; omega))
      obtain ⟨L, hL⟩ : ∃ L, txtL id r = L := ⟨_, rfl⟩
      rw [hL] at HTX
      have HLL := hidH hL
      have HIN := hidH hb
      clear hz hF hL
      go_wp2_with fail
      refine HTX.out.mono ?_
      rintro e w2 ⟨v2, rfl, O2, b2⟩
      obtain ⟨A2, c2, rfl, ob2, hc2, hm2⟩ := own_ob O2
      have HB2 := hidH (btr HB1.out b2)
      have R2 := HR1.out.below b2
      obtain ⟨x0, x1, xz⟩ := R2.two
      have f0 := R2.frozen 0
      have f1 := R2.frozen 1
      have HO := hidH (ob2.mono (B' := u.heap.size + 1) (by have := HS.out; have := HZ1.out; omega))
      have HC := hidH (And.intro hc2 hm2)
      clear O2 ob2 hc2 hm2 R2 b2 HTX
      by_cases h5 : L.length ≤ 500
      · have h5I : (L.length : Int) ≤ 500 := by omega
        have HM := hidH (show (mtR id r).vs = [.int 0, .bs L] by simp [mtR, mtF, HIN.out, H0.out, HLL.out, h5, BytesResultM.vs])
        clear h5
        go_wp2
        exact bodyPost_ret (v := .agg #[.int .i64 0, .slice A2 L.length c2]) (by simp [results, Try.results9, go_sem, x0, x1]) rfl (by rw [HM.out]; exact br_res 0 HO.out (Nat.le_refl _) HB2.out HC.out.1 HC.out.2 _ _)
      · have h5I : (500 : Int) < (L.length : Int) := by omega
        have HM := hidH (show (mtR id r).vs = [.int 2, .bs []] by simp [mtR, mtF, HIN.out, H0.out, HLL.out, h5, BytesResultM.vs])
        clear h5
        go_wp2
        exact bodyPost_ret (v := .agg #[.int .i64 2, .slice none 0 0]) (by simp [results, Try.results9, go_sem, x0, x1]) rfl (by rw [HM.out]; exact br_code 2 (Nat.le_refl _) HB2.out _ _)
    · have q : (F != 0) = true := by rw [bne_iff_ne]; exact hz
      have HM := hidH (show (mtR id r).vs = [.int F, .bs []] by simp [mtR, mtF, hb, hF, hz, BytesResultM.vs])
      have R2 := HR1.out
      obtain ⟨x0, x1, xz⟩ := R2.two
      have f0 := R2.frozen 0
      have f1 := R2.frozen 1
      clear R2 hz hF
      go_wp2
      exact bodyPost_ret (v := .agg #[.int .i64 F, .slice none 0 0]) (by simp [results, Try.results9, go_sem, x0, x1]) rfl (by rw [HM.out]; exact br_code F (Nat.le_refl _) HB1.out _ _)
end Go.Proofs.Ytacdnednkglobaa

/- The program's isId. -/
namespace Go.Proofs.Ytacdnednkglobaa
open Go.RowKit Go.Deep

set_option maxHeartbeats 400000 in
theorem isId_any (n : Int) (w : World) : Calls Try.prog 30 #[.int .i64 n] w fun e w' => e = .returned (.bool (inB n 0 99)) ∧ w = w' := by
  by_cases h1 : 0 ≤ n
  · rw [show inB n 0 99 = decide (n ≤ 99) from by simp [inB, h1]]
    go_enter Try.func30, Try.ntmps30
    go_wp2
    go_ret
    exact ⟨rfl, rfl⟩
  · have h : n < 0 := by omega
    rw [show inB n 0 99 = false from inB_lo h]
    clear h1
    go_enter Try.func30, Try.ntmps30
    go_wp2
    go_ret
    exact ⟨rfl, rfl⟩
end Go.Proofs.Ytacdnednkglobaa
