/- Chapter 6: a list of secrets with one put in, by values; a row of secrets owned, each secret's bytes in a window of its own. -/
import Derived.Test.YtjjileefdjjijaaS6M
import Derived.Test.YtjjileefdjjijaaSlB
import Derived.Maps.AppendAt
namespace Go.Proofs.Ytjjileefdjjijaa
open Go.RowKit Go.Deep

def Asc (r : List SecretM) : Prop := r.Pairwise (fun x y => x.Id < y.Id)
theorem insS_mem {s : SecretM} : ∀ {r : List SecretM} {y : SecretM}, y ∈ insS s r → y = s ∨ y ∈ r
  | [], y, h => by simp [insS] at h; exact .inl h
  | x :: r, y, h => by
    unfold insS at h
    split at h
    · rcases List.mem_cons.1 h with rfl | h
      · exact .inr (by simp)
      · rcases insS_mem h with h | h
        · exact .inl h
        · exact .inr (by simp [h])
    · split at h
      · rcases List.mem_cons.1 h with h | h
        · exact .inl h
        · exact .inr (by simp [h])
      · rcases List.mem_cons.1 h with h | h
        · exact .inl h
        · exact .inr h
theorem insS_asc (s : SecretM) : ∀ {r : List SecretM}, Asc r → Asc (insS s r)
  | [], _ => by simp [insS, Asc]
  | x :: r, h => by
    unfold Asc at h
    rw [List.pairwise_cons] at h
    unfold insS
    split
    · next h1 => exact List.pairwise_cons.2 ⟨fun y hy => by
        rcases insS_mem hy with rfl | hy
        · exact h1
        · exact h.1 y hy, insS_asc s h.2⟩
    · next h1 =>
      split
      · next h2 => exact List.pairwise_cons.2 ⟨fun y hy => by have := h.1 y hy; omega, h.2⟩
      · next h2 => exact List.pairwise_cons.2 ⟨fun y hy => by
          rcases List.mem_cons.1 hy with rfl | hy
          · omega
          · have := h.1 y hy; omega, List.pairwise_cons.2 h⟩
theorem asc_filter {s : SecretM} : ∀ {r : List SecretM}, (∀ y ∈ r, s.Id < y.Id) → r.filter (fun y => y.Id != s.Id) = r := fun h => List.filter_eq_self.2 (fun y hy => by have := h y hy; simp; omega)
theorem insS_perm (s : SecretM) : ∀ {r : List SecretM}, Asc r → (insS s r).Perm (r.filter (fun y => y.Id != s.Id) ++ [s])
  | [], _ => by simp [insS]
  | x :: r, h => by
    unfold Asc at h
    rw [List.pairwise_cons] at h
    unfold insS
    split
    · next h1 =>
      rw [List.filter_cons_of_pos (by simp; omega), List.cons_append]
      exact (insS_perm s h.2).cons x
    · next h1 =>
      split
      · next h2 =>
        rw [List.filter_cons_of_neg (by simp [h2]), asc_filter (fun y hy => by have := h.1 y hy; omega)]
        exact (List.perm_append_comm (l₁ := [s]) (l₂ := r))
      · next h2 =>
        rw [List.filter_cons_of_pos (by simpa using h2), asc_filter (fun y hy => by have := h.1 y hy; omega)]
        exact (List.perm_append_comm (l₁ := [s]) (l₂ := x :: r))
theorem asc_eq {a b : List SecretM} (ha : Asc a) (hb : Asc b) (h : a.Perm b) : a = b :=
  List.Perm.eq_of_pairwise (le := fun (x y : SecretM) => x.Id < y.Id) (fun (x y : SecretM) _ _ (h1 : x.Id < y.Id) (h2 : y.Id < x.Id) => absurd h1 (by omega)) ha hb h
theorem secsO_asc {r : List SecretM} (h : secsO r = true) : Asc r := by
  refine List.pairwise_iff_getElem.2 (fun i j hi hj hij => ?_)
  induction j with
  | zero => omega
  | succ j ih =>
    have h1 := (secsO_iff r).1 h j hj
    rw [List.getD_eq_getElem?_getD, List.getD_eq_getElem?_getD, List.getElem?_eq_getElem hj, List.getElem?_eq_getElem (show j < r.length by omega)] at h1
    simp only [Option.getD_some] at h1
    by_cases e : i = j
    · subst e; exact h1
    · have := ih (by omega) (by omega); omega
/-- The entries by Id. -/
def byId (q : List KE) : List KE := q.mergeSort (fun x y => decide (x.id ≤ y.id))
theorem byId_perm (q : List KE) : (byId q).Perm q := List.mergeSort_perm _ _
theorem byId_le (q : List KE) : (byId q).Pairwise (fun x y => x.id ≤ y.id) := by
  have := List.pairwise_mergeSort (le := fun x y : KE => decide (x.id ≤ y.id)) (fun a b c h1 h2 => by simp only [decide_eq_true_eq] at *; omega) (fun a b => by simp only [Bool.or_eq_true, decide_eq_true_eq]; omega) q
  unfold byId
  simpa using this
theorem byId_put {q : List KE} {x : KE} {r : List SecretM} (hq : q.map KE.sec = r) (hr : Asc r) (hp : (putQ q x).Pairwise (fun x y => x.id ≠ y.id)) : (byId (putQ q x)).map KE.sec = insS x.sec r := by
  refine asc_eq ?_ (insS_asc _ hr) (((byId_perm _).map _).trans ?_)
  · have h1 := byId_le (putQ q x)
    have h2 : (byId (putQ q x)).Pairwise (fun x y => x.id ≠ y.id) := (List.Perm.pairwise_iff (fun h e => h e.symm) (byId_perm _)).2 hp
    unfold Asc
    rw [List.pairwise_map]
    exact (h1.and h2).imp (fun {a b} h => by show a.id < b.id; have := h.1; have := h.2; omega)
  · refine List.Perm.trans ?_ (insS_perm x.sec hr).symm
    rw [putQ, List.map_append, ← hq, List.filter_map]
    exact List.Perm.refl _
theorem ids_sorted {q : List KE} {ss : List Int} (h : ss.Perm (q.map KE.id)) : ss.mergeSort (fun x y => decide (x ≤ y)) = (byId q).map KE.id := by
  refine List.Perm.eq_of_pairwise (le := fun a b => a ≤ b) (fun a b _ _ h1 h2 => Int.le_antisymm h1 h2) ?_ ?_ (((List.mergeSort_perm _ _).trans h).trans ((byId_perm q).symm.map _))
  · have := List.pairwise_mergeSort (le := fun x y : Int => decide (x ≤ y)) (fun a b c h1 h2 => by simp only [decide_eq_true_eq] at *; omega) (fun a b => by simp only [Bool.or_eq_true, decide_eq_true_eq]; omega) ss
    simpa using this
  · rw [List.pairwise_map]; exact byId_le q

/-! A row of secrets. -/
def flatK (q : List KE) : List Value := q.flatMap (fun x => [.int .i64 x.id, x.val])
theorem flatK_len : ∀ q : List KE, (flatK q).length = q.length * 2
  | [] => rfl
  | x :: q => by rw [flatK, List.flatMap_cons, List.length_append, ← flatK, flatK_len q]; simp; omega
def SecFp (g o : Nat) (q : List KE) : Fp := fun a b => (a = g ∧ o ≤ b ∧ b < o + q.length * 2) ∨ ∃ x ∈ q, x.lo ≤ a ∧ a < x.hi
theorem OwL.secs {w : World} {g : Nat} : ∀ (q : List KE) (o : Nat), (∀ x ∈ q, Ow w (.bs x.bytes) (Wn x.lo x.hi) x.val ∧ (g < x.lo ∨ x.hi ≤ g)) → q.Pairwise (fun x y => x.hi ≤ y.lo ∨ y.hi ≤ x.lo) →
    (∀ k, k < q.length * 2 → w.cell? ⟨g, o + k, none⟩ = (flatK q)[k]? ∧ w.frozen? ⟨g, o + k, none⟩ = false) → OwL w (q.flatMap (fun x => x.sec.vs)) (SecFp g o q) g o
  | [], o, _, _, _ => by simp only [List.flatMap_nil]; unfold OwL; trivial
  | x :: q, o, h, hp, hc => by
    rw [List.pairwise_cons] at hp
    have hx := h x (by simp)
    have c0 := hc 0 (by simp)
    have c1 := hc 1 (by simp; omega)
    have ih := OwL.secs q (o + 2) (fun y hy => h y (by simp [hy])) hp.2 (fun k hk => by
      have := hc (k + 2) (by simp; omega)
      rw [show o + (k + 2) = o + 2 + k by omega] at this
      refine ⟨this.1.trans ?_, this.2⟩
      show (flatK (x :: q))[k + 2]? = _
      rfl)
    have e : (x :: q).flatMap (fun x => x.sec.vs) = .int x.id :: .bs x.bytes :: q.flatMap (fun x => x.sec.vs) := rfl
    rw [e]
    unfold OwL
    refine ⟨.int .i64 x.id, fun _ _ => False, fun a b => (a = g ∧ o + 1 ≤ b ∧ b < o + 2 + q.length * 2) ∨ ∃ y ∈ x :: q, y.lo ≤ a ∧ a < y.hi, ?_, ?_, .inl ⟨rfl, by omega, by simp⟩, by unfold Ow; rfl, ?_, fun _ _ z => z.elim, ?_, fun z => z.elim, ?_, fun _ _ z => z.elim⟩
    · exact c0.1
    · exact c0.2
    · unfold OwL
      refine ⟨x.val, Wn x.lo x.hi, SecFp g (o + 2) q, c1.1, c1.2, .inl ⟨rfl, by omega, by omega⟩, hx.1, ih, fun a b z => .inr ⟨x, by simp, z.1, z.2⟩, fun a b z => ?_, fun z => ?_, fun z => ?_, fun a b y z => ?_⟩
      · rcases z with ⟨z1, z2, z3⟩ | ⟨y, hy, z⟩
        · exact .inl ⟨z1, by omega, by omega⟩
        · exact .inr ⟨y, by simp [hy], z⟩
      · have := z.1; have := z.2; rcases hx.2 with q | q <;> omega
      · rcases z with ⟨z1, z2, z3⟩ | ⟨y, hy, z⟩
        · omega
        · rcases (h y (by simp [hy])).2 with q | q <;> omega
      · have y1 := y.1
        have y2 := y.2
        rcases z with ⟨z1, z2, z3⟩ | ⟨y, hy, z⟩
        · rcases hx.2 with q | q <;> omega
        · rcases hp.1 y hy with q | q <;> omega
    · rintro a b (⟨z1, z2, z3⟩ | z)
      · exact .inl ⟨z1, by omega, by simp; omega⟩
      · exact .inr z
    · rintro (⟨z1, z2, z3⟩ | ⟨y, hy, z⟩)
      · omega
      · rcases (h y hy).2 with q | q <;> omega
/-- A row of secrets, its block told apart from the bytes' windows. -/
theorem own_secs {w : World} {B0 B n : Nat} {v : Value} {q : List KE} (h : w.ownsRow B 58 2 v n (flatK q)) (hn : q.length = n) (h00 : B0 ≤ B) (hq : ∀ x ∈ q, OwV x.lo x.hi w (.bs x.bytes) x.val ∧ B0 ≤ x.lo)
    (hg : ∀ g cs, B ≤ g → w.heap[g]? = some (.cells cs 58 (0, 0)) → ∀ x ∈ q, g < x.lo ∨ x.hi ≤ g) (hp : q.Pairwise (fun x y => x.hi ≤ y.lo ∨ y.hi ≤ x.lo)) :
    OwV B0 w.heap.size w (st_Secret (q.map KE.sec)) v := by
  have e : st_Secret (q.map KE.sec) = .st n (q.flatMap (fun x => x.sec.vs)) := by
    rw [st_Secret, List.length_map, hn, List.flatMap_map]
  rw [e]
  refine ⟨Nat.le_refl _, ?_⟩
  obtain ⟨h1, ⟨rfl, h0⟩ | ⟨g, cap, cur, rfl, hB, hc, hnc, hm, hs, ht⟩⟩ := h
  · unfold Ow
    have : q = [] := List.eq_nil_of_length_eq_zero (by omega)
    subst this
    exact ⟨none, 0, by rw [h0], ⟨by omega, by simp⟩, .inl ⟨h0, rfl⟩⟩
  · have K : Blk w g 58 cur := hc
    unfold Ow
    unfold maxLen at hm
    refine ⟨_, cap, rfl, ⟨hnc, by omega⟩, .inr ⟨g, 0, rfl, K.lt, OwL.sub _ ?_ (OwL.secs q 0 (fun x hx => ⟨(hq x hx).1.2, hg g cur hB hc x hx⟩) hp (fun k hk => ⟨?_, K.frozen _⟩))⟩⟩
    · rintro a b (⟨z1, _, _⟩ | ⟨x, hx, z1, z2⟩)
      · exact ⟨by omega, by have := K.lt; omega⟩
      · exact ⟨by have := (hq x hx).2; omega, by have := (hq x hx).1.1; omega⟩
    · rw [Nat.zero_add, K.cell, ← Array.getElem?_toList, ← ht, List.getElem?_take_of_lt (by omega)]
theorem own_other {w w' : World} {B B2 s s2 n n2 : Nat} {e e2 : TypeId} {v v2 : Value} {xs xs2 : List Value} (h : w.ownsRow B e s v n xs) (hg : w.grownBy w' v2.ownBlock) (h2 : w.ownsRow B2 e2 s2 v2 n2 xs2) (ht : e ≠ e2) : w'.ownsRow B e s v n xs := by
  obtain ⟨h1, h3 | ⟨g, cap, cur, h3, h4, h5, h6⟩⟩ := h
  · exact ⟨h1, .inl h3⟩
  · refine ⟨h1, .inr ⟨g, cap, cur, h3, h4, (hg.block g (Array.getElem?_eq_some_iff.1 h5).1 (fun q => ?_)).trans h5, h6⟩⟩
    obtain ⟨_, ⟨rfl, _⟩ | ⟨g2, cap2, cur2, rfl, _, k5, _⟩⟩ := h2
    · simp [Value.ownBlock] at q
    · simp [Value.ownBlock] at q
      subst q
      rw [h5] at k5
      injection k5 with k5
      injection k5 with _ k5 _
      exact ht k5
theorem own_cells {w : World} {B s n : Nat} {e : TypeId} {v : Value} {xs : List Value} (h : w.ownsRow B e s v n xs) : ∃ (A : Option Addr) (c : Nat), v = .slice A n c ∧ ∀ j, j < n * s → ∃ g, A = some ⟨g, 0, none⟩ ∧ g < w.heap.size ∧ w.cell? ⟨g, j, none⟩ = xs[j]? := by
  have h' := h
  obtain ⟨h1, ⟨rfl, h0⟩ | ⟨g, cap, cur, rfl, h4, h5, h6⟩⟩ := h
  · exact ⟨none, 0, by rw [h0], fun j hj => by rw [h0] at hj; omega⟩
  · exact ⟨_, _, rfl, fun j hj => ⟨g, rfl, (Array.getElem?_eq_some_iff.1 h5).1, h'.cellAt j hj⟩⟩
theorem flatK_take {q : List KE} {j : Nat} (hj : j < q.length) : flatK (q.take (j + 1)) = flatK (q.take j) ++ [.int .i64 q[j].id, q[j].val] := by
  rw [List.take_add_one, List.getElem?_eq_getElem hj, flatK, List.flatMap_append, ← flatK]
  simp
theorem infoSec : (Try.prog.info? 58).map (fun i => (i.zero, i.size, i.bytes)) = some (some (.agg #[.int .i64 0, .slice none 0 0]), 2, 32) := by kernel_rfl
theorem wpList_append_Sec {w : World} {ops : Array Oper} {rest : List Oper} {o : Oper} {a : Act} {Q : Exit → Act → World → Prop} (hgd : o.guard = none) (s x : Operand)
    (ho : o.op = .call { callee := .builtin .append, args := #[s, x], argTypes := #[25, 25] })
    (base : Nat) (v : Value) (n : Nat) (xs : List Value) (hs : a.eval s = v) (hown : w.ownsRow base 58 2 v n xs)
    (q t : Nat) (y : Int) (A : Option Addr) (m c : Nat) (hx : a.eval x = .slice (some ⟨q, 0, none⟩) 1 1) (hq : Blk w q t #[.int .i64 y, .slice A m c]) (hm : n ≤ 100000) (hbase : base ≤ w.heap.size)
    (h : ∀ v' w', w'.ownsRow base 58 2 v' (n + 1) (xs ++ [.int .i64 y, .slice A m c]) → w.grownBy w' v.ownBlock → wpList Try.prog ops Q rest (a.put o.dst v') w') : wpList Try.prog ops Q (o :: rest) a w := by
  obtain ⟨i0, hi, hzz⟩ := Option.map_eq_some_iff.1 infoSec
  simp only [Prod.mk.injEq] at hzz
  obtain ⟨hz0, hz1, hz2⟩ := hzz
  refine wpList_append_own w hgd s x 25 ho base 58 i0 _ 2 32 Try.underlying25 hi hz0 hz1 hz2 rfl (by decide) v n xs hs hown ⟨q, 0, none⟩ 1 1 [.int .i64 y, .slice A m c] hx rfl
    (fun j u hu => ?_) (fun u hu => ?_) (by unfold maxLen; omega) (by omega) hbase (fun v' w' h1 h2 _ => h v' w' h1 h2)
  · have e : (⟨q, 0, none⟩ : Addr).add j = ⟨q, j, none⟩ := by rw [add_off, Nat.zero_add]
    rw [e, hq.cell, ← hu]
    simp
  · simp only [List.mem_cons, List.not_mem_nil, or_false] at hu
    rcases hu with rfl | rfl <;> rfl
theorem wpList_append_SecAt {w : World} {ops : Array Oper} {rest : List Oper} {o : Oper} {a : Act} {Q : Exit → Act → World → Prop} (hgd : o.guard = none) (s x : Operand)
    (ho : o.op = .call { callee := .builtin .append, args := #[s, x], argTypes := #[25, 25] })
    (base : Nat) (v : Value) (n : Nat) (xs : List Value) (hs : a.eval s = v) (hown : w.ownsRow base 58 2 v n xs)
    (q t : Nat) (y : Int) (A : Option Addr) (m c : Nat) (hx : a.eval x = .slice (some ⟨q, 0, none⟩) 1 1) (hq : Blk w q t #[.int .i64 y, .slice A m c]) (hm : n ≤ 100000) (hbase : base ≤ w.heap.size)
    (h : ∀ v' w', w'.ownsRow base 58 2 v' (n + 1) (xs ++ [.int .i64 y, .slice A m c]) → w.grownBy w' v.ownBlock → (v'.ownBlock = v.ownBlock ∨ v'.ownBlock = some w.heap.size) → wpList Try.prog ops Q rest (a.put o.dst v') w') : wpList Try.prog ops Q (o :: rest) a w := by
  obtain ⟨i0, hi, hzz⟩ := Option.map_eq_some_iff.1 infoSec
  simp only [Prod.mk.injEq] at hzz
  obtain ⟨hz0, hz1, hz2⟩ := hzz
  refine wpList_append_own_at w hgd s x 25 ho base 58 i0 _ 2 32 Try.underlying25 hi hz0 hz1 hz2 rfl (by decide) v n xs hs hown ⟨q, 0, none⟩ 1 1 [.int .i64 y, .slice A m c] hx rfl
    (fun j u hu => ?_) (fun u hu => ?_) (by unfold maxLen; omega) (by omega) hbase (fun v' w' h1 h2 _ h4 => h v' w' h1 h2 h4)
  · have e : (⟨q, 0, none⟩ : Addr).add j = ⟨q, j, none⟩ := by rw [add_off, Nat.zero_add]
    rw [e, hq.cell, ← hu]
    simp
  · simp only [List.mem_cons, List.not_mem_nil, or_false] at hu
    rcases hu with rfl | rfl <;> rfl
theorem made_secs (w : World) (c : Nat) (h : c ≤ 1000) : ∃ w', (Instr.makeSlice 25 (.int .i64 0) (.int .i64 (c : Int))).run Try.prog w = .ok (.slice (some ⟨w.heap.size, 0, none⟩) 0 c) w' ∧ w'.ownsRow w.heap.size 58 2 (.slice (some ⟨w.heap.size, 0, none⟩) 0 c) 0 [] ∧ w.grownBy w' none := by
  obtain ⟨i0, hi, hzz⟩ := Option.map_eq_some_iff.1 infoSec
  simp only [Prod.mk.injEq] at hzz
  obtain ⟨hz0, hz1, hz2⟩ := hzz
  exact run_make_own w w.heap.size 25 58 i0 _ 2 Try.underlying25 hi hz0 hz1 .i64 .i64 c (by rw [hz2]; omega) (by unfold maxLen; omega) (Nat.le_refl _)
/-! Bytes' blocks told apart by their type. -/
def U8K (w w' : World) : Prop := ∀ (g : Nat) (cs : Array Value), w.heap[g]? = some (.cells cs 5 (0, 0)) → w'.heap[g]? = some (.cells cs 5 (0, 0))
theorem U8K.refl (w : World) : U8K w w := fun _ _ h => h
theorem U8K.trans {a b c : World} (h : U8K a b) (k : U8K b c) : U8K a c := fun g cs e => k g cs (h g cs e)
theorem U8K.of_below {w w' : World} (hb : Below w.heap.size w w') : U8K w w' := fun g _ e => (hb.block g (Array.getElem?_eq_some_iff.1 e).1).trans e
theorem U8K.of_grown {w w' : World} {B n : Nat} {v : Value} {xs : List Value} (hg : w.grownBy w' v.ownBlock) (h2 : w.ownsRow B 58 2 v n xs) : U8K w w' := fun g cs e => by
  refine (hg.block g (Array.getElem?_eq_some_iff.1 e).1 (fun q => ?_)).trans e
  obtain ⟨_, ⟨rfl, _⟩ | ⟨g2, cap2, cur2, rfl, _, k5, _⟩⟩ := h2
  · simp [Value.ownBlock] at q
  · simp [Value.ownBlock] at q
    subst q
    rw [e] at k5
    injection k5 with k5
    injection k5 with _ k5 _
    exact absurd k5 (by decide)
def KT (w : World) (x : KE) : Prop := OwV x.lo x.hi w (.bs x.bytes) x.val ∧ (x.hi ≤ x.lo ∨ (x.hi = x.lo + 1 ∧ ∃ cs, w.heap[x.lo]? = some (.cells cs 5 (0, 0))))
theorem KT.turn {w w' : World} {x : KE} (h : KT w x) (hs : w.heap.size ≤ w'.heap.size) (hu : U8K w w') : KT w' x := by
  obtain ⟨h1, h2⟩ := h
  have hk : Kept (Wn x.lo x.hi) w w' := by
    rcases h2 with h2 | ⟨h2, cs, h3⟩
    · exact ⟨hs, fun g o _ z => by have := z.1; have := z.2; omega, fun g o _ z => by have := z.1; have := z.2; omega⟩
    · have e : w'.heap[x.lo]? = w.heap[x.lo]? := (hu _ _ h3).trans h3.symm
      refine ⟨hs, fun g o _ z => ?_, fun g o _ z => ?_⟩
      · obtain rfl : x.lo = g := by have := z.1; have := z.2; omega
        exact World.cell?_of_block (a := ⟨x.lo, o, none⟩) e
      · obtain rfl : x.lo = g := by have := z.1; have := z.2; omega
        exact World.frozen?_of_block (a := ⟨x.lo, o, none⟩) e
  refine ⟨⟨Nat.le_trans h1.1 hs, Ow.kept _ hk h1.2⟩, ?_⟩
  rcases h2 with h2 | ⟨h2, cs, h3⟩
  · exact .inl h2
  · exact .inr ⟨h2, cs, hu _ _ h3⟩
theorem KT.of_row {w : World} {B c : Nat} {A : Option Addr} {l : List Int} (h : w.ownsRow B 5 1 (.slice A l.length c) l.length (l.map (Value.int .u8))) (hB : B ≤ w.heap.size) (k : Int) :
    ∃ lo hi, B ≤ lo ∧ KT w ⟨k, .slice A l.length c, l, lo, hi⟩ := by
  obtain ⟨A', cp, e, ob, k1, k2⟩ := own_ob h
  injection e with e1 _ e3
  subst e1 e3
  by_cases hl : l = []
  · exact ⟨B, B, Nat.le_refl _, ⟨hB, by unfold Ow; exact ⟨A, c, rfl, ⟨k1, k2⟩, .inl hl⟩⟩, .inl (Nat.le_refl _)⟩
  · have h0 : 0 < l.length := List.length_pos_iff.2 hl
    obtain ⟨_, ⟨_, h9⟩ | ⟨g, cap, cur, h3, h4, h5, _⟩⟩ := h
    · omega
    · injection h3 with h3 _ _
      rcases ob with q | ⟨b, off, q1, q2, q3, q4, q5⟩
      · exact absurd q hl
      · rw [h3] at q1
        have e1 : g = b := by simpa using congrArg (fun z => z.map Addr.block) q1
        have e2 : (0 : Nat) = off := by simpa using congrArg (fun z => z.map Addr.off) q1
        subst e1 e2
        have hg := (Array.getElem?_eq_some_iff.1 h5).1
        exact ⟨g, g + 1, h4, Ob.owv (.inr ⟨g, 0, h3, Nat.le_refl _, Nat.lt_succ_self _, hg, q5⟩) hg ⟨k1, k2⟩, .inr ⟨rfl, cur, h5⟩⟩
theorem KT.far {w : World} {x : KE} (h : KT w x) {g : Nat} {cs : Array Value} (hg : w.heap[g]? = some (.cells cs 58 (0, 0))) : g < x.lo ∨ x.hi ≤ g := by
  rcases h.2 with h2 | ⟨h2, cs2, h3⟩
  · omega
  · have : g ≠ x.lo := fun e => by
      rw [e, h3] at hg
      injection hg with hg
      injection hg with _ hg _
      exact absurd hg (by decide)
    omega
theorem own_farS {w : World} {B s n g : Nat} {e t : TypeId} {v : Value} {xs : List Value} {cs : Array Value} (h : w.ownsRow B e s v n xs) (k : Blk w g t cs) (ht : t ≠ e) (i : Nat) (u : Value) : (w.setCell ⟨g, i, none⟩ u).ownsRow B e s v n xs := by
  obtain ⟨h1, h2 | ⟨g', cap, cur, h3, h4, h5, h6⟩⟩ := h
  · exact ⟨h1, .inl h2⟩
  · refine ⟨h1, .inr ⟨g', cap, cur, h3, h4, (Below.heap_setCell _ _ _ _ (show g' ≠ g from fun q => ?_)).trans h5, h6⟩⟩
    subst q
    have k' : w.heap[g']? = some (.cells cs t (0, 0)) := k
    rw [h5] at k'
    injection k' with k'
    injection k' with _ k' _
    exact ht k'.symm
theorem own_lenS {w : World} {B s n : Nat} {e : TypeId} {v : Value} {xs : List Value} (h : w.ownsRow B e s v n xs) : ∃ (A : Option Addr) (c : Nat), v = .slice A n c := by
  obtain ⟨_, ⟨h2, h3⟩ | ⟨g, cap, cur, h3, _⟩⟩ := h
  · exact ⟨none, 0, by rw [h2, h3]⟩
  · exact ⟨_, _, h3⟩
theorem own_monoS {w : World} {B B' s n : Nat} {e : TypeId} {v : Value} {xs : List Value} (h : w.ownsRow B e s v n xs) (hB : B' ≤ B) : w.ownsRow B' e s v n xs := by
  obtain ⟨h1, h2 | ⟨g, cap, cur, h3, h4, h5⟩⟩ := h
  · exact ⟨h1, .inl h2⟩
  · exact ⟨h1, .inr ⟨g, cap, cur, h3, Nat.le_trans hB h4, h5⟩⟩
/-- Owned entries, each in a window of its own. -/
def KTs (B : Nat) (w : World) (q : List KE) : Prop := (∀ x ∈ q, KT w x ∧ B ≤ x.lo) ∧ q.Pairwise (fun x y => x.hi ≤ y.lo ∨ y.hi ≤ x.lo)
theorem KTs.nil (B : Nat) (w : World) : KTs B w [] := ⟨fun _ h => by simp at h, List.Pairwise.nil⟩
theorem KTs.turn {B : Nat} {w w' : World} {q : List KE} (h : KTs B w q) (hs : w.heap.size ≤ w'.heap.size) (hu : U8K w w') : KTs B w' q := ⟨fun x hx => ⟨(h.1 x hx).1.turn hs hu, (h.1 x hx).2⟩, h.2⟩
theorem KTs.snoc {B : Nat} {w : World} {q : List KE} {x : KE} (h : KTs B w q) (hx : KT w x) (hB : B ≤ x.lo) (hl : ∀ y ∈ q, y.hi ≤ x.lo) : KTs B w (q ++ [x]) :=
  ⟨fun y hy => by
    rcases List.mem_append.1 hy with hy | hy
    · exact h.1 y hy
    · simp at hy; subst hy; exact ⟨hx, hB⟩, List.pairwise_append.2 ⟨h.2, by simp, fun y hy z hz => by simp at hz; subst hz; exact .inl (hl y hy)⟩⟩
theorem flatK_app (a b : List KE) : flatK (a ++ b) = flatK a ++ flatK b := by simp [flatK]
/-! The model's loop: an entry put into a list. -/
def stp (s : KE) (st : List KE × Bool) (x : KE) : List KE × Bool :=
  let st1 : List KE × Bool := if st.2 = false ∧ s.id ≤ x.id then (st.1 ++ [s], true) else st
  if x.id = s.id then st1 else (st1.1 ++ [x], st1.2)
def fin1 (s : KE) (st : List KE × Bool) : List KE := if st.2 then st.1 else st.1 ++ [s]
theorem stp_true (s : KE) : ∀ (r : List KE) (pre : List KE), r.foldl (stp s) (pre, true) = (pre ++ r.filter (fun x => x.id != s.id), true)
  | [], pre => by simp
  | x :: r, pre => by
    rw [List.foldl_cons]
    by_cases e : x.id = s.id
    · rw [show stp s (pre, true) x = (pre, true) by simp [stp, e], stp_true s r, List.filter_cons_of_neg (by simp [e])]
    · rw [show stp s (pre, true) x = (pre ++ [x], true) by simp [stp, e], stp_true s r, List.filter_cons_of_pos (by simp [e])]
      simp
def AscK (r : List KE) : Prop := r.Pairwise (fun x y => x.id < y.id)
theorem asc_filterK {s : KE} {r : List KE} (h : ∀ y ∈ r, s.id < y.id) : r.filter (fun y => y.id != s.id) = r := List.filter_eq_self.2 (fun y hy => by have := h y hy; simp; omega)
theorem stp_ins (s : KE) : ∀ (r : List KE) (pre : List KE), AscK r → (fin1 s (r.foldl (stp s) (pre, false))).map KE.sec = pre.map KE.sec ++ insS s.sec (r.map KE.sec) ∧ (fin1 s (r.foldl (stp s) (pre, false))).Perm (pre ++ r.filter (fun x => x.id != s.id) ++ [s])
  | [], pre, _ => by simp [fin1, insS]
  | x :: r, pre, h => by
    unfold AscK at h
    rw [List.pairwise_cons] at h
    rw [List.foldl_cons, List.map_cons]
    unfold insS
    have e1 : x.sec.Id = x.id := rfl
    have e2 : s.sec.Id = s.id := rfl
    rw [e1, e2]
    by_cases hlt : x.id < s.id
    · have e : stp s (pre, false) x = (pre ++ [x], false) := by
        have : ¬ s.id ≤ x.id := by omega
        have h3 : x.id ≠ s.id := by omega
        simp [stp, this, h3]
      obtain ⟨k1, k2⟩ := stp_ins s r (pre ++ [x]) h.2
      rw [e, if_pos hlt, k1, List.filter_cons_of_pos (by simp; omega)]
      exact ⟨by simp, k2.trans (by simp)⟩
    · have hle : s.id ≤ x.id := by omega
      by_cases heq : x.id = s.id
      · have e : stp s (pre, false) x = (pre ++ [s], true) := by simp [stp, heq]
        rw [e, if_neg hlt, if_pos heq, stp_true, asc_filterK (fun y hy => by have := h.1 y hy; omega), List.filter_cons_of_neg (by simp [heq]), asc_filterK (fun y hy => by have := h.1 y hy; omega)]
        refine ⟨by simp [fin1], ?_⟩
        show List.Perm (pre ++ [s] ++ r) _
        rw [List.append_assoc, List.append_assoc]
        exact List.Perm.append_left pre List.perm_append_comm
      · have e : stp s (pre, false) x = (pre ++ [s] ++ [x], true) := by simp [stp, hle, heq]
        rw [e, if_neg hlt, if_neg heq, stp_true, asc_filterK (fun y hy => by have := h.1 y hy; omega), List.filter_cons_of_pos (by simp [heq]), asc_filterK (fun y hy => by have := h.1 y hy; omega)]
        refine ⟨by simp [fin1], ?_⟩
        show List.Perm (pre ++ [s] ++ [x] ++ r) _
        rw [List.append_assoc, List.append_assoc, List.append_assoc]
        exact List.Perm.append_left pre (by simpa using (List.perm_append_comm (l₁ := [s]) (l₂ := x :: r)))
end Go.Proofs.Ytjjileefdjjijaa
