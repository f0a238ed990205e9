/- Trees: an argument that came in, opened. -/
import Derived.Test.YthljdikcpdokdaaUniS
import Derived.Deep.Strs
import Derived.Deep.Slices
import Derived.ProofKit
import Derived.OpenShut
namespace Go.Proofs.Ythljdikcpdokdaa
open Go.RowKit Go.Deep Go.ChangeShapes Go.WideShapes Go.ChangeAt

/-- The numbers in their ranges. -/
def WfV : V → Prop
  | .int n => -9223372036854775808 ≤ n ∧ n ≤ 9223372036854775807
  | .bool _ => True
  | .bs l => Bytes l
  | .is l => Ints l
  | .st _ xs => WfA xs
where WfA : List V → Prop
  | [] => True
  | x :: xs => WfV x ∧ WfA xs
abbrev WfA := WfV.WfA
theorem arr_get (l : List Value) (k : Nat) : l.toArray[k]? = l[k]? := by simp
theorem wf_int {n : Int} (h : (Lit.int .i64 n).wf = true) : WfV (.int n) := by
  simp [Lit.wf, IntKind.min, IntKind.max, IntKind.signed, IntKind.bits] at h
  show _ ∧ _
  omega
theorem WfA.app {xs ys : List V} (h : WfA xs) (k : WfA ys) : WfA (xs ++ ys) := by
  induction xs with
  | nil => exact k
  | cons x xs ih => exact ⟨h.1, ih h.2⟩
theorem WfA.flat {α : Type} {f : α → List V} {r : List α} (h : ∀ x ∈ r, WfA (f x)) : WfA (r.flatMap f) := by
  induction r with
  | nil => trivial
  | cons x xs ih => rw [List.flatMap_cons]; exact WfA.app (h x (by simp)) (ih (fun y hy => h y (by simp [hy])))
theorem RdA.app {w : World} : ∀ {xs ys : List V} {vs us : List Value}, RdA w xs vs → RdA w ys us → RdA w (xs ++ ys) (vs ++ us)
  | [], _, [], _, _, k => k
  | x :: xs, ys, v :: vs, us, h, k => by
    rw [List.cons_append, List.cons_append]
    exact RdA.any_mk h.hd (RdA.app h.tl k)
  | [], _, _ :: _, _, h, _ => by unfold RdA at h; exact h.elim
  | _ :: _, _, [], _, h, _ => by unfold RdA at h; exact h.elim
theorem RdL.app {w : World} : ∀ {xs ys : List V} {g o : Nat}, RdL w xs g o → RdL w ys g (o + xs.length) → RdL w (xs ++ ys) g o
  | [], _, _, _, _, k => by simpa using k
  | x :: xs, ys, g, o, h, k => by
    rw [List.cons_append]
    unfold RdL at h ⊢
    exact ⟨h.1, RdL.app h.2 (by rw [List.length_cons] at k; rwa [show o + 1 + xs.length = o + (xs.length + 1) by omega])⟩
theorem RdL.of_cells {w : World} : ∀ {xs : List V} {vs : List Value} {g o : Nat}, RdA w xs vs → (∀ k, k < vs.length → w.cell? ⟨g, o + k, none⟩ = vs[k]?) → RdL w xs g o
  | [], [], _, _, _, _ => by unfold RdL; trivial
  | x :: xs, v :: vs, g, o, h, k => by
    unfold RdL
    refine ⟨⟨v, by simpa using k 0 (by simp), h.hd⟩, RdL.of_cells h.tl (fun i hi => ?_)⟩
    have := k (i + 1) (by simpa using hi)
    rw [show o + 1 + i = o + (i + 1) by omega]
    simpa using this
  | [], _ :: _, _, _, h, _ => by unfold RdA at h; exact h.elim
  | _ :: _, [], _, _, h, _ => by unfold RdA at h; exact h.elim
theorem RdL.of_rows {α : Type} {f : α → List V} {W : Nat} (hf : ∀ x, (f x).length = W) {w : World} {g : Nat} : ∀ {r : List α} {o : Nat}, (∀ j (hj : j < r.length), RdL w (f r[j]) g (o + j * W)) → RdL w (r.flatMap f) g o
  | [], _, _ => by simp only [List.flatMap_nil]; unfold RdL; trivial
  | x :: r, o, h => by
    rw [List.flatMap_cons]
    have h0 := h 0 (by simp)
    rw [Nat.zero_mul, Nat.add_zero] at h0
    refine RdL.app h0 ?_
    rw [hf]
    refine RdL.of_rows hf (fun j hj => ?_)
    have := h (j + 1) (by simpa using hj)
    rw [show o + W + j * W = o + (j + 1) * W by rw [Nat.add_mul]; omega]
    simpa using this
theorem RdA.len {w : World} : ∀ {xs : List V} {vs : List Value}, RdA w xs vs → vs.length = xs.length
  | [], [], _ => rfl
  | _ :: xs, _ :: vs, h => by simp [RdA.len h.tl]
  | [], _ :: _, h => by unfold RdA at h; exact h.elim
  | _ :: _, [], h => by unfold RdA at h; exact h.elim
theorem list_of' {α : Type} (n : Nat) (Q : Nat → α → Prop) (h : ∀ i, i < n → ∃ x, Q i x) : ∃ l : List α, l.length = n ∧ ∀ j (hj : j < l.length), Q j l[j] := by
  induction n with
  | zero => exact ⟨[], rfl, fun j hj => by simp at hj⟩
  | succ n ih =>
    obtain ⟨l, hl, hq⟩ := ih (fun i hi => h i (by omega))
    obtain ⟨x, hx⟩ := h n (by omega)
    refine ⟨l ++ [x], by simp [hl], fun j hj => ?_⟩
    by_cases e : j < l.length
    · rw [List.getElem_append_left e]; exact hq j e
    · have e2 : j = n := by simp at hj; omega
      subst e2
      rw [List.getElem_append_right (by omega)]
      simpa [hl] using hx
theorem list_1 {α : Type} {cs : List α} (h : cs.length = 1) : ∃ x0, cs = [x0] := by
  match cs, h with
  | x0 :: [], _ => exact ⟨x0, rfl⟩
theorem list_2 {α : Type} {cs : List α} (h : cs.length = 2) : ∃ x0 x1, cs = [x0, x1] := by
  match cs, h with
  | x0 :: x1 :: [], _ => exact ⟨x0, x1, rfl⟩
theorem list_3 {α : Type} {cs : List α} (h : cs.length = 3) : ∃ x0 x1 x2, cs = [x0, x1, x2] := by
  match cs, h with
  | x0 :: x1 :: x2 :: [], _ => exact ⟨x0, x1, x2, rfl⟩
theorem list_4 {α : Type} {cs : List α} (h : cs.length = 4) : ∃ x0 x1 x2 x3, cs = [x0, x1, x2, x3] := by
  match cs, h with
  | x0 :: x1 :: x2 :: x3 :: [], _ => exact ⟨x0, x1, x2, x3, rfl⟩
theorem list_5 {α : Type} {cs : List α} (h : cs.length = 5) : ∃ x0 x1 x2 x3 x4, cs = [x0, x1, x2, x3, x4] := by
  match cs, h with
  | x0 :: x1 :: x2 :: x3 :: x4 :: [], _ => exact ⟨x0, x1, x2, x3, x4, rfl⟩
theorem list_6 {α : Type} {cs : List α} (h : cs.length = 6) : ∃ x0 x1 x2 x3 x4 x5, cs = [x0, x1, x2, x3, x4, x5] := by
  match cs, h with
  | x0 :: x1 :: x2 :: x3 :: x4 :: x5 :: [], _ => exact ⟨x0, x1, x2, x3, x4, x5, rfl⟩
theorem list_7 {α : Type} {cs : List α} (h : cs.length = 7) : ∃ x0 x1 x2 x3 x4 x5 x6, cs = [x0, x1, x2, x3, x4, x5, x6] := by
  match cs, h with
  | x0 :: x1 :: x2 :: x3 :: x4 :: x5 :: x6 :: [], _ => exact ⟨x0, x1, x2, x3, x4, x5, x6, rfl⟩
theorem list_8 {α : Type} {cs : List α} (h : cs.length = 8) : ∃ x0 x1 x2 x3 x4 x5 x6 x7, cs = [x0, x1, x2, x3, x4, x5, x6, x7] := by
  match cs, h with
  | x0 :: x1 :: x2 :: x3 :: x4 :: x5 :: x6 :: x7 :: [], _ => exact ⟨x0, x1, x2, x3, x4, x5, x6, x7, rfl⟩
theorem list_9 {α : Type} {cs : List α} (h : cs.length = 9) : ∃ x0 x1 x2 x3 x4 x5 x6 x7 x8, cs = [x0, x1, x2, x3, x4, x5, x6, x7, x8] := by
  match cs, h with
  | x0 :: x1 :: x2 :: x3 :: x4 :: x5 :: x6 :: x7 :: x8 :: [], _ => exact ⟨x0, x1, x2, x3, x4, x5, x6, x7, x8, rfl⟩
theorem list_10 {α : Type} {cs : List α} (h : cs.length = 10) : ∃ x0 x1 x2 x3 x4 x5 x6 x7 x8 x9, cs = [x0, x1, x2, x3, x4, x5, x6, x7, x8, x9] := by
  match cs, h with
  | x0 :: x1 :: x2 :: x3 :: x4 :: x5 :: x6 :: x7 :: x8 :: x9 :: [], _ => exact ⟨x0, x1, x2, x3, x4, x5, x6, x7, x8, x9, rfl⟩
theorem list_11 {α : Type} {cs : List α} (h : cs.length = 11) : ∃ x0 x1 x2 x3 x4 x5 x6 x7 x8 x9 x10, cs = [x0, x1, x2, x3, x4, x5, x6, x7, x8, x9, x10] := by
  match cs, h with
  | x0 :: x1 :: x2 :: x3 :: x4 :: x5 :: x6 :: x7 :: x8 :: x9 :: x10 :: [], _ => exact ⟨x0, x1, x2, x3, x4, x5, x6, x7, x8, x9, x10, rfl⟩
theorem list_12 {α : Type} {cs : List α} (h : cs.length = 12) : ∃ x0 x1 x2 x3 x4 x5 x6 x7 x8 x9 x10 x11, cs = [x0, x1, x2, x3, x4, x5, x6, x7, x8, x9, x10, x11] := by
  match cs, h with
  | x0 :: x1 :: x2 :: x3 :: x4 :: x5 :: x6 :: x7 :: x8 :: x9 :: x10 :: x11 :: [], _ => exact ⟨x0, x1, x2, x3, x4, x5, x6, x7, x8, x9, x10, x11, rfl⟩
theorem list_13 {α : Type} {cs : List α} (h : cs.length = 13) : ∃ x0 x1 x2 x3 x4 x5 x6 x7 x8 x9 x10 x11 x12, cs = [x0, x1, x2, x3, x4, x5, x6, x7, x8, x9, x10, x11, x12] := by
  match cs, h with
  | x0 :: x1 :: x2 :: x3 :: x4 :: x5 :: x6 :: x7 :: x8 :: x9 :: x10 :: x11 :: x12 :: [], _ => exact ⟨x0, x1, x2, x3, x4, x5, x6, x7, x8, x9, x10, x11, x12, rfl⟩
theorem list_14 {α : Type} {cs : List α} (h : cs.length = 14) : ∃ x0 x1 x2 x3 x4 x5 x6 x7 x8 x9 x10 x11 x12 x13, cs = [x0, x1, x2, x3, x4, x5, x6, x7, x8, x9, x10, x11, x12, x13] := by
  match cs, h with
  | x0 :: x1 :: x2 :: x3 :: x4 :: x5 :: x6 :: x7 :: x8 :: x9 :: x10 :: x11 :: x12 :: x13 :: [], _ => exact ⟨x0, x1, x2, x3, x4, x5, x6, x7, x8, x9, x10, x11, x12, x13, rfl⟩
section
variable {H : Type} {enc : TypeId × Value → H} {w : World} {base : Nat} {spare : Nat → Bool} {held : Bool}
theorem open_bs {n : Nat} {v : Value} {x : DataW H × List MemPlace} (h : DataW.trod enc Try.prog w base spare held n 22 [v] = some x) : ∃ l, Rd w (.bs l) v ∧ WfV (.bs l) := by
  rcases open_ints Try.underlying22 Try.underlying5 (by kernel_rfl) h with ⟨hcs, _⟩ | ⟨a, len, c, zs, hcs, _, hl, hm, hz, _, hcell, hwz⟩
  · simp only [List.cons.injEq, and_true] at hcs
    subst hcs
    exact ⟨[], Rd.bs_mk (c := 0) (.inl rfl) ⟨Nat.le_refl _, by simp⟩, fun x hx => by simp at hx⟩
  · simp only [List.cons.injEq, and_true] at hcs
    subst hcs
    have hzl : len ≤ zs.length := by rw [hz]; split <;> omega
    have hll : (zs.take len).length = len := by rw [List.length_take]; omega
    unfold maxLen at hm
    refine ⟨zs.take len, ?_, fun x hx => ?_⟩
    · have hB : Bs w (some a) (zs.take len) := by
        rcases Nat.eq_zero_or_pos len with h0 | h0
        · exact .inl (List.eq_nil_of_length_eq_zero (by omega))
        · obtain ⟨b, off, spot⟩ := a
          have hc0 := hcell 0 (by omega)
          have hspot : spot = none := by simpa [Addr.add] using World.cell?_spot hc0
          subst hspot
          have hc1 : w.cell? ⟨b, off, none⟩ = some (.int .u8 (zs.getD 0 0)) := by simpa [Addr.add] using hc0
          refine .inr ⟨b, off, rfl, World.block_lt_of_cell? _ _ hc1, fun j hj => ?_⟩
          have h1 := hcell j (by omega)
          have e : (zs.take len).getD j 0 = zs.getD j 0 := by
            rw [List.getD_eq_getElem?_getD, List.getD_eq_getElem?_getD, List.getElem?_take_of_lt (by omega)]
          rw [e, ← h1]
          rcases j with _ | j <;> simp [Addr.add]
      have := Rd.bs_mk hB (c := c) (by rw [hll]; exact ⟨hl, by omega⟩)
      rwa [hll] at this
    · have h1 := hwz x (List.mem_of_mem_take hx)
      simp [Lit.wf, IntKind.min, IntKind.max, IntKind.signed, IntKind.bits] at h1
      omega
theorem open_is {n : Nat} {v : Value} {x : DataW H × List MemPlace} (h : DataW.trod enc Try.prog w base spare held n 24 [v] = some x) : ∃ l, Rd w (.is l) v ∧ WfV (.is l) := by
  rcases open_ints Try.underlying24 Try.underlying2 (by kernel_rfl) h with ⟨hcs, _⟩ | ⟨a, len, c, zs, hcs, _, hl, hm, hz, _, hcell, hwz⟩
  · simp only [List.cons.injEq, and_true] at hcs
    subst hcs
    exact ⟨[], Rd.is_mk (c := 0) (.inl rfl) ⟨Nat.le_refl _, by simp⟩, fun x hx => by simp at hx⟩
  · simp only [List.cons.injEq, and_true] at hcs
    subst hcs
    have hzl : len ≤ zs.length := by rw [hz]; split <;> omega
    have hll : (zs.take len).length = len := by rw [List.length_take]; omega
    unfold maxLen at hm
    refine ⟨zs.take len, ?_, fun x hx => ?_⟩
    · have hB : Is w (some a) (zs.take len) := by
        rcases Nat.eq_zero_or_pos len with h0 | h0
        · exact .inl (List.eq_nil_of_length_eq_zero (by omega))
        · obtain ⟨b, off, spot⟩ := a
          have hc0 := hcell 0 (by omega)
          have hspot : spot = none := by simpa [Addr.add] using World.cell?_spot hc0
          subst hspot
          have hc1 : w.cell? ⟨b, off, none⟩ = some (.int .i64 (zs.getD 0 0)) := by simpa [Addr.add] using hc0
          refine .inr ⟨b, off, rfl, World.block_lt_of_cell? _ _ hc1, fun j hj => ?_⟩
          have h1 := hcell j (by omega)
          have e : (zs.take len).getD j 0 = zs.getD j 0 := by
            rw [List.getD_eq_getElem?_getD, List.getD_eq_getElem?_getD, List.getElem?_take_of_lt (by omega)]
          rw [e, ← h1]
          rcases j with _ | j <;> simp [Addr.add]
      have := Rd.is_mk hB (c := c) (by rw [hll]; exact ⟨hl, by omega⟩)
      rwa [hll] at this
    · have h1 := hwz x (List.mem_of_mem_take hx)
      simp [Lit.wf, IntKind.min, IntKind.max, IntKind.signed, IntKind.bits] at h1
      omega
theorem open_st {P : Program} {α : Type} {f : α → List V} {W : Nat} (hf : ∀ x, (f x).length = W) (hW : 0 < W) {t e : TypeId} (ht : P.underlying t = some (.slice e)) (hC : P.cellsOf e = W)
    (hrow : ∀ (n : Nat) (cs : List Value) (x : DataW H × List MemPlace), DataW.trod enc P w base spare held n e cs = some x → ∃ r : α, RdA w (f r) cs ∧ WfA (f r))
    {n : Nat} {v : Value} {x : DataW H × List MemPlace} (h : DataW.trod enc P w base spare held n t [v] = some x) : ∃ r : List α, Rd w (.st r.length (r.flatMap f)) v ∧ WfV (.st r.length (r.flatMap f)) := by
  rcases open_slice ht h with ⟨hcs, _⟩ | ⟨a, len, cap, m, n', D, Pl, hcs, _, hl, hm, hmm, _, hi⟩
  · simp only [List.cons.injEq, and_true] at hcs
    subst hcs
    refine ⟨[], ?_, ?_⟩
    · unfold Rd; exact ⟨none, 0, rfl, ⟨Nat.le_refl _, by simp⟩, .inl ⟨rfl, rfl⟩⟩
    · exact trivial
  · simp only [List.cons.injEq, and_true] at hcs
    subst hcs
    unfold maxLen at hm
    have hml : len ≤ m := by rw [hmm]; split <;> omega
    have each : ∀ i, i < len → ∃ r : α, ∃ cs' : List Value, RdA w (f r) cs' ∧ WfA (f r) ∧ ∀ k, k < W → w.cell? ((a.add (i * W)).add k) = cs'[k]? := by
      intro i hi'
      obtain ⟨cs', hc, ht'⟩ := hi i (by omega)
      rw [hC] at hc
      obtain ⟨_, hc3, hat⟩ := World.cells?_some hc
      obtain ⟨r, h1, h2⟩ := hrow _ _ _ ht'
      exact ⟨r, cs', h1, h2, fun k hk => hat k (by omega)⟩
    obtain ⟨r, hlen, hq⟩ := list_of' len _ each
    refine ⟨r, ?_, ?_⟩
    · unfold Rd
      refine ⟨some a, cap, by rw [hlen], ⟨by omega, by omega⟩, ?_⟩
      rcases Nat.eq_zero_or_pos len with h0 | h0
      · obtain rfl := List.eq_nil_of_length_eq_zero (hlen.trans h0)
        exact .inl ⟨rfl, rfl⟩
      · obtain ⟨b, off, spot⟩ := a
        obtain ⟨cs', hr, _, hk⟩ := hq 0 (by omega)
        have hl' := hr.len
        rw [hf] at hl'
        have q0 := hk 0 hW
        rw [List.getElem?_eq_getElem (by omega)] at q0
        have hspot : spot = none := by simpa [Addr.add] using World.cell?_spot q0
        subst hspot
        have hlt : b < w.heap.size := by
          have := World.block_lt_of_cell? _ _ q0
          simpa [Addr.add] using this
        have ad : ∀ (o i : Nat), (⟨b, o, none⟩ : Addr).add i = ⟨b, o + i, none⟩ := fun o i => by unfold Addr.add; split <;> simp_all
        refine .inr ⟨b, off, rfl, hlt, RdL.of_rows hf (fun j hj => ?_)⟩
        obtain ⟨cs', hr, _, hk⟩ := hq j hj
        refine RdL.of_cells hr (fun k hk' => ?_)
        have hl' := hr.len
        rw [hf] at hl'
        have := hk k (by omega)
        rwa [ad, ad] at this
    · exact WfA.flat (fun x hx => by
        obtain ⟨j, hj, rfl⟩ := List.getElem_of_mem hx
        obtain ⟨_, _, q, _⟩ := hq j hj
        exact q)
end
end Go.Proofs.Ythljdikcpdokdaa
