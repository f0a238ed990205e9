import Derived.Test.YtncnibkojneejaaGreatDoorJa1
import Derived.Deep.Strs
import Derived.Deep.Slices
import Derived.ProofKit
import Derived.OpenShut

/- Trees: an argument that came in, opened. -/
namespace Go.Proofs.YtncnibkojneejaaGreatDoor
open Go.RowKit Go.Deep Go.ChangeShapes Go.WideShapes Go.ChangeAt

/-- The numbers in their ranges. -/
def WfV : V → Prop
  | .int n => -9223372036854775808 ≤ n ∧ n ≤ 9223372036854775807
  | .bool _ => True
  | .bs l => Bytes l
  | .is l => Ints l
  | .st _ xs => WfA xs
where WfA : List V → Prop
  | [] => True
  | x :: xs => WfV x ∧ WfA xs
abbrev WfA := WfV.WfA
theorem arr_get (l : List Value) (k : Nat) : l.toArray[k]? = l[k]? := by simp
theorem wf_int {n : Int} (h : (Lit.int .i64 n).wf = true) : WfV (.int n) := by
  simp [Lit.wf, IntKind.min, IntKind.max, IntKind.signed, IntKind.bits] at h
  show _ ∧ _
  omega
theorem WfA.app {xs ys : List V} (h : WfA xs) (k : WfA ys) : WfA (xs ++ ys) := by
  induction xs with
  | nil => exact k
  | cons x xs ih => exact ⟨h.1, ih h.2⟩
theorem WfA.flat {α : Type} {f : α → List V} {r : List α} (h : ∀ x ∈ r, WfA (f x)) : WfA (r.flatMap f) := by
  induction r with
  | nil => trivial
  | cons x xs ih => rw [List.flatMap_cons]; exact WfA.app (h x (by simp)) (ih (fun y hy => h y (by simp [hy])))
theorem RdA.app {w : World} : ∀ {xs ys : List V} {vs us : List Value}, RdA w xs vs → RdA w ys us → RdA w (xs ++ ys) (vs ++ us)
  | [], _, [], _, _, k => k
  | x :: xs, ys, v :: vs, us, h, k => by
    rw [List.cons_append, List.cons_append]
    exact RdA.any_mk h.hd (RdA.app h.tl k)
  | [], _, _ :: _, _, h, _ => by unfold RdA at h; exact h.elim
  | _ :: _, _, [], _, h, _ => by unfold RdA at h; exact h.elim
theorem RdL.app {w : World} : ∀ {xs ys : List V} {g o : Nat}, RdL w xs g o → RdL w ys g (o + xs.length) → RdL w (xs ++ ys) g o
  | [], _, _, _, _, k => by simpa using k
  | x :: xs, ys, g, o, h, k => by
    rw [List.cons_append]
    unfold RdL at h ⊢
    exact ⟨h.1, RdL.app h.2 (by rw [List.length_cons] at k; rwa [show o + 1 + xs.length = o + (xs.length + 1) by omega])⟩
theorem RdL.of_cells {w : World} : ∀ {xs : List V} {vs : List Value} {g o : Nat}, RdA w xs vs → (∀ k, k < vs.length → w.cell? ⟨g, o + k, none⟩ = vs[k]?) → RdL w xs g o
  | [], [], _, _, _, _ => by unfold RdL; trivial
  | x :: xs, v :: vs, g, o, h, k => by
    unfold RdL
    refine ⟨⟨v, by simpa using k 0 (by simp), h.hd⟩, RdL.of_cells h.tl (fun i hi => ?_)⟩
    have := k (i + 1) (by simpa using hi)
    rw [show o + 1 + i = o + (i + 1) by omega]
    simpa using this
  | [], _ :: _, _, _, h, _ => by unfold RdA at h; exact h.elim
  | _ :: _, [], _, _, h, _ => by unfold RdA at h; exact h.elim
theorem RdL.of_rows {α : Type} {f : α → List V} {W : Nat} (hf : ∀ x, (f x).length = W) {w : World} {g : Nat} : ∀ {r : List α} {o : Nat}, (∀ j (hj : j < r.length), RdL w (f r[j]) g (o + j * W)) → RdL w (r.flatMap f) g o
  | [], _, _ => by simp only [List.flatMap_nil]; unfold RdL; trivial
  | x :: r, o, h => by
    rw [List.flatMap_cons]
    have h0 := h 0 (by simp)
    rw [Nat.zero_mul, Nat.add_zero] at h0
    refine RdL.app h0 ?_
    rw [hf]
    refine RdL.of_rows hf (fun j hj => ?_)
    have := h (j + 1) (by simpa using hj)
    rw [show o + W + j * W = o + (j + 1) * W by rw [Nat.add_mul]; omega]
    simpa using this
theorem RdA.len {w : World} : ∀ {xs : List V} {vs : List Value}, RdA w xs vs → vs.length = xs.length
  | [], [], _ => rfl
  | _ :: xs, _ :: vs, h => by simp [RdA.len h.tl]
  | [], _ :: _, h => by unfold RdA at h; exact h.elim
  | _ :: _, [], h => by unfold RdA at h; exact h.elim
theorem list_of' {α : Type} (n : Nat) (Q : Nat → α → Prop) (h : ∀ i, i < n → ∃ x, Q i x) : ∃ l : List α, l.length = n ∧ ∀ j (hj : j < l.length), Q j l[j] := by
  induction n with
  | zero => exact ⟨[], rfl, fun j hj => by simp at hj⟩
  | succ n ih =>
    obtain ⟨l, hl, hq⟩ := ih (fun i hi => h i (by omega))
    obtain ⟨x, hx⟩ := h n (by omega)
    refine ⟨l ++ [x], by simp [hl], fun j hj => ?_⟩
    by_cases e : j < l.length
    · rw [List.getElem_append_left e]; exact hq j e
    · have e2 : j = n := by simp at hj; omega
      subst e2
      rw [List.getElem_append_right (by omega)]
      simpa [hl] using hx
theorem list_1 {α : Type} {cs : List α} (h : cs.length = 1) : ∃ x0, cs = [x0] := by
  match cs, h with
  | x0 :: [], _ => exact ⟨x0, rfl⟩
theorem list_2 {α : Type} {cs : List α} (h : cs.length = 2) : ∃ x0 x1, cs = [x0, x1] := by
  match cs, h with
  | x0 :: x1 :: [], _ => exact ⟨x0, x1, rfl⟩
theorem list_3 {α : Type} {cs : List α} (h : cs.length = 3) : ∃ x0 x1 x2, cs = [x0, x1, x2] := by
  match cs, h with
  | x0 :: x1 :: x2 :: [], _ => exact ⟨x0, x1, x2, rfl⟩
theorem list_4 {α : Type} {cs : List α} (h : cs.length = 4) : ∃ x0 x1 x2 x3, cs = [x0, x1, x2, x3] := by
  match cs, h with
  | x0 :: x1 :: x2 :: x3 :: [], _ => exact ⟨x0, x1, x2, x3, rfl⟩
theorem list_5 {α : Type} {cs : List α} (h : cs.length = 5) : ∃ x0 x1 x2 x3 x4, cs = [x0, x1, x2, x3, x4] := by
  match cs, h with
  | x0 :: x1 :: x2 :: x3 :: x4 :: [], _ => exact ⟨x0, x1, x2, x3, x4, rfl⟩
theorem list_6 {α : Type} {cs : List α} (h : cs.length = 6) : ∃ x0 x1 x2 x3 x4 x5, cs = [x0, x1, x2, x3, x4, x5] := by
  match cs, h with
  | x0 :: x1 :: x2 :: x3 :: x4 :: x5 :: [], _ => exact ⟨x0, x1, x2, x3, x4, x5, rfl⟩
theorem list_7 {α : Type} {cs : List α} (h : cs.length = 7) : ∃ x0 x1 x2 x3 x4 x5 x6, cs = [x0, x1, x2, x3, x4, x5, x6] := by
  match cs, h with
  | x0 :: x1 :: x2 :: x3 :: x4 :: x5 :: x6 :: [], _ => exact ⟨x0, x1, x2, x3, x4, x5, x6, rfl⟩
theorem list_8 {α : Type} {cs : List α} (h : cs.length = 8) : ∃ x0 x1 x2 x3 x4 x5 x6 x7, cs = [x0, x1, x2, x3, x4, x5, x6, x7] := by
  match cs, h with
  | x0 :: x1 :: x2 :: x3 :: x4 :: x5 :: x6 :: x7 :: [], _ => exact ⟨x0, x1, x2, x3, x4, x5, x6, x7, rfl⟩
theorem list_9 {α : Type} {cs : List α} (h : cs.length = 9) : ∃ x0 x1 x2 x3 x4 x5 x6 x7 x8, cs = [x0, x1, x2, x3, x4, x5, x6, x7, x8] := by
  match cs, h with
  | x0 :: x1 :: x2 :: x3 :: x4 :: x5 :: x6 :: x7 :: x8 :: [], _ => exact ⟨x0, x1, x2, x3, x4, x5, x6, x7, x8, rfl⟩
theorem list_10 {α : Type} {cs : List α} (h : cs.length = 10) : ∃ x0 x1 x2 x3 x4 x5 x6 x7 x8 x9, cs = [x0, x1, x2, x3, x4, x5, x6, x7, x8, x9] := by
  match cs, h with
  | x0 :: x1 :: x2 :: x3 :: x4 :: x5 :: x6 :: x7 :: x8 :: x9 :: [], _ => exact ⟨x0, x1, x2, x3, x4, x5, x6, x7, x8, x9, rfl⟩
theorem list_11 {α : Type} {cs : List α} (h : cs.length = 11) : ∃ x0 x1 x2 x3 x4 x5 x6 x7 x8 x9 x10, cs = [x0, x1, x2, x3, x4, x5, x6, x7, x8, x9, x10] := by
  match cs, h with
  | x0 :: x1 :: x2 :: x3 :: x4 :: x5 :: x6 :: x7 :: x8 :: x9 :: x10 :: [], _ => exact ⟨x0, x1, x2, x3, x4, x5, x6, x7, x8, x9, x10, rfl⟩
theorem list_12 {α : Type} {cs : List α} (h : cs.length = 12) : ∃ x0 x1 x2 x3 x4 x5 x6 x7 x8 x9 x10 x11, cs = [x0, x1, x2, x3, x4, x5, x6, x7, x8, x9, x10, x11] := by
  match cs, h with
  | x0 :: x1 :: x2 :: x3 :: x4 :: x5 :: x6 :: x7 :: x8 :: x9 :: x10 :: x11 :: [], _ => exact ⟨x0, x1, x2, x3, x4, x5, x6, x7, x8, x9, x10, x11, rfl⟩
theorem list_13 {α : Type} {cs : List α} (h : cs.length = 13) : ∃ x0 x1 x2 x3 x4 x5 x6 x7 x8 x9 x10 x11 x12, cs = [x0, x1, x2, x3, x4, x5, x6, x7, x8, x9, x10, x11, x12] := by
  match cs, h with
  | x0 :: x1 :: x2 :: x3 :: x4 :: x5 :: x6 :: x7 :: x8 :: x9 :: x10 :: x11 :: x12 :: [], _ => exact ⟨x0, x1, x2, x3, x4, x5, x6, x7, x8, x9, x10, x11, x12, rfl⟩
theorem list_14 {α : Type} {cs : List α} (h : cs.length = 14) : ∃ x0 x1 x2 x3 x4 x5 x6 x7 x8 x9 x10 x11 x12 x13, cs = [x0, x1, x2, x3, x4, x5, x6, x7, x8, x9, x10, x11, x12, x13] := by
  match cs, h with
  | x0 :: x1 :: x2 :: x3 :: x4 :: x5 :: x6 :: x7 :: x8 :: x9 :: x10 :: x11 :: x12 :: x13 :: [], _ => exact ⟨x0, x1, x2, x3, x4, x5, x6, x7, x8, x9, x10, x11, x12, x13, rfl⟩
section
variable {H : Type} {enc : TypeId × Value → H} {w : World} {base : Nat} {spare : Nat → Bool} {held : Bool}
theorem open_st {P : Program} {α : Type} {f : α → List V} {W : Nat} (hf : ∀ x, (f x).length = W) (hW : 0 < W) {t e : TypeId} (ht : P.underlying t = some (.slice e)) (hC : P.cellsOf e = W)
    (hrow : ∀ (n : Nat) (cs : List Value) (x : DataW H × List MemPlace), DataW.trod enc P w base spare held n e cs = some x → ∃ r : α, RdA w (f r) cs ∧ WfA (f r))
    {n : Nat} {v : Value} {x : DataW H × List MemPlace} (h : DataW.trod enc P w base spare held n t [v] = some x) : ∃ r : List α, Rd w (.st r.length (r.flatMap f)) v ∧ WfV (.st r.length (r.flatMap f)) := by
  rcases open_slice ht h with ⟨hcs, _⟩ | ⟨a, len, cap, m, n', D, Pl, hcs, _, hl, hm, hmm, _, hi⟩
  · simp only [List.cons.injEq, and_true] at hcs
    subst hcs
    refine ⟨[], ?_, ?_⟩
    · unfold Rd; exact ⟨none, 0, rfl, ⟨Nat.le_refl _, by simp⟩, .inl ⟨rfl, rfl⟩⟩
    · exact trivial
  · simp only [List.cons.injEq, and_true] at hcs
    subst hcs
    unfold maxLen at hm
    have hml : len ≤ m := by rw [hmm]; split <;> omega
    have each : ∀ i, i < len → ∃ r : α, ∃ cs' : List Value, RdA w (f r) cs' ∧ WfA (f r) ∧ ∀ k, k < W → w.cell? ((a.add (i * W)).add k) = cs'[k]? := by
      intro i hi'
      obtain ⟨cs', hc, ht'⟩ := hi i (by omega)
      rw [hC] at hc
      obtain ⟨_, hc3, hat⟩ := World.cells?_some hc
      obtain ⟨r, h1, h2⟩ := hrow _ _ _ ht'
      exact ⟨r, cs', h1, h2, fun k hk => hat k (by omega)⟩
    obtain ⟨r, hlen, hq⟩ := list_of' len _ each
    refine ⟨r, ?_, ?_⟩
    · unfold Rd
      refine ⟨some a, cap, by rw [hlen], ⟨by omega, by omega⟩, ?_⟩
      rcases Nat.eq_zero_or_pos len with h0 | h0
      · obtain rfl := List.eq_nil_of_length_eq_zero (hlen.trans h0)
        exact .inl ⟨rfl, rfl⟩
      · obtain ⟨b, off, spot⟩ := a
        obtain ⟨cs', hr, _, hk⟩ := hq 0 (by omega)
        have hl' := hr.len
        rw [hf] at hl'
        have q0 := hk 0 hW
        rw [List.getElem?_eq_getElem (by omega)] at q0
        have hspot : spot = none := by simpa [Addr.add] using World.cell?_spot q0
        subst hspot
        have hlt : b < w.heap.size := by
          have := World.block_lt_of_cell? _ _ q0
          simpa [Addr.add] using this
        have ad : ∀ (o i : Nat), (⟨b, o, none⟩ : Addr).add i = ⟨b, o + i, none⟩ := fun o i => by unfold Addr.add; split <;> simp_all
        refine .inr ⟨b, off, rfl, hlt, RdL.of_rows hf (fun j hj => ?_)⟩
        obtain ⟨cs', hr, _, hk⟩ := hq j hj
        refine RdL.of_cells hr (fun k hk' => ?_)
        have hl' := hr.len
        rw [hf] at hl'
        have := hk k (by omega)
        rwa [ad, ad] at this
    · exact WfA.flat (fun x hx => by
        obtain ⟨j, hj, rfl⟩ := List.getElem_of_mem hx
        obtain ⟨_, _, q, _⟩ := hq j hj
        exact q)
end
end Go.Proofs.YtncnibkojneejaaGreatDoor

/- Chunk, Data and their results (WRITTEN BY tools/kinds.py) -/
namespace Go.Proofs.YtncnibkojneejaaGreatDoor
open Go.RowKit Go.Deep Go.ChangeShapes Go.WideShapes Go.ChangeAt

structure ChunkM where
  Kind : Int
  Flags : Int
  Body : List Int
def ChunkM.vs (x : ChunkM) : List V := [.int x.Kind, .int x.Flags, .bs x.Body]
theorem shape_Chunk {w : World} {n0 : Int} {n1 : Int} {l2 : List Int} {vs : List Value} (h : RdA w [.int n0, .int n1, .bs l2] vs) : ∃ (A2 : Option Addr) (c2 : Nat), vs = [.int .i64 n0, .int .i64 n1, .slice A2 l2.length c2] := by
  obtain ⟨q0, e0, t0⟩ := h.int_out
  subst e0
  obtain ⟨q1, e1, t1⟩ := t0.int_out
  subst e1
  obtain ⟨v2, q2, e2, h2, t2⟩ := t1.any_out
  obtain ⟨A2, c2, a2⟩ := h2.bs_sh
  subst e2 a2
  have z := t2.nil_out
  subst z
  exact ⟨A2, c2, rfl⟩
theorem cnt_Chunk (y : ChunkM) (h : tot.totL y.vs ≤ 1048576) : vcA y.vs ≤ 1000000000 := by
  simp only [ChunkM.vs, vcA, vc, tot.totL, tot, cc] at *
  omega
theorem mem_Chunk {w : World} {g o : Nat} {y : ChunkM} (h : RdL w y.vs g o) : ∃ (A2 : Option Addr) (c2 : Nat), w.cell? ⟨g, o, none⟩ = some (.int .i64 y.Kind) ∧ w.cell? ⟨g, o + 1, none⟩ = some (.int .i64 y.Flags) ∧ w.cell? ⟨g, o + 2, none⟩ = some (.slice A2 y.Body.length c2) ∧ Rd w (.bs y.Body) (.slice A2 y.Body.length c2) := by
  obtain ⟨u0, p0, t0⟩ := h.get? 0 (.int y.Kind) rfl
  have e0 := t0.int_out
  subst e0
  obtain ⟨u1, p1, t1⟩ := h.get? 1 (.int y.Flags) rfl
  have e1 := t1.int_out
  subst e1
  obtain ⟨u2, p2, t2⟩ := h.get? 2 (.bs y.Body) rfl
  obtain ⟨A2, c2, e2⟩ := t2.bs_sh
  subst e2
  rw [Nat.add_zero] at p0
  exact ⟨A2, c2, p0, p1, p2, t2⟩
structure ChunkResultM where
  Code : Int
  Chunk_Kind : Int
  Chunk_Flags : Int
  Chunk_Body : List Int
def ChunkResultM.vs (x : ChunkResultM) : List V := [.int x.Code, .int x.Chunk_Kind, .int x.Chunk_Flags, .bs x.Chunk_Body]
theorem shape_ChunkResult {w : World} {n0 : Int} {n1 : Int} {n2 : Int} {l3 : List Int} {vs : List Value} (h : RdA w [.int n0, .int n1, .int n2, .bs l3] vs) : ∃ (A3 : Option Addr) (c3 : Nat), vs = [.int .i64 n0, .int .i64 n1, .int .i64 n2, .slice A3 l3.length c3] := by
  obtain ⟨q0, e0, t0⟩ := h.int_out
  subst e0
  obtain ⟨q1, e1, t1⟩ := t0.int_out
  subst e1
  obtain ⟨q2, e2, t2⟩ := t1.int_out
  subst e2
  obtain ⟨v3, q3, e3, h3, t3⟩ := t2.any_out
  obtain ⟨A3, c3, a3⟩ := h3.bs_sh
  subst e3 a3
  have z := t3.nil_out
  subst z
  exact ⟨A3, c3, rfl⟩
theorem cnt_ChunkResult (y : ChunkResultM) (h : tot.totL y.vs ≤ 1048576) : vcA y.vs ≤ 1000000000 := by
  simp only [ChunkResultM.vs, vcA, vc, tot.totL, tot, cc] at *
  omega
theorem mem_ChunkResult {w : World} {g o : Nat} {y : ChunkResultM} (h : RdL w y.vs g o) : ∃ (A3 : Option Addr) (c3 : Nat), w.cell? ⟨g, o, none⟩ = some (.int .i64 y.Code) ∧ w.cell? ⟨g, o + 1, none⟩ = some (.int .i64 y.Chunk_Kind) ∧ w.cell? ⟨g, o + 2, none⟩ = some (.int .i64 y.Chunk_Flags) ∧ w.cell? ⟨g, o + 3, none⟩ = some (.slice A3 y.Chunk_Body.length c3) ∧ Rd w (.bs y.Chunk_Body) (.slice A3 y.Chunk_Body.length c3) := by
  obtain ⟨u0, p0, t0⟩ := h.get? 0 (.int y.Code) rfl
  have e0 := t0.int_out
  subst e0
  obtain ⟨u1, p1, t1⟩ := h.get? 1 (.int y.Chunk_Kind) rfl
  have e1 := t1.int_out
  subst e1
  obtain ⟨u2, p2, t2⟩ := h.get? 2 (.int y.Chunk_Flags) rfl
  have e2 := t2.int_out
  subst e2
  obtain ⟨u3, p3, t3⟩ := h.get? 3 (.bs y.Chunk_Body) rfl
  obtain ⟨A3, c3, e3⟩ := t3.bs_sh
  subst e3
  rw [Nat.add_zero] at p0
  exact ⟨A3, c3, p0, p1, p2, p3, t3⟩
structure DataM where
  Tsn : Int
  Stream : Int
  Seq : Int
  First : Bool
  Last : Bool
  Unordered : Bool
  Piece : List Int
def DataM.vs (x : DataM) : List V := [.int x.Tsn, .int x.Stream, .int x.Seq, .bool x.First, .bool x.Last, .bool x.Unordered, .bs x.Piece]
theorem shape_Data {w : World} {n0 : Int} {n1 : Int} {n2 : Int} {b3 : Bool} {b4 : Bool} {b5 : Bool} {l6 : List Int} {vs : List Value} (h : RdA w [.int n0, .int n1, .int n2, .bool b3, .bool b4, .bool b5, .bs l6] vs) : ∃ (A6 : Option Addr) (c6 : Nat), vs = [.int .i64 n0, .int .i64 n1, .int .i64 n2, .bool b3, .bool b4, .bool b5, .slice A6 l6.length c6] := by
  obtain ⟨q0, e0, t0⟩ := h.int_out
  subst e0
  obtain ⟨q1, e1, t1⟩ := t0.int_out
  subst e1
  obtain ⟨q2, e2, t2⟩ := t1.int_out
  subst e2
  obtain ⟨q3, e3, t3⟩ := t2.bool_out
  subst e3
  obtain ⟨q4, e4, t4⟩ := t3.bool_out
  subst e4
  obtain ⟨q5, e5, t5⟩ := t4.bool_out
  subst e5
  obtain ⟨v6, q6, e6, h6, t6⟩ := t5.any_out
  obtain ⟨A6, c6, a6⟩ := h6.bs_sh
  subst e6 a6
  have z := t6.nil_out
  subst z
  exact ⟨A6, c6, rfl⟩
theorem cnt_Data (y : DataM) (h : tot.totL y.vs ≤ 1048576) : vcA y.vs ≤ 1000000000 := by
  simp only [DataM.vs, vcA, vc, tot.totL, tot, cc] at *
  omega
theorem mem_Data {w : World} {g o : Nat} {y : DataM} (h : RdL w y.vs g o) : ∃ (A6 : Option Addr) (c6 : Nat), w.cell? ⟨g, o, none⟩ = some (.int .i64 y.Tsn) ∧ w.cell? ⟨g, o + 1, none⟩ = some (.int .i64 y.Stream) ∧ w.cell? ⟨g, o + 2, none⟩ = some (.int .i64 y.Seq) ∧ w.cell? ⟨g, o + 3, none⟩ = some (.bool y.First) ∧ w.cell? ⟨g, o + 4, none⟩ = some (.bool y.Last) ∧ w.cell? ⟨g, o + 5, none⟩ = some (.bool y.Unordered) ∧ w.cell? ⟨g, o + 6, none⟩ = some (.slice A6 y.Piece.length c6) ∧ Rd w (.bs y.Piece) (.slice A6 y.Piece.length c6) := by
  obtain ⟨u0, p0, t0⟩ := h.get? 0 (.int y.Tsn) rfl
  have e0 := t0.int_out
  subst e0
  obtain ⟨u1, p1, t1⟩ := h.get? 1 (.int y.Stream) rfl
  have e1 := t1.int_out
  subst e1
  obtain ⟨u2, p2, t2⟩ := h.get? 2 (.int y.Seq) rfl
  have e2 := t2.int_out
  subst e2
  obtain ⟨u3, p3, t3⟩ := h.get? 3 (.bool y.First) rfl
  have e3 := t3.bool_out
  subst e3
  obtain ⟨u4, p4, t4⟩ := h.get? 4 (.bool y.Last) rfl
  have e4 := t4.bool_out
  subst e4
  obtain ⟨u5, p5, t5⟩ := h.get? 5 (.bool y.Unordered) rfl
  have e5 := t5.bool_out
  subst e5
  obtain ⟨u6, p6, t6⟩ := h.get? 6 (.bs y.Piece) rfl
  obtain ⟨A6, c6, e6⟩ := t6.bs_sh
  subst e6
  rw [Nat.add_zero] at p0
  exact ⟨A6, c6, p0, p1, p2, p3, p4, p5, p6, t6⟩
structure DataResultM where
  Code : Int
  Data_Tsn : Int
  Data_Stream : Int
  Data_Seq : Int
  Data_First : Bool
  Data_Last : Bool
  Data_Unordered : Bool
  Data_Piece : List Int
def DataResultM.vs (x : DataResultM) : List V := [.int x.Code, .int x.Data_Tsn, .int x.Data_Stream, .int x.Data_Seq, .bool x.Data_First, .bool x.Data_Last, .bool x.Data_Unordered, .bs x.Data_Piece]
theorem shape_DataResult {w : World} {n0 : Int} {n1 : Int} {n2 : Int} {n3 : Int} {b4 : Bool} {b5 : Bool} {b6 : Bool} {l7 : List Int} {vs : List Value} (h : RdA w [.int n0, .int n1, .int n2, .int n3, .bool b4, .bool b5, .bool b6, .bs l7] vs) : ∃ (A7 : Option Addr) (c7 : Nat), vs = [.int .i64 n0, .int .i64 n1, .int .i64 n2, .int .i64 n3, .bool b4, .bool b5, .bool b6, .slice A7 l7.length c7] := by
  obtain ⟨q0, e0, t0⟩ := h.int_out
  subst e0
  obtain ⟨q1, e1, t1⟩ := t0.int_out
  subst e1
  obtain ⟨q2, e2, t2⟩ := t1.int_out
  subst e2
  obtain ⟨q3, e3, t3⟩ := t2.int_out
  subst e3
  obtain ⟨q4, e4, t4⟩ := t3.bool_out
  subst e4
  obtain ⟨q5, e5, t5⟩ := t4.bool_out
  subst e5
  obtain ⟨q6, e6, t6⟩ := t5.bool_out
  subst e6
  obtain ⟨v7, q7, e7, h7, t7⟩ := t6.any_out
  obtain ⟨A7, c7, a7⟩ := h7.bs_sh
  subst e7 a7
  have z := t7.nil_out
  subst z
  exact ⟨A7, c7, rfl⟩
theorem cnt_DataResult (y : DataResultM) (h : tot.totL y.vs ≤ 1048576) : vcA y.vs ≤ 1000000000 := by
  simp only [DataResultM.vs, vcA, vc, tot.totL, tot, cc] at *
  omega
theorem mem_DataResult {w : World} {g o : Nat} {y : DataResultM} (h : RdL w y.vs g o) : ∃ (A7 : Option Addr) (c7 : Nat), w.cell? ⟨g, o, none⟩ = some (.int .i64 y.Code) ∧ w.cell? ⟨g, o + 1, none⟩ = some (.int .i64 y.Data_Tsn) ∧ w.cell? ⟨g, o + 2, none⟩ = some (.int .i64 y.Data_Stream) ∧ w.cell? ⟨g, o + 3, none⟩ = some (.int .i64 y.Data_Seq) ∧ w.cell? ⟨g, o + 4, none⟩ = some (.bool y.Data_First) ∧ w.cell? ⟨g, o + 5, none⟩ = some (.bool y.Data_Last) ∧ w.cell? ⟨g, o + 6, none⟩ = some (.bool y.Data_Unordered) ∧ w.cell? ⟨g, o + 7, none⟩ = some (.slice A7 y.Data_Piece.length c7) ∧ Rd w (.bs y.Data_Piece) (.slice A7 y.Data_Piece.length c7) := by
  obtain ⟨u0, p0, t0⟩ := h.get? 0 (.int y.Code) rfl
  have e0 := t0.int_out
  subst e0
  obtain ⟨u1, p1, t1⟩ := h.get? 1 (.int y.Data_Tsn) rfl
  have e1 := t1.int_out
  subst e1
  obtain ⟨u2, p2, t2⟩ := h.get? 2 (.int y.Data_Stream) rfl
  have e2 := t2.int_out
  subst e2
  obtain ⟨u3, p3, t3⟩ := h.get? 3 (.int y.Data_Seq) rfl
  have e3 := t3.int_out
  subst e3
  obtain ⟨u4, p4, t4⟩ := h.get? 4 (.bool y.Data_First) rfl
  have e4 := t4.bool_out
  subst e4
  obtain ⟨u5, p5, t5⟩ := h.get? 5 (.bool y.Data_Last) rfl
  have e5 := t5.bool_out
  subst e5
  obtain ⟨u6, p6, t6⟩ := h.get? 6 (.bool y.Data_Unordered) rfl
  have e6 := t6.bool_out
  subst e6
  obtain ⟨u7, p7, t7⟩ := h.get? 7 (.bs y.Data_Piece) rfl
  obtain ⟨A7, c7, e7⟩ := t7.bs_sh
  subst e7
  rw [Nat.add_zero] at p0
  exact ⟨A7, c7, p0, p1, p2, p3, p4, p5, p6, p7, t7⟩
end Go.Proofs.YtncnibkojneejaaGreatDoor
