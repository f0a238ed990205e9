/- An argument that is a packet: what the walk is told of it. -/
import Derived.Test.YtepcikghhnfacaaPkS
import Derived.Deep.Strs
import Derived.Deep.Slices
import Derived.ProofKit
import Derived.OpenShut
namespace Go.Proofs.Ytepcikghhnfacaa
open Go.RowKit Go.Deep Go.ChangeShapes Go.WideShapes Go.ChangeAt

/-- A slice of chunks that came in. -/
structure InCs (w : World) (P : Option Addr) (len cap : Nat) (cs : List Chk) : Prop where
  hlen : cs.length = len
  hbytes : ∀ x ∈ cs, Bytes x.body
  hbody : ∀ x ∈ cs, (x.body.length : Int) ≤ 9223372036854775807
  hlist : Cs w P cs
  hle : len ≤ cap
  hcap : (cap : Int) ≤ 9223372036854775807
theorem list_of {α : Type} (n : Nat) (Q : Nat → α → Prop) (h : ∀ i, i < n → ∃ x, Q i x) : ∃ l : List α, l.length = n ∧ ∀ j (hj : j < l.length), Q j l[j] := by
  induction n with
  | zero => exact ⟨[], rfl, fun j hj => by simp at hj⟩
  | succ n ih =>
    obtain ⟨l, hl, hq⟩ := ih (fun i hi => h i (by omega))
    obtain ⟨x, hx⟩ := h n (by omega)
    refine ⟨l ++ [x], by simp [hl], fun j hj => ?_⟩
    by_cases e : j < l.length
    · rw [List.getElem_append_left e]; exact hq j e
    · have e2 : j = n := by simp at hj; omega
      subst e2
      rw [List.getElem_append_right (by omega)]
      simpa [hl] using hx
theorem two_of {α : Type} {cs : Array α} (h : cs.size = 2) : ∃ a b, cs = #[a, b] := by
  obtain ⟨l⟩ := cs
  rcases l with _ | ⟨a, _ | ⟨b, _ | ⟨c, r⟩⟩⟩ <;> simp at h
  exact ⟨a, b, rfl⟩
theorem three_list {α : Type} {cs : List α} (h : cs.length = 3) : ∃ a b c, cs = [a, b, c] := by
  rcases cs with _ | ⟨a, _ | ⟨b, _ | ⟨c, _ | ⟨d, r⟩⟩⟩⟩ <;> simp at h
  exact ⟨a, b, c, rfl⟩
section
variable {H : Type} {enc : TypeId × Value → H} {w : World} {base : Nat} {spare : Nat → Bool} {held : Bool}
theorem ck3 : Try.prog.cellsOf 36 = 3 := by kernel_rfl
theorem ck1 : Try.prog.cellsOf 2 = 1 := by kernel_rfl
theorem ckb : Try.prog.cellsOf 22 = 1 := by kernel_rfl
theorem pk2 : Try.prog.cellsOf 46 = 2 := by kernel_rfl
theorem pkc : Try.prog.cellsOf 44 = 1 := by kernel_rfl
theorem open_chunk {n : Nat} {cs : List Value} {x : DataW H × List MemPlace} (hc : cs.length = 3) (h : DataW.trod enc Try.prog w base spare held n 36 cs = some x) :
    ∃ (k f : Int) (A : Option Addr) (l : List Int) (c : Nat), cs = [.int .i64 k, .int .i64 f, .slice A l.length c] ∧ Bs w A l ∧ Bytes l ∧ (l.length : Int) ≤ 9223372036854775807 := by
  obtain ⟨v1, v2, v3, rfl⟩ := three_list hc
  obtain ⟨y0, y1, y2, m, _, _, t0, t1, t2⟩ := Go.Deep.trod_struct3 Try.underlying36 h
  simp only [ck1, ckb, List.drop_zero, List.drop_succ_cons, List.take_succ_cons, List.take_zero] at t0 t1 t2
  obtain ⟨k, hk, _⟩ := DataW.trod_int Try.underlying2 t0
  obtain ⟨f, hf, _⟩ := DataW.trod_int Try.underlying2 t1
  simp only [List.cons.injEq, and_true] at hk hf
  subst hk hf
  rcases open_ints Try.underlying22 Try.underlying5 (by kernel_rfl) t2 with ⟨hcs, _⟩ | ⟨a, len, c, zs, hcs, _, hl, hm, hz, _, hcell, hwz⟩
  · simp only [List.cons.injEq, and_true] at hcs
    subst hcs
    exact ⟨k, f, none, [], 0, rfl, .inl rfl, fun x hx => by simp at hx, by simp⟩
  · simp only [List.cons.injEq, and_true] at hcs
    subst hcs
    have hzl : len ≤ zs.length := by rw [hz]; split <;> omega
    have hll : (zs.take len).length = len := by rw [List.length_take]; omega
    unfold maxLen at hm
    refine ⟨k, f, some a, zs.take len, c, by rw [hll], ?_, fun x hx => ?_, by rw [hll]; omega⟩
    · rcases Nat.eq_zero_or_pos len with h0 | h0
      · exact .inl (List.eq_nil_of_length_eq_zero (by omega))
      · obtain ⟨b, off, spot⟩ := a
        have hc0 := hcell 0 (by omega)
        have hspot : spot = none := by simpa [Addr.add] using World.cell?_spot hc0
        subst hspot
        have hc1 : w.cell? ⟨b, off, none⟩ = some (.int .u8 (zs.getD 0 0)) := by simpa [Addr.add] using hc0
        refine .inr ⟨b, off, rfl, World.block_lt_of_cell? _ _ hc1, fun j hj => ?_⟩
        have h1 := hcell j (by omega)
        have e : (zs.take len).getD j 0 = zs.getD j 0 := by
          rw [List.getD_eq_getElem?_getD, List.getD_eq_getElem?_getD, List.getElem?_take_of_lt (by omega)]
        rw [e, ← h1]
        rcases j with _ | j <;> simp [Addr.add]
    · have h1 := hwz x (List.mem_of_mem_take hx)
      simp [Lit.wf, IntKind.min, IntKind.max, IntKind.signed, IntKind.bits] at h1
      omega
theorem open_chunks {n : Nat} {v : Value} {x : DataW H × List MemPlace} (h : DataW.trod enc Try.prog w base spare held n 44 [v] = some x) :
    ∃ (P : Option Addr) (len cap : Nat) (cs : List Chk), v = .slice P len cap ∧ InCs w P len cap cs := by
  rcases open_slice Try.underlying44 h with ⟨hcs, _⟩ | ⟨a, len, cap, m, n', D, Pl, hcs, _, hl, hm, hmm, _, hi⟩
  · simp only [List.cons.injEq, and_true] at hcs
    subst hcs
    exact ⟨none, 0, 0, [], rfl, ⟨rfl, fun x hx => by simp at hx, fun x hx => by simp at hx, .inl rfl, Nat.le_refl _, by omega⟩⟩
  · simp only [List.cons.injEq, and_true] at hcs
    subst hcs
    unfold maxLen at hm
    have hml : len ≤ m := by rw [hmm]; split <;> omega
    have each : ∀ i, i < len → ∃ y : Chk, ∃ (A : Option Addr) (c : Nat), w.cell? (a.add (i * 3)) = some (.int .i64 y.kind) ∧ w.cell? ((a.add (i * 3)).add 1) = some (.int .i64 y.flags) ∧ w.cell? ((a.add (i * 3)).add 2) = some (.slice A y.body.length c) ∧ Bs w A y.body ∧ Bytes y.body ∧ (y.body.length : Int) ≤ 9223372036854775807 := by
      intro i hi'
      obtain ⟨cs', hc, ht⟩ := hi i (by omega)
      rw [ck3] at hc
      obtain ⟨_, hc3, hat⟩ := World.cells?_some hc
      obtain ⟨k, f, A, l, c, rfl, h1, h2, h3⟩ := open_chunk hc3 ht
      refine ⟨⟨k, f, l⟩, A, c, ?_, hat 1 (by omega), hat 2 (by omega), h1, h2, h3⟩
      have h0 := hat 0 (by omega)
      have e0 : (a.add (i * 3)).add 0 = a.add (i * 3) := by simp [Addr.add]
      rw [e0] at h0
      exact h0
    obtain ⟨cs, hlen, hq⟩ := list_of len _ each
    refine ⟨some a, len, cap, cs, rfl, ⟨hlen, fun x hx => ?_, fun x hx => ?_, ?_, hl, by omega⟩⟩
    rotate_left 2
    · rcases Nat.eq_zero_or_pos len with h0 | h0
      · exact .inl (List.eq_nil_of_length_eq_zero (by omega))
      · obtain ⟨b, off, spot⟩ := a
        obtain ⟨A0, c0, q0, _⟩ := hq 0 (by omega)
        have hspot : spot = none := by simpa [Addr.add] using World.cell?_spot q0
        subst hspot
        have hlt : b < w.heap.size := by
          have := World.block_lt_of_cell? _ _ q0
          simpa [Addr.add] using this
        have ad : ∀ (o i : Nat), (⟨b, o, none⟩ : Addr).add i = ⟨b, o + i, none⟩ := fun o i => by unfold Addr.add; split <;> simp_all
        refine .inr ⟨b, off, rfl, hlt, fun j hj => ?_⟩
        obtain ⟨A, c, q0, q1, q2, q3, _⟩ := hq j hj
        rw [ad] at q0 q1 q2
        rw [ad] at q1 q2
        exact ⟨A, c, hlt, q0, q1, q2, q3⟩
    · obtain ⟨j, hj, rfl⟩ := List.getElem_of_mem hx
      obtain ⟨_, _, _, _, _, _, q, _⟩ := hq j hj
      exact q
    · obtain ⟨j, hj, rfl⟩ := List.getElem_of_mem hx
      obtain ⟨_, _, _, _, _, _, _, q⟩ := hq j hj
      exact q
/-- A packet by value. -/
theorem open_pk {cs0 : Array Value} {d : DataW H} {p : List MemPlace} (hsz : cs0.size = 2) (h : DataW.Trod enc Try.prog w base spare held 46 (.agg cs0) d p) :
    ∃ (t : Int) (P : Option Addr) (len cap : Nat) (cs : List Chk), cs0 = #[.int .i64 t, .slice P len cap] ∧ InCs w P len cap cs := by
  obtain ⟨fuel, hf⟩ := h
  obtain ⟨v1, v2, rfl⟩ := two_of hsz
  obtain ⟨y0, y1, n, _, _, t0, t1⟩ := trod_struct2 Try.underlying46 hf
  simp only [Value.cells, ck1, pkc, List.drop_zero, List.drop_succ_cons, List.take_succ_cons, List.take_zero] at t0 t1
  obtain ⟨t, ht, _⟩ := DataW.trod_int Try.underlying2 t0
  simp only [List.cons.injEq, and_true] at ht
  subst ht
  obtain ⟨P, len, cap, cs, rfl, hi⟩ := open_chunks t1
  exact ⟨t, P, len, cap, cs, rfl, hi⟩
end
end Go.Proofs.Ytepcikghhnfacaa
