/- Chapter 7: rows of chunks. -/
import Derived.Test.YtacdnednkglobaaMa9
import Derived.Test.YtacdnednkglobaaMa8
namespace Go.Proofs.Ytacdnednkglobaa
open Go.RowKit Go.Deep

/-- A chunk in a row. -/
def ckE (x : ChunkM) (v : Value) (lo hi : Nat) : RE := ⟨[.int x.Kind, .int x.Flags], v, x.Body, lo, hi⟩
theorem ckE_ok (x : ChunkM) (v : Value) (lo hi : Nat) : REok 3 (ckE x v lo hi) := ⟨rfl, fun p hp => by simp [ckE] at hp; rcases hp with rfl | rfl <;> trivial⟩
theorem ckE_vs (x : ChunkM) (v : Value) (lo hi : Nat) : (ckE x v lo hi).vs = x.vs := rfl
/-- The row q is the list r. -/
structure RowCk (q : List RE) (r : List ChunkM) : Prop where
  len : q.length = r.length
  vs : q.flatMap RE.vs = r.flatMap ChunkM.vs
  ok : ∀ x ∈ q, REok 3 x
theorem RowCk.nil : RowCk [] [] := ⟨rfl, rfl, fun x hx => by simp at hx⟩
theorem RowCk.snoc {q : List RE} {r : List ChunkM} (h : RowCk q r) (x : ChunkM) (v : Value) (lo hi : Nat) : RowCk (q ++ [ckE x v lo hi]) (r ++ [x]) :=
  ⟨by simp [h.len], by rw [List.flatMap_append, List.flatMap_append, h.vs]; rfl, fun y hy => by
    rcases List.mem_append.1 hy with hy | hy
    · exact h.ok y hy
    · simp at hy; subst hy; exact ckE_ok _ _ _ _⟩
theorem RowCk.cons {q : List RE} {r : List ChunkM} (h : RowCk q r) (x : ChunkM) (v : Value) (lo hi : Nat) : RowCk (ckE x v lo hi :: q) (x :: r) :=
  ⟨by simp [h.len], by rw [List.flatMap_cons, List.flatMap_cons, h.vs]; rfl, fun y hy => by
    rcases List.mem_cons.1 hy with rfl | hy
    · exact ckE_ok _ _ _ _
    · exact h.ok y hy⟩
theorem RowCk.take {q : List RE} {r : List ChunkM} {j : Nat} (hj : j < r.length) (h : RowCk q (r.take j)) (v : Value) (lo hi : Nat) : RowCk (q ++ [ckE r[j] v lo hi]) (r.take (j + 1)) := by
  rw [List.take_add_one, List.getElem?_eq_getElem hj]
  exact h.snoc _ _ _ _
theorem RowCk.own {w : World} {B0 B : Nat} {v : Value} {q : List RE} {r : List ChunkM} (h : RowCk q r) (ho : w.ownsRow B 51 3 v r.length (flatR q)) (h00 : B0 ≤ B) (hq : RTs B0 w q) : OwV B0 w.heap.size w (st_Chunk r) v := by
  have := RTs.own ho h.len h.ok (by decide) h00 hq
  rw [h.vs] at this
  exact this
theorem infoCk : (Try.prog.info? 51).map (fun i => (i.zero, i.size, i.bytes)) = some (some (.agg #[.int .i64 0, .int .i64 0, .slice none 0 0]), 3, 40) := by kernel_rfl
theorem wpList_append_Ck {w : World} {ops : Array Oper} {rest : List Oper} {o : Oper} {a : Act} {Q : Exit → Act → World → Prop} (hgd : o.guard = none) (s x : Operand)
    (ho : o.op = .call { callee := .builtin .append, args := #[s, x], argTypes := #[29, 29] })
    (base : Nat) (v : Value) (n : Nat) (xs : List Value) (hs : a.eval s = v) (hown : w.ownsRow base 51 3 v n xs)
    (q t : Nat) (k f : Int) (A : Option Addr) (m c : Nat) (hx : a.eval x = .slice (some ⟨q, 0, none⟩) 1 1) (hq : Blk w q t #[.int .i64 k, .int .i64 f, .slice A m c]) (hm : n ≤ 90000) (hbase : base ≤ w.heap.size)
    (h : ∀ v' w', w'.ownsRow base 51 3 v' (n + 1) (xs ++ [.int .i64 k, .int .i64 f, .slice A m c]) → w.grownBy w' v.ownBlock → wpList Try.prog ops Q rest (a.put o.dst v') w') : wpList Try.prog ops Q (o :: rest) a w :=
  wpList_append_row hgd s x Try.underlying29 infoCk rfl (by decide) (by decide) ho base v n xs hs hown q 1 1 [.int .i64 k, .int .i64 f, .slice A m c] hx rfl
    (fun j u hu => by rw [hq.cell, ← hu]; simp) (fun u hu => by simp only [List.mem_cons, List.not_mem_nil, or_false] at hu; rcases hu with rfl | rfl | rfl <;> rfl) (by omega) hbase (fun v' w' h1 h2 _ => h v' w' h1 h2)
end Go.Proofs.Ytacdnednkglobaa
