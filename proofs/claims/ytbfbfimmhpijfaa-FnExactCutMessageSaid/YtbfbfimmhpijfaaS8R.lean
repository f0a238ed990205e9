/- Chapter 8: rows of pieces. -/
import Derived.Test.YtbfbfimmhpijfaaRows7
import Derived.Test.YtbfbfimmhpijfaaM8
import Derived.Test.YtbfbfimmhpijfaaSlB
import Derived.Test.YtbfbfimmhpijfaaUniR
namespace Go.Proofs.Ytbfbfimmhpijfaa
open Go.RowKit Go.Deep

/-- A piece in a row. -/
def daE (x : DataM) (v : Value) (lo hi : Nat) : RowE := ⟨[.int x.Tsn, .int x.Stream, .int x.Seq, .bool x.First, .bool x.Last, .bool x.Unordered], v, x.Piece, lo, hi⟩
theorem daE_ok (x : DataM) (v : Value) (lo hi : Nat) : REok 7 (daE x v lo hi) := ⟨rfl, fun p hp => by simp [daE] at hp; rcases hp with rfl | rfl | rfl | rfl | rfl | rfl <;> trivial⟩
theorem daE_vs (x : DataM) (v : Value) (lo hi : Nat) : (daE x v lo hi).vs = x.vs := rfl
/-- The row q is the list r. -/
structure RowDa (q : List RowE) (r : List DataM) : Prop where
  len : q.length = r.length
  vs : q.flatMap RowE.vs = r.flatMap DataM.vs
  ok : ∀ x ∈ q, REok 7 x
theorem RowDa.nil : RowDa [] [] := ⟨rfl, rfl, fun x hx => by simp at hx⟩
theorem RowDa.snoc {q : List RowE} {r : List DataM} (h : RowDa q r) (x : DataM) (v : Value) (lo hi : Nat) : RowDa (q ++ [daE x v lo hi]) (r ++ [x]) :=
  ⟨by simp [h.len], by rw [List.flatMap_append, List.flatMap_append, h.vs]; rfl, fun y hy => by
    rcases List.mem_append.1 hy with hy | hy
    · exact h.ok y hy
    · simp at hy; subst hy; exact daE_ok _ _ _ _⟩
theorem RowDa.cons {q : List RowE} {r : List DataM} (h : RowDa q r) (x : DataM) (v : Value) (lo hi : Nat) : RowDa (daE x v lo hi :: q) (x :: r) :=
  ⟨by simp [h.len], by rw [List.flatMap_cons, List.flatMap_cons, h.vs]; rfl, fun y hy => by
    rcases List.mem_cons.1 hy with rfl | hy
    · exact daE_ok _ _ _ _
    · exact h.ok y hy⟩
theorem RowDa.take {q : List RowE} {r : List DataM} {j : Nat} (hj : j < r.length) (h : RowDa q (r.take j)) (v : Value) (lo hi : Nat) : RowDa (q ++ [daE r[j] v lo hi]) (r.take (j + 1)) := by
  rw [List.take_add_one, List.getElem?_eq_getElem hj]
  exact h.snoc _ _ _ _
theorem RowDa.own {w : World} {B0 B : Nat} {v : Value} {q : List RowE} {r : List DataM} (h : RowDa q r) (ho : w.ownsRow B 38 7 v r.length (flatR q)) (h00 : B0 ≤ B) (hq : RTs B0 w q) : OwV B0 w.heap.size w (st_Data r) v := by
  have := RTs.own ho h.len h.ok (by decide) h00 hq
  rw [h.vs] at this
  exact this
theorem infoDa : (Try.prog.info? 38).map (fun i => (i.zero, i.size, i.bytes)) = some (some (.agg #[.int .i64 0, .int .i64 0, .int .i64 0, .bool false, .bool false, .bool false, .slice none 0 0]), 7, 56) := by kernel_rfl
theorem wpList_append_Da {w : World} {ops : Array Oper} {rest : List Oper} {o : Oper} {a : Act} {Q : Exit → Act → World → Prop} (hgd : o.guard = none) (s x : Operand)
    (ho : o.op = .call { callee := .builtin .append, args := #[s, x], argTypes := #[28, 28] })
    (base : Nat) (v : Value) (n : Nat) (xs : List Value) (hs : a.eval s = v) (hown : w.ownsRow base 38 7 v n xs)
    (q t : Nat) (k f h2 : Int) (b0 b1 b2 : Bool) (A : Option Addr) (m c : Nat) (hx : a.eval x = .slice (some ⟨q, 0, none⟩) 1 1) (hq : Blk w q t #[.int .i64 k, .int .i64 f, .int .i64 h2, .bool b0, .bool b1, .bool b2, .slice A m c]) (hm : n ≤ 90000) (hbase : base ≤ w.heap.size)
    (h : ∀ v' w', w'.ownsRow base 38 7 v' (n + 1) (xs ++ [.int .i64 k, .int .i64 f, .int .i64 h2, .bool b0, .bool b1, .bool b2, .slice A m c]) → w.grownBy w' v.ownBlock → wpList Try.prog ops Q rest (a.put o.dst v') w') : wpList Try.prog ops Q (o :: rest) a w :=
  wpList_append_row hgd s x Try.underlying28 infoDa rfl (by decide) (by decide) ho base v n xs hs hown q 1 1 [.int .i64 k, .int .i64 f, .int .i64 h2, .bool b0, .bool b1, .bool b2, .slice A m c] hx rfl
    (fun j u hu => by rw [hq.cell, ← hu]; simp) (fun u hu => by simp only [List.mem_cons, List.not_mem_nil, or_false] at hu; rcases hu with rfl | rfl | rfl | rfl | rfl | rfl | rfl <;> rfl) (by omega) hbase (fun v' w' h1 h2 _ => h v' w' h1 h2)
end Go.Proofs.Ytbfbfimmhpijfaa
