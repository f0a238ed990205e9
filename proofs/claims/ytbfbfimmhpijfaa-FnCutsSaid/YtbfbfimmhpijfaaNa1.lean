import Derived.Test.YtbfbfimmhpijfaaTyData
import Derived.Test.YtbfbfimmhpijfaaPack
import Derived.Test.YtbfbfimmhpijfaaNa0
import Derived.Test.YtbfbfimmhpijfaaTyMsg
import Derived.Test.YtbfbfimmhpijfaaBytes
import Derived.Laws.Slices
import Derived.Test.YtbfbfimmhpijfaaRows7
import Derived.Test.YtbfbfimmhpijfaaUniR

/- Chapter 5 on numbers: data. -/
namespace Go.Proofs.Ytbfbfimmhpijfaa
open Go.RowKit Go.Deep

theorem bsOf {w : World} {l : List Int} {A : Option Addr} {n c : Nat} (h : Rd w (.bs l) (.slice A n c)) : Bs w A l := by
  obtain ⟨A', c', e, _, hb⟩ := h.bs_out
  injection e with e1 e2 e3
  subst e1
  exact hb
def pairL (n : Int) : List Int := [n / 256, n % 256]
def bitN (b : Bool) (k : Int) : Int := if b then k else 0
/-- The fault of a data, its chunk, PackData's answer. -/
def pdF (y : DataM) : Int := if wB y.Tsn && inB y.Stream 0 9 && inB y.Seq 0 65535 then (if 1 ≤ y.Piece.length ∧ y.Piece.length ≤ 100 then (if y.Unordered = true ∧ y.Seq ≠ 0 then 1 else 0) else 2) else 3
def pdC (y : DataM) : ChunkM := ⟨0, bitN y.Last 1 + bitN y.First 2 + bitN y.Unordered 4, pk y.Tsn ++ pairL y.Stream ++ pairL y.Seq ++ y.Piece⟩
def crOf (f : Int) (c : ChunkM) : ChunkResultM := if f = 0 then ⟨0, c.Kind, c.Flags, c.Body⟩ else ⟨f, 0, 0, []⟩
def pdR (y : DataM) : ChunkResultM := crOf (pdF y) (pdC y)
theorem pdF_zero {y : DataM} (h : pdF y = 0) : (0 ≤ y.Tsn ∧ y.Tsn ≤ 4294967295) ∧ (0 ≤ y.Stream ∧ y.Stream ≤ 9) ∧ (0 ≤ y.Seq ∧ y.Seq ≤ 65535) ∧ 1 ≤ y.Piece.length ∧ y.Piece.length ≤ 100 := by
  unfold pdF wB inB at h
  split at h
  · next h1 =>
    simp at h1
    split at h
    · next h2 => exact ⟨h1.1.1, h1.1.2, h1.2, h2.1, h2.2⟩
    · cases h
  · cases h
/-- A chunk is just the one that was made. -/
def isM (x : ChunkM) (z : ChunkResultM) : Bool := z.Code == 0 && x.Kind == z.Chunk_Kind && x.Flags == z.Chunk_Flags && x.Body == z.Chunk_Body
theorem pdR_len (y : DataM) (_ : WfA y.vs) (h : tot.totL y.vs ≤ 1048576) : vcA (pdR y).vs ≤ 1000000000 := by
  simp only [DataM.vs, tot.totL, tot] at h
  unfold pdR crOf
  split
  · simp [ChunkResultM.vs, vcA, vc, cc, pdC, pk, pairL]; omega
  · simp [ChunkResultM.vs, vcA, vc, cc]
end Go.Proofs.Ytbfbfimmhpijfaa

/- Chapter 8 on numbers: messages, pieces. -/
namespace Go.Proofs.Ytbfbfimmhpijfaa
open Go.RowKit Go.Deep

theorem data_eq {x y : DataM} : x = y ↔ x.Tsn = y.Tsn ∧ x.Stream = y.Stream ∧ x.Seq = y.Seq ∧ x.First = y.First ∧ x.Last = y.Last ∧ x.Unordered = y.Unordered ∧ x.Piece = y.Piece := by cases x; cases y; simp
theorem msg_eq {x y : MessageM} : x = y ↔ x.Stream = y.Stream ∧ x.Unordered = y.Unordered ∧ x.Bytes = y.Bytes := by cases x; cases y; simp
/-- What a comparison of two lists answers. -/
def EqG {α : Type} (a b : α) (w : World) (e : Ending) (w' : World) : Prop := ∃ r : Bool, e = .returned (.bool r) ∧ (r = true ↔ a = b) ∧ Below w.heap.size w w'
open Classical in
noncomputable def sameG {α : Type} (a b : α) : Bool := decide (a = b)
theorem EqG.bol {α : Type} {a b : α} {w : World} {e : Ending} {w' : World} (h : EqG a b w e w') : e = .returned (.bool (sameG a b)) ∧ Below w.heap.size w w' := by
  obtain ⟨r, rfl, h1, h2⟩ := h
  refine ⟨?_, h2⟩
  have : r = sameG a b := by rw [Bool.eq_iff_iff, h1]; simp [sameG]
  rw [this]
/-- The fault of a message. -/
def msF (y : MessageM) : Int := if inB y.Stream 0 9 then (if 1 ≤ y.Bytes.length ∧ y.Bytes.length ≤ 400 then 0 else 2) else 3
theorem msF_out {y : MessageM} (h : inB y.Stream 0 9 = false) : msF y = 3 := by simp [msF, h]
theorem msF_none {y : MessageM} (h : inB y.Stream 0 9 = true) (k : y.Bytes.length < 1) : msF y = 2 := by simp only [msF, h, if_true]; rw [if_neg (by omega)]
theorem msF_many {y : MessageM} (h : inB y.Stream 0 9 = true) (k : 400 < y.Bytes.length) : msF y = 2 := by simp only [msF, h, if_true]; rw [if_neg (by omega)]
theorem msF_ok {y : MessageM} (h : inB y.Stream 0 9 = true) (k : ¬ y.Bytes.length < 1) (k2 : ¬ 400 < y.Bytes.length) : msF y = 0 := by simp only [msF, h, if_true]; rw [if_pos (by omega)]
theorem msF_zero {y : MessageM} (h : msF y = 0) : (0 ≤ y.Stream ∧ y.Stream ≤ 9) ∧ 1 ≤ y.Bytes.length ∧ y.Bytes.length ≤ 400 := by
  unfold msF inB at h
  split at h
  · next h1 =>
    simp at h1
    split at h
    · next h2 => exact ⟨h1, h2⟩
    · cases h
  · cases h
/-- The pieces that a message is cut into. -/
def cutAt (y : MessageM) (s : Nat) (t q : Int) (i : Nat) : DataM := ⟨(t + i) % 4294967296, y.Stream, q, decide (i = 0), decide (y.Bytes.length ≤ (i + 1) * s), y.Unordered, (y.Bytes.drop (i * s)).take s⟩
def cutN (k s : Nat) : Nat := (k + s - 1) / s
def cutL (y : MessageM) (s : Nat) (t q : Int) : List DataM := (List.range (cutN y.Bytes.length s)).map (cutAt y s t q)
def cutF (y : MessageM) (s t q : Int) : Int := if msF y = 0 then (if inB s 4 100 && wB t && inB q 0 65535 then (if y.Unordered = true ∧ q ≠ 0 then 1 else 0) else 3) else msF y
def cutR (y : MessageM) (s t q : Int) : DatasResultM := if cutF y s t q = 0 then ⟨0, cutL y s.toNat t q⟩ else ⟨cutF y s t q, []⟩
theorem cutL_len (y : MessageM) (s : Nat) (t q : Int) : (cutL y s t q).length = cutN y.Bytes.length s := by simp [cutL]
theorem cutN_le {k s : Nat} (hs : 4 ≤ s) (hk : k ≤ 400) : cutN k s ≤ 100 := by
  unfold cutN
  have : (k + s - 1) / s < 101 := (Nat.div_lt_iff_lt_mul (by omega)).2 (by omega)
  omega
/-- The pieces of one message, all of them and in order. -/
def dat0 : DataM := ⟨0, 0, 0, false, false, false, []⟩
def fits (x y : DataM) : Prop := x.Last = false ∧ y.First = false ∧ x.Stream = y.Stream ∧ x.Seq = y.Seq ∧ x.Unordered = y.Unordered ∧ y.Tsn = (x.Tsn + 1) % 4294967296
def whole (r : List DataM) : Prop := (r.getD 0 dat0).First = true ∧ (r.getD (r.length - 1) dat0).Last = true ∧ ∀ i, i + 1 < r.length → fits (r.getD i dat0) (r.getD (i + 1) dat0)
def pdsF : List DataM → Int
  | [] => 0
  | x :: r => if pdF x = 0 then pdsF r else pdF x
theorem pdsF_take : ∀ (r : List DataM) (j : Nat) (hj : j < r.length), pdsF (r.take j) = 0 → pdsF (r.take (j + 1)) = pdF r[j]
  | x :: r, 0, _, _ => by simp only [List.take_succ_cons, List.take_zero, pdsF, List.getElem_cons_zero]; split <;> simp_all
  | x :: r, j + 1, hj, h => by
    simp only [List.take_succ_cons, pdsF] at h ⊢
    split at h
    · next h1 => rw [if_pos h1, pdsF_take r j (by simpa using hj) h]; simp
    · next h1 => exact absurd h h1
theorem pdsF_first : ∀ (r : List DataM) (j : Nat) (hj : j < r.length), pdsF (r.take j) = 0 → pdF r[j] ≠ 0 → pdsF r = pdF r[j]
  | x :: r, 0, _, _, h => by simp only [List.getElem_cons_zero] at h ⊢; simp [pdsF, h]
  | x :: r, j + 1, hj, h, k => by
    simp only [List.take_succ_cons, pdsF] at h ⊢
    split at h
    · next h1 => rw [if_pos h1]; simpa using pdsF_first r j (by simpa using hj) h (by simpa using k)
    · next h1 => exact absurd h h1
theorem pdsF_all : ∀ (r : List DataM), pdsF r = 0 → ∀ x ∈ r, pdF x = 0
  | [], _, x, hx => by simp at hx
  | y :: r, h, x, hx => by
    simp only [pdsF] at h
    split at h
    · next h1 =>
      rcases List.mem_cons.1 hx with rfl | hx
      · exact h1
      · exact pdsF_all r h x hx
    · next h1 => exact absurd h h1
def jnM (r : List DataM) : MessageM := ⟨(r.getD 0 dat0).Stream, (r.getD 0 dat0).Unordered, r.flatMap DataM.Piece⟩
open Classical in
noncomputable def jnF (r : List DataM) : Int := if 1 ≤ r.length ∧ r.length ≤ 100 then (if pdsF r = 0 then (if whole r then msF (jnM r) else 1) else pdsF r) else 2
noncomputable def jnR (r : List DataM) : MessageResultM := if jnF r = 0 then ⟨0, (jnM r).Stream, (jnM r).Unordered, (jnM r).Bytes⟩ else ⟨jnF r, 0, false, []⟩
theorem jnF_many {r : List DataM} (h : ¬ (1 ≤ r.length ∧ r.length ≤ 100)) : jnF r = 2 := by unfold jnF; rw [if_neg h]
theorem jnF_data {r : List DataM} (h : 1 ≤ r.length ∧ r.length ≤ 100) (k : pdsF r ≠ 0) : jnF r = pdsF r := by unfold jnF; rw [if_pos h, if_neg k]
theorem jnF_form {r : List DataM} (h : 1 ≤ r.length ∧ r.length ≤ 100) (k : pdsF r = 0) (k2 : ¬ whole r) : jnF r = 1 := by unfold jnF; rw [if_pos h, if_pos k, if_neg k2]
theorem jnF_msg {r : List DataM} (h : 1 ≤ r.length ∧ r.length ≤ 100) (k : pdsF r = 0) (k2 : whole r) : jnF r = msF (jnM r) := by unfold jnF; rw [if_pos h, if_pos k, if_pos k2]
theorem jnR_bad {r : List DataM} {f : Int} (h : jnF r = f) (k : f ≠ 0) : jnR r = ⟨f, 0, false, []⟩ := by unfold jnR; rw [h, if_neg k]
theorem jnR_ok {r : List DataM} (h : jnF r = 0) : jnR r = ⟨0, (jnM r).Stream, (jnM r).Unordered, (jnM r).Bytes⟩ := by unfold jnR; rw [if_pos h]
theorem jn_len : ∀ {r : List DataM}, (∀ x ∈ r, pdF x = 0) → (r.flatMap DataM.Piece).length ≤ r.length * 100
  | [], _ => by simp
  | x :: r, h => by
    have h1 := (pdF_zero (h x (by simp))).2.2.2.2
    have h2 := jn_len (r := r) (fun y hy => h y (by simp [hy]))
    rw [List.flatMap_cons, List.length_append, List.length_cons]; omega
end Go.Proofs.Ytbfbfimmhpijfaa

/- Parts of a slice of bytes: what s[i:h], s[:h], s[i:] hand back. -/
namespace Go.Proofs.Ytbfbfimmhpijfaa
open Go.RowKit Go.Deep

theorem sizeU8 (u : World) : (sizeOf (Try.prog.elem 22)).run Try.prog u = .ok 1 u := by
  obtain ⟨i0, hi, hzz⟩ := Option.map_eq_some_iff.1 infoU8
  simp only [Prod.mk.injEq] at hzz
  have he : Try.prog.elem 22 = 5 := by kernel_rfl
  rw [he]
  simp [sizeOf, typeInfo, hi, hzz.2.1]
theorem undB : Try.prog.underlying 22 = some (.slice (Try.prog.elem 22)) := by kernel_rfl
theorem add_off (b off i : Nat) : (⟨b, off, none⟩ : Addr).add i = ⟨b, off + i, none⟩ := by unfold Addr.add; split <;> simp_all
/-- The address behind i elements: the old one where nothing is left of the capacity. -/
def cutA (A : Option Addr) (i c : Nat) : Option Addr := if c = i then A else A.map (·.add i)
theorem cutA_bs {w : World} {A : Option Addr} {l m : List Int} {i c : Nat} (hA : Bs w A l) (hm : i + m.length ≤ l.length) (hc : l.length ≤ c) (he : ∀ j, j < m.length → l.getD (i + j) 0 = m.getD j 0) : Bs w (cutA A i c) m := by
  rcases hA with h | ⟨b, off, rfl, h2, h3⟩
  · rw [h] at hm
    exact .inl (List.eq_nil_of_length_eq_zero (by rw [List.length_nil] at hm; omega))
  · unfold cutA
    split
    · exact .inl (List.eq_nil_of_length_eq_zero (by omega))
    · exact .inr ⟨b, off + i, by simp [add_off], h2, fun j hj => by rw [show off + i + j = off + (i + j) by omega, h3 (i + j) (by omega), he j hj]⟩
theorem cutA_drop {w : World} {A : Option Addr} {l : List Int} {i c : Nat} (hA : Bs w A l) (hi : i ≤ l.length) (hc : l.length ≤ c) : Bs w (cutA A i c) (l.drop i) :=
  cutA_bs hA (by rw [List.length_drop]; omega) hc (fun j _ => by simp [List.getD_eq_getElem?_getD])
theorem cutA_take {w : World} {A : Option Addr} {l : List Int} {n : Nat} (hA : Bs w A l) (hn : n ≤ l.length) : Bs w A (l.take n) := by
  rcases hA with h | ⟨b, off, rfl, h2, h3⟩
  · exact .inl (by rw [h]; simp)
  · exact .inr ⟨b, off, rfl, h2, fun j hj => by
      rw [List.length_take] at hj
      rw [h3 j (by omega)]
      simp [List.getD_eq_getElem?_getD, List.getElem?_take_of_lt (show j < n by omega)]⟩
theorem cut_lh (A : Option Addr) (z c i n : Nat) (H : Int) (hH : H = (i : Int) + (n : Int)) (hc : i + n ≤ c) (u : World) :
    (Instr.slice 22 (.slice A z c) (some (.int .i64 (i : Int))) (some (.int .i64 H)) none).run Try.prog u = .ok (.slice (cutA A i c) n (c - i)) u := by
  subst hH
  rw [run_slice_lh (w := u) 22 A z c undB .i64 .i64 (i : Int) ((i : Int) + (n : Int)) (by omega) (by omega) (by omega)]
  simp only [sizeU8, Result.andThen, sliced]
  rw [show ((i : Int) + (n : Int)).toNat - (i : Int).toNat = n by omega, Int.toNat_natCast, Nat.mul_one]
  rfl
theorem cut_h (A : Option Addr) (z c n : Nat) (H : Int) (hH : H = (n : Int)) (hc : n ≤ c) (u : World) :
    (Instr.slice 22 (.slice A z c) none (some (.int .i64 H)) none).run Try.prog u = .ok (.slice A n c) u := by
  subst hH
  rw [run_slice_h (w := u) 22 A z c undB .i64 (n : Int) (by omega) (by omega)]
  simp only [sizeU8, Result.andThen, sliced]
  rw [Int.toNat_natCast, Nat.sub_zero, Nat.sub_zero, Nat.zero_mul]
  split
  · rfl
  · rcases A with _ | ⟨b, off, sp⟩
    · rfl
    · simp [Addr.add]
theorem cut_l (A : Option Addr) (z c i : Nat) (H : Int) (hH : H = (i : Int)) (hz : i ≤ z) (u : World) :
    (Instr.slice 22 (.slice A z c) (some (.int .i64 H)) none none).run Try.prog u = .ok (.slice (cutA A i c) (z - i) (c - i)) u := by
  subst hH
  rw [run_slice_l (w := u) 22 A z c undB .i64 (i : Int) (by omega) (by omega)]
  simp only [sizeU8, Result.andThen, sliced]
  rw [Int.toNat_natCast, Nat.mul_one]
  rfl
end Go.Proofs.Ytbfbfimmhpijfaa

/- Chapter 8: rows of pieces. -/
namespace Go.Proofs.Ytbfbfimmhpijfaa
open Go.RowKit Go.Deep

/-- A piece in a row. -/
def daE (x : DataM) (v : Value) (lo hi : Nat) : RowE := ⟨[.int x.Tsn, .int x.Stream, .int x.Seq, .bool x.First, .bool x.Last, .bool x.Unordered], v, x.Piece, lo, hi⟩
theorem daE_ok (x : DataM) (v : Value) (lo hi : Nat) : REok 7 (daE x v lo hi) := ⟨rfl, fun p hp => by simp [daE] at hp; rcases hp with rfl | rfl | rfl | rfl | rfl | rfl <;> trivial⟩
theorem daE_vs (x : DataM) (v : Value) (lo hi : Nat) : (daE x v lo hi).vs = x.vs := rfl
/-- The row q is the list r. -/
structure RowDa (q : List RowE) (r : List DataM) : Prop where
  len : q.length = r.length
  vs : q.flatMap RowE.vs = r.flatMap DataM.vs
  ok : ∀ x ∈ q, REok 7 x
theorem RowDa.nil : RowDa [] [] := ⟨rfl, rfl, fun x hx => by simp at hx⟩
theorem RowDa.snoc {q : List RowE} {r : List DataM} (h : RowDa q r) (x : DataM) (v : Value) (lo hi : Nat) : RowDa (q ++ [daE x v lo hi]) (r ++ [x]) :=
  ⟨by simp [h.len], by rw [List.flatMap_append, List.flatMap_append, h.vs]; rfl, fun y hy => by
    rcases List.mem_append.1 hy with hy | hy
    · exact h.ok y hy
    · simp at hy; subst hy; exact daE_ok _ _ _ _⟩
theorem RowDa.cons {q : List RowE} {r : List DataM} (h : RowDa q r) (x : DataM) (v : Value) (lo hi : Nat) : RowDa (daE x v lo hi :: q) (x :: r) :=
  ⟨by simp [h.len], by rw [List.flatMap_cons, List.flatMap_cons, h.vs]; rfl, fun y hy => by
    rcases List.mem_cons.1 hy with rfl | hy
    · exact daE_ok _ _ _ _
    · exact h.ok y hy⟩
theorem RowDa.take {q : List RowE} {r : List DataM} {j : Nat} (hj : j < r.length) (h : RowDa q (r.take j)) (v : Value) (lo hi : Nat) : RowDa (q ++ [daE r[j] v lo hi]) (r.take (j + 1)) := by
  rw [List.take_add_one, List.getElem?_eq_getElem hj]
  exact h.snoc _ _ _ _
theorem RowDa.own {w : World} {B0 B : Nat} {v : Value} {q : List RowE} {r : List DataM} (h : RowDa q r) (ho : w.ownsRow B 38 7 v r.length (flatR q)) (h00 : B0 ≤ B) (hq : RTs B0 w q) : OwV B0 w.heap.size w (st_Data r) v := by
  have := RTs.own ho h.len h.ok (by decide) h00 hq
  rw [h.vs] at this
  exact this
theorem infoDa : (Try.prog.info? 38).map (fun i => (i.zero, i.size, i.bytes)) = some (some (.agg #[.int .i64 0, .int .i64 0, .int .i64 0, .bool false, .bool false, .bool false, .slice none 0 0]), 7, 56) := by kernel_rfl
theorem wpList_append_Da {w : World} {ops : Array Oper} {rest : List Oper} {o : Oper} {a : Act} {Q : Exit → Act → World → Prop} (hgd : o.guard = none) (s x : Operand)
    (ho : o.op = .call { callee := .builtin .append, args := #[s, x], argTypes := #[28, 28] })
    (base : Nat) (v : Value) (n : Nat) (xs : List Value) (hs : a.eval s = v) (hown : w.ownsRow base 38 7 v n xs)
    (q t : Nat) (k f h2 : Int) (b0 b1 b2 : Bool) (A : Option Addr) (m c : Nat) (hx : a.eval x = .slice (some ⟨q, 0, none⟩) 1 1) (hq : Blk w q t #[.int .i64 k, .int .i64 f, .int .i64 h2, .bool b0, .bool b1, .bool b2, .slice A m c]) (hm : n ≤ 90000) (hbase : base ≤ w.heap.size)
    (h : ∀ v' w', w'.ownsRow base 38 7 v' (n + 1) (xs ++ [.int .i64 k, .int .i64 f, .int .i64 h2, .bool b0, .bool b1, .bool b2, .slice A m c]) → w.grownBy w' v.ownBlock → wpList Try.prog ops Q rest (a.put o.dst v') w') : wpList Try.prog ops Q (o :: rest) a w :=
  wpList_append_row hgd s x Try.underlying28 infoDa rfl (by decide) (by decide) ho base v n xs hs hown q 1 1 [.int .i64 k, .int .i64 f, .int .i64 h2, .bool b0, .bool b1, .bool b2, .slice A m c] hx rfl
    (fun j u hu => by rw [hq.cell, ← hu]; simp) (fun u hu => by simp only [List.mem_cons, List.not_mem_nil, or_false] at hu; rcases hu with rfl | rfl | rfl | rfl | rfl | rfl | rfl <;> rfl) (by omega) hbase (fun v' w' h1 h2 _ => h v' w' h1 h2)
end Go.Proofs.Ytbfbfimmhpijfaa
