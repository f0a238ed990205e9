/- Chapter 6: the program's map of secrets: what it holds, by values; a store, a look-up. -/
import Derived.Test.YtjjileefdjjijaaM6
import Derived.Maps.OwnSet
import Derived.Maps.RangeWalk
namespace Go.Proofs.Ytjjileefdjjijaa
open Go.RowKit Go.Deep

/-- An element is kept as it is: the map's datum holds the values themselves. -/
def heldR (v : Value) : Option (DataW Value × List MemPlace) := some (.held v, [])
/-- An entry: its Id, its value, the bytes that it owns, the blocks in which they lie. -/
structure KE where
  id : Int
  val : Value
  bytes : List Int
  lo : Nat
  hi : Nat
def KE.sec (x : KE) : SecretM := ⟨x.id, x.bytes⟩
def KD (D : DataW Value) (q : List KE) : Prop := (∀ x ∈ q, ∀ z, D.atKey (.int .i64 x.id) z = .held x.val) ∧ (∀ k, (∀ x ∈ q, x.id ≠ k) → Maps.has D (.int .i64 k) = false)
def KOwn (w : World) (b : Nat) (q : List KE) : Prop := (∀ x ∈ q, OwV x.lo x.hi w (.bs x.bytes) x.val ∧ b < x.lo) ∧ q.Pairwise (fun x y => x.id ≠ y.id ∧ (x.hi ≤ y.lo ∨ y.hi ≤ x.lo))
theorem und_map : Try.prog.underlying 86 = some (.map 2 29) := by kernel_rfl
theorem und_i64 : Try.prog.underlying 2 = some (.int .i64) := by kernel_rfl
theorem key_law : Maps.Keyed Try.prog 2 := Maps.int_keyed und_i64
theorem zero_bs (w : World) : (zeroValue 29).run Try.prog w = .ok (.slice none 0 0) w := by kernel_rfl
theorem key_i64 {k : Int} (h : WfV (.int k)) : Go.keyOf Try.prog 2 (.int .i64 k) = some (.int .i64 k) := Maps.keyOf_int_mk und_i64 (by
  have h1 : -9223372036854775808 ≤ k ∧ k ≤ 9223372036854775807 := h
  simp [Lit.wf, IntKind.min, IntKind.max, IntKind.signed, IntKind.bits]; omega)
def KMap (w : World) (b N : Nat) (q : List KE) : Prop := (∃ D, w.ownsMap Try.prog 2 heldR b N D ∧ KD D q ∧ Maps.size D = q.length) ∧ KOwn w b q
theorem KOwn.nil (w : World) (b : Nat) : KOwn w b [] := ⟨fun _ h => by simp at h, List.Pairwise.nil⟩
theorem KOwn.below {w w' : World} {b : Nat} {q : List KE} (h : KOwn w b q) (hb : Below w.heap.size w w') : KOwn w' b q := ⟨fun x hx => ⟨(h.1 x hx).1.below hb, (h.1 x hx).2⟩, h.2⟩
theorem KOwn.win {w w' : World} {b B C : Nat} {q : List KE} (h : KOwn w b q) (hw : Win B C w w') (ho : ∀ x ∈ q, x.hi ≤ B ∨ C ≤ x.lo) : KOwn w' b q := ⟨fun x hx => ⟨(h.1 x hx).1.win hw (ho x hx), (h.1 x hx).2⟩, h.2⟩
theorem KD.nil : KD (.map []) [] := ⟨fun _ h => by simp at h, fun _ _ => rfl⟩
def putQ (q : List KE) (x : KE) : List KE := q.filter (fun y => y.id != x.id) ++ [x]
theorem lit_ne {a b : Int} (h : a ≠ b) : (Lit.int .i64 a) ≠ .int .i64 b := fun e => h (by injection e)
theorem KD.put {D : DataW Value} {q : List KE} (h : KD D q) (hD : Maps.IsMap D) (x : KE) : KD (D.put (.int .i64 x.id) (.held x.val)) (putQ q x) := by
  refine ⟨fun y hy z => ?_, fun k hk => ?_⟩
  · rcases List.mem_append.1 hy with hy | hy
    · obtain ⟨h1, h2⟩ := List.mem_filter.1 hy
      rw [Maps.atKey_put_other (lit_ne (by simpa using h2))]
      exact h.1 y h1 z
    · simp at hy; subst hy
      exact Maps.atKey_put_same hD (show WideAt.IsKeyLit (.int .i64 y.id) from trivial) _ _
  · have hx : x.id ≠ k := hk x (by simp [putQ])
    rw [Maps.has_put_other (lit_ne (fun e => hx e.symm))]
    refine h.2 k (fun y hy => ?_)
    by_cases e : y.id = x.id
    · rw [e]; exact hx
    · exact hk y (List.mem_append_left _ (List.mem_filter.2 ⟨hy, by simpa using e⟩))
theorem filter_none {q : List KE} {k : Int} (h : ∀ y ∈ q, y.id ≠ k) : q.filter (fun y => y.id != k) = q := List.filter_eq_self.2 (fun y hy => by simpa using h y hy)
theorem filter_one {k : Int} : ∀ {q : List KE}, q.Pairwise (fun x y => x.id ≠ y.id ∧ (x.hi ≤ y.lo ∨ y.hi ≤ x.lo)) → (∃ y ∈ q, y.id = k) → (q.filter (fun y => y.id != k)).length + 1 = q.length
  | [], _, h => by obtain ⟨y, hy, _⟩ := h; simp at hy
  | x :: q, hp, h => by
    rw [List.pairwise_cons] at hp
    by_cases e : x.id = k
    · have : q.filter (fun y => y.id != k) = q := filter_none (fun y hy => by rw [← e]; exact fun z => (hp.1 y hy).1 z.symm)
      rw [List.filter_cons_of_neg (by simpa using e), this]; rfl
    · rw [List.filter_cons_of_pos (by simpa using e), List.length_cons, List.length_cons]
      obtain ⟨y, hy, hk⟩ := h
      have : ∃ y ∈ q, y.id = k := by
        rcases List.mem_cons.1 hy with rfl | hy
        · exact absurd hk e
        · exact ⟨y, hy, hk⟩
      rw [filter_one hp.2 this]
theorem KD.has_iff {D : DataW Value} {q : List KE} (h : KD D q) (k : Int) : Maps.has D (.int .i64 k) = true ↔ ∃ y ∈ q, y.id = k := by
  constructor
  · intro hh
    by_cases e : ∃ y ∈ q, y.id = k
    · exact e
    · rw [h.2 k (fun y hy q => e ⟨y, hy, q⟩)] at hh; cases hh
  · rintro ⟨y, hy, rfl⟩
    exact Maps.has_true_of_atKey (h.1 y hy)
theorem KD.size_put {D : DataW Value} {q : List KE} (h : KD D q) (hT : Maps.Tidy D) (hp : q.Pairwise (fun x y => x.id ≠ y.id ∧ (x.hi ≤ y.lo ∨ y.hi ≤ x.lo))) (hs : Maps.size D = q.length) (x : KE) (d : DataW Value) : Maps.size (D.put (.int .i64 x.id) d) = (putQ q x).length := by
  rw [Maps.size_put hT, putQ, List.length_append, List.length_singleton]
  by_cases e : ∃ y ∈ q, y.id = x.id
  · rw [if_pos ((h.has_iff _).2 e), hs, filter_one hp e]
  · have e2 : ∀ y ∈ q, y.id ≠ x.id := fun y hy z => e ⟨y, hy, z⟩
    rw [if_neg (by rw [h.2 _ e2]; simp), filter_none e2, hs]
theorem KOwn.put {w : World} {b : Nat} {q : List KE} (h : KOwn w b q) (x : KE) (hx : OwV x.lo x.hi w (.bs x.bytes) x.val) (hb : b < x.lo) (hl : ∀ y ∈ q, y.hi ≤ x.lo) : KOwn w b (putQ q x) := by
  refine ⟨fun y hy => ?_, ?_⟩
  · rcases List.mem_append.1 hy with hy | hy
    · exact h.1 y (List.mem_filter.1 hy).1
    · simp at hy; subst hy; exact ⟨hx, hb⟩
  · refine List.pairwise_append.2 ⟨h.2.filter _, by simp, fun y hy z hz => ?_⟩
    simp at hz; subst hz
    obtain ⟨h1, h2⟩ := List.mem_filter.1 hy
    exact ⟨by simpa using h2, .inl (hl y h1)⟩
theorem turned_win {w w' : World} {b : Nat} (h : w.mapTurned w' b) : Win b (b + 1) w w' := ⟨h.grown.os, h.grown.tape, h.grown.output, h.grown.size, fun k hk ho => h.grown.block k hk (fun e => by injection e; omega), fun _ _ => h.frozen _⟩
theorem below_win {w w' : World} (h : Below w.heap.size w w') (B C : Nat) : Win B C w w' := ⟨h.os, h.tape, h.output, h.size, fun k hk _ => h.block k hk, fun _ ha => h.frozen ha⟩
theorem Win.trans' {B C : Nat} {a b c : World} (h : Win B C a b) (k : Win B C b c) : Win B C a c := ⟨k.os.trans h.os, k.tape.trans h.tape, k.output.trans h.output, Nat.le_trans h.size k.size, fun j hj ho => (k.block j (Nat.lt_of_lt_of_le hj h.size) ho).trans (h.block j hj ho), fun x hx => (k.frozen x (Nat.lt_of_lt_of_le hx h.size)).trans (h.frozen x hx)⟩
theorem own_map_of {P : Program} {k : TypeId} {R : Value → Option (DataW Value × List MemPlace)} {w w' : World} {b n : Nat} {D : DataW Value} (h : w.ownsMap P k R b n D) (e : w'.heap[b]? = w.heap[b]?) : w'.ownsMap P k R b n D := by
  obtain ⟨es, clock, hb, r⟩ := h
  exact ⟨es, clock, e.trans hb, r⟩
theorem KMap.lt {w : World} {b N : Nat} {q : List KE} (h : KMap w b N q) : b < w.heap.size := by obtain ⟨⟨D, h1, _⟩, _⟩ := h; exact h1.lt
theorem KMap.below {w w' : World} {b N : Nat} {q : List KE} (h : KMap w b N q) (hb : Below w.heap.size w w') : KMap w' b N q := by
  have hl := h.lt
  obtain ⟨⟨D, h1, h2, h3⟩, h4⟩ := h
  exact ⟨⟨D, own_map_of h1 (hb.block _ hl), h2, h3⟩, h4.below hb⟩
theorem KMap.win {w w' : World} {b N B C : Nat} {q : List KE} (h : KMap w b N q) (hw : Win B C w w') (hb : b < B ∨ C ≤ b) (ho : ∀ x ∈ q, x.hi ≤ B ∨ C ≤ x.lo) : KMap w' b N q := by
  have hl := h.lt
  obtain ⟨⟨D, h1, h2, h3⟩, h4⟩ := h
  exact ⟨⟨D, own_map_of h1 (hw.block _ hl hb), h2, h3⟩, h4.win hw ho⟩
theorem KMap.made (w : World) : KMap (w.alloc (.map #[] 0)) w.heap.size 0 [] := ⟨⟨_, World.ownsMap_made w _ _ _, KD.nil, rfl⟩, KOwn.nil _ _⟩
theorem KMap.mono {w : World} {b N M : Nat} {q : List KE} (h : KMap w b N q) (hN : N ≤ M) : KMap w b M q := by
  obtain ⟨⟨D, h1, h2, h3⟩, h4⟩ := h
  exact ⟨⟨D, h1.mono hN, h2, h3⟩, h4⟩
/-- What a store leaves. -/
theorem KMap.store {w1 w' : World} {b N : Nat} {q : List KE} {D : DataW Value} (hD : KD D q) (hs : Maps.size D = q.length) (hT : Maps.Tidy D) (ho : KOwn w1 b q) (x : KE) (hx : OwV x.lo x.hi w1 (.bs x.bytes) x.val) (hb : b < x.lo) (hl : ∀ y ∈ q, y.hi ≤ x.lo)
    (h1 : w'.ownsMap Try.prog 2 heldR b (N + 1) (D.put (.int .i64 x.id) (.held x.val))) (h2 : w1.mapTurned w' b) : KMap w' b (N + 1) (putQ q x) :=
  ⟨⟨_, h1, hD.put hT.isMap x, hD.size_put hT ho.2 hs x _⟩, (ho.put x hx hb hl).win (turned_win h2) (fun y hy => by
    rcases List.mem_append.1 hy with hy | hy
    · exact .inr (ho.1 y (List.mem_filter.1 hy).1).2
    · simp at hy; subst hy; exact .inr hb)⟩
end Go.Proofs.Ytjjileefdjjijaa
