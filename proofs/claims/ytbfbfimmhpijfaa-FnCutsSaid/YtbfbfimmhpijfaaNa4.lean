import Derived.Test.YtbfbfimmhpijfaaNa3
import Derived.Test.YtbfbfimmhpijfaaNa0
import Derived.Test.YtbfbfimmhpijfaaRegInv
import Derived.Test.YtbfbfimmhpijfaaApp
import Derived.Deep.LoopGhost
import Derived.Test.YtbfbfimmhpijfaaPack
import Derived.Test.YtbfbfimmhpijfaaLawKit0
import Derived.Test.YtbfbfimmhpijfaaNa1
import Derived.Test.YtbfbfimmhpijfaaUniR

/- Chapter 8: a message that was cut is joined again; what is left without its first piece is no message. -/
namespace Go.Proofs.Ytbfbfimmhpijfaa
open Go.RowKit Go.Deep

theorem getD_at9 {r : List DataM} {j : Nat} (hj : j < r.length) : r.getD j dat0 = r[j] := by
  rw [List.getD_eq_getElem?_getD, List.getElem?_eq_getElem hj]; rfl
theorem cutF_zero {y : MessageM} {s t q : Int} (h : cutF y s t q = 0) : msF y = 0 ∧ (4 ≤ s ∧ s ≤ 100) ∧ (0 ≤ t ∧ t ≤ 4294967295) ∧ (0 ≤ q ∧ q ≤ 65535) ∧ ¬ (y.Unordered = true ∧ q ≠ 0) := by
  have h1 : msF y = 0 := by
    by_cases k : msF y = 0
    · exact k
    · rw [cutF_msg k] at h; exact h
  have h2 : (inB s 4 100 && wB t && inB q 0 65535) = true := by
    by_cases k : (inB s 4 100 && wB t && inB q 0 65535) = true
    · exact k
    · rw [cutF_range h1 (by simpa using k)] at h; cases h
  refine ⟨h1, ?_⟩
  have h3 : ¬ (y.Unordered = true ∧ q ≠ 0) := fun k => by rw [cutF_form h1 h2 k] at h; cases h
  simp only [Bool.and_eq_true] at h2
  exact ⟨inB_out h2.1.1, wB_out h2.1.2, inB_out h2.2, h3⟩
theorem cut_get {y : MessageM} {s : Nat} {t q : Int} {i : Nat} (h : i < (cutL y s t q).length) : (cutL y s t q).getD i dat0 = cutAt y s t q i := by
  rw [getD_at9 h]; simp [cutL]
theorem cut_ne {y : MessageM} {s : Nat} {t q : Int} (hs : 0 < s) (hb : 1 ≤ y.Bytes.length) : 1 ≤ (cutL y s t q).length := by
  have := (cutN_lt (K := y.Bytes.length) (i := 0) hs).2 (by omega)
  rw [cutL_len]; omega
theorem cut_pd {y : MessageM} {s : Nat} {t q : Int} (h : cutF y (s : Int) t q = 0) : ∀ x ∈ cutL y s t q, pdF x = 0 := by
  obtain ⟨h1, h2, h3, h4, h5⟩ := cutF_zero h
  obtain ⟨hy, hb1, hb2⟩ := msF_zero h1
  intro x hx
  simp only [cutL, List.mem_map, List.mem_range] at hx
  obtain ⟨i, hi, rfl⟩ := hx
  have hlt := (cutN_lt (K := y.Bytes.length) (i := i) (show 0 < s by omega)).1 hi
  have hp := piece_len y.Bytes (i * s) s
  have e1 : wB (cutAt y s t q i).Tsn = true := by
    show wB ((t + (i : Int)) % 4294967296) = true
    simp only [wB, inB, Bool.and_eq_true, decide_eq_true_eq]; omega
  have e2 : inB (cutAt y s t q i).Stream 0 9 = true := by
    show inB y.Stream 0 9 = true
    simp only [inB, Bool.and_eq_true, decide_eq_true_eq]; omega
  have e3 : inB (cutAt y s t q i).Seq 0 65535 = true := by
    show inB q 0 65535 = true
    simp only [inB, Bool.and_eq_true, decide_eq_true_eq]; omega
  have e4 : 1 ≤ (cutAt y s t q i).Piece.length ∧ (cutAt y s t q i).Piece.length ≤ 100 := by
    show 1 ≤ ((y.Bytes.drop (i * s)).take s).length ∧ ((y.Bytes.drop (i * s)).take s).length ≤ 100
    omega
  have e5 : ¬ ((cutAt y s t q i).Unordered = true ∧ (cutAt y s t q i).Seq ≠ 0) := h5
  simp only [pdF, e1, e2, e3, Bool.and_self, if_true, if_pos e4, if_neg e5]
theorem cut_last {y : MessageM} {s : Nat} {t q : Int} {i : Nat} (hs : 0 < s) (hi : i < (cutL y s t q).length) : (cutAt y s t q i).Last = decide (i + 1 = (cutL y s t q).length) := by
  have h1 := cutN_lt (K := y.Bytes.length) (i := i + 1) hs
  rw [cutL_len] at hi ⊢
  show decide (y.Bytes.length ≤ (i + 1) * s) = _
  rw [decide_eq_decide]
  omega
theorem cut_whole {y : MessageM} {s : Nat} {t q : Int} (h : cutF y (s : Int) t q = 0) : whole (cutL y s t q) := by
  obtain ⟨h1, h2, h3, h4, h5⟩ := cutF_zero h
  obtain ⟨hy, hb1, hb2⟩ := msF_zero h1
  have hs : 0 < s := by omega
  have hn := cut_ne (t := t) (q := q) hs hb1
  refine ⟨?_, ?_, fun i hi => ?_⟩
  · rw [cut_get (by omega)]; simp [cutAt]
  · rw [cut_get (by omega), cut_last hs (by omega)]
    simp; omega
  · rw [cut_get (by omega), cut_get (by omega)]
    refine ⟨?_, ?_, rfl, rfl, rfl, ?_⟩
    · rw [cut_last hs (by omega)]; simp; omega
    · simp [cutAt]
    · show (t + ((i + 1 : Nat) : Int)) % 4294967296 = ((t + (i : Int)) % 4294967296 + 1) % 4294967296
      omega
theorem cut_flatN (b : List Int) (s : Nat) : ∀ n, ((List.range n).map (fun i => (b.drop (i * s)).take s)).flatten = b.take (n * s)
  | 0 => by simp
  | n + 1 => by
    rw [List.range_succ, List.map_append, List.flatten_append, cut_flatN b s n]
    simp only [List.map_cons, List.map_nil, List.flatten_cons, List.flatten_nil, List.append_nil]
    rw [Nat.add_mul, Nat.one_mul, List.take_add]
theorem cut_flat {y : MessageM} {s : Nat} {t q : Int} (hs : 0 < s) : (cutL y s t q).flatMap DataM.Piece = y.Bytes := by
  have h1 : (cutL y s t q).flatMap DataM.Piece = ((List.range (cutN y.Bytes.length s)).map (fun i => (y.Bytes.drop (i * s)).take s)).flatten := by
    unfold cutL
    rw [List.flatMap_map]
    rfl
  rw [h1, cut_flatN]
  refine List.take_of_length_le ?_
  have := cutN_lt (K := y.Bytes.length) (i := cutN y.Bytes.length s) hs
  omega
theorem cut_join {y : MessageM} {s : Nat} {t q : Int} (h : cutF y (s : Int) t q = 0) : jnR (cutL y s t q) = ⟨0, y.Stream, y.Unordered, y.Bytes⟩ := by
  obtain ⟨h1, h2, h3, h4, h5⟩ := cutF_zero h
  obtain ⟨hy, hb1, hb2⟩ := msF_zero h1
  have hs : 0 < s := by omega
  have hn := cut_ne (t := t) (q := q) hs hb1
  have hM : jnM (cutL y s t q) = y := by
    unfold jnM
    rw [cut_get (by omega), cut_flat hs]
    rfl
  have hp : pdsF (cutL y s t q) = 0 := by
    have gen : ∀ r : List DataM, (∀ x ∈ r, pdF x = 0) → pdsF r = 0 := by
      intro r
      induction r with
      | nil => intro _; rfl
      | cons x xs ih => intro h; simp only [pdsF]; rw [if_pos (h x (by simp))]; exact ih (fun y hy => h y (by simp [hy]))
    exact gen _ (cut_pd h)
  have h6 : jnF (cutL y s t q) = 0 := by
    rw [jnF_msg ⟨hn, by rw [cutL_len]; exact cutN_le (by omega) hb2⟩ hp (cut_whole h), hM, h1]
  rw [jnR_ok h6, hM]
theorem cut_rest {y : MessageM} {s : Nat} {t q : Int} (h : cutF y (s : Int) t q = 0) (h2 : 2 ≤ (cutL y s t q).length) : jnR ((cutL y s t q).drop 1) = ⟨1, 0, false, []⟩ := by
  obtain ⟨h1, _, h3, h4, h5⟩ := cutF_zero h
  obtain ⟨hy, hb1, hb2⟩ := msF_zero h1
  have hle : (cutL y s t q).length ≤ 100 := by rw [cutL_len]; exact cutN_le (by omega) hb2
  have hp : pdsF ((cutL y s t q).drop 1) = 0 := by
    have gen : ∀ r : List DataM, (∀ x ∈ r, pdF x = 0) → pdsF r = 0 := by
      intro r
      induction r with
      | nil => intro _; rfl
      | cons x xs ih => intro h; simp only [pdsF]; rw [if_pos (h x (by simp))]; exact ih (fun y hy => h y (by simp [hy]))
    exact gen _ (fun x hx => cut_pd h x (List.mem_of_mem_drop hx))
  refine jnR_bad (jnF_form ⟨by rw [List.length_drop]; omega, by rw [List.length_drop]; omega⟩ hp (fun w => ?_)) (by decide)
  have hw := w.1
  have e : ((cutL y s t q).drop 1).getD 0 dat0 = cutAt y s t q 1 := by
    rw [List.getD_eq_getElem?_getD, List.getElem?_drop, ← List.getD_eq_getElem?_getD, cut_get (by omega)]
  rw [e] at hw
  simp [cutAt] at hw
theorem wf_pd8 : ∀ {r : List DataM}, (∀ x ∈ r, pdF x = 0) → (∀ x ∈ r, Bytes x.Piece) → WfV.WfA (r.flatMap DataM.vs)
  | [], _, _ => by simp; trivial
  | x :: r, h, hb => by
    rw [List.flatMap_cons]
    obtain ⟨a, b, c, _⟩ := pdF_zero (h x (by simp))
    have ih := wf_pd8 (r := r) (fun y hy => h y (by simp [hy])) (fun y hy => hb y (by simp [hy]))
    exact ⟨by unfold WfV; omega, by unfold WfV; omega, by unfold WfV; omega, trivial, trivial, trivial, hb x (by simp), ih⟩
theorem tot_pd8 : ∀ {r : List DataM}, (∀ x ∈ r, pdF x = 0) → tot.totL (r.flatMap DataM.vs) ≤ 100 * r.length
  | [], _ => by simp [tot.totL]
  | x :: r, h => by
    rw [List.flatMap_cons, totL_append, List.length_cons]
    have h1 := (pdF_zero (h x (by simp))).2.2.2.2
    have h2 := tot_pd8 (r := r) (fun y hy => h y (by simp [hy]))
    simp only [DataM.vs, tot.totL, tot]
    omega
theorem cut_bytes {y : MessageM} {s : Nat} {t q : Int} (hb : Bytes y.Bytes) : ∀ x ∈ cutL y s t q, Bytes x.Piece := by
  intro x hx
  simp only [cutL, List.mem_map] at hx
  obtain ⟨i, _, rfl⟩ := hx
  exact fun b hb2 => hb b (List.mem_of_mem_drop (List.mem_of_mem_take hb2))
theorem quo_cut {K s : Nat} (hs : 4 ≤ s) : ((K : Int) + (s : Int) - 1) / (s : Int) = (cutN K s : Int) ∧ ((K : Int) + (s : Int) - 1).tdiv (s : Int) = (cutN K s : Int) := by
  have e : (K : Int) + (s : Int) - 1 = ((K + s - 1 : Nat) : Int) := by omega
  have h1 : ((K : Int) + (s : Int) - 1) / (s : Int) = (cutN K s : Int) := by rw [e, ← Int.natCast_ediv]; rfl
  exact ⟨h1, by rw [Int.tdiv_eq_ediv_of_nonneg (by omega)]; exact h1⟩
theorem rd_one {w : World} {g : Nat} {y : MessageM} {X : Option Addr} {cx : Nat} (h : RdA w y.vs [.int .i64 y.Stream, .bool y.Unordered, .slice X y.Bytes.length cx]) (hb : Blk w g 25 #[.int .i64 y.Stream, .bool y.Unordered, .slice X y.Bytes.length cx]) : Rd w (st_Message [y]) (.slice (some ⟨g, 0, none⟩) 1 1) := by
  unfold st_Message Rd
  refine ⟨_, 1, rfl, ⟨Nat.le_refl _, by decide⟩, .inr ⟨g, 0, rfl, hb.lt, ?_⟩⟩
  have e : List.flatMap MessageM.vs [y] = y.vs := by simp
  rw [e]
  exact RdL.of_cells h (fun k hk => by rw [Nat.zero_add, hb.cell]; exact arr_get _ k)
end Go.Proofs.Ytbfbfimmhpijfaa

/- Nothing of this module is wanted here. -/
namespace Go.Proofs.Ytbfbfimmhpijfaa
end Go.Proofs.Ytbfbfimmhpijfaa

/- The model's padding of a message: l2Pad, PadMessage. -/
namespace Go.Proofs.Ytbfbfimmhpijfaa
open Go.RowKit Go.Deep

/-- How many zero bytes. -/
def zerosN (n : Nat) : Nat := (119 - n % 64) % 64
def padTo (l : List Int) (k : Nat) : List Int := l ++ 128 :: List.replicate k 0
def padL (l : List Int) : List Int := padTo l (zerosN l.length) ++ [0, 0, 0, 0] ++ pk (8 * l.length)
theorem padTo_len (l : List Int) (k : Nat) : (padTo l k).length = l.length + 1 + k := by simp [padTo]; omega
theorem padTo_succ (l : List Int) (k : Nat) : padTo l (k + 1) = padTo l k ++ [0] := by simp [padTo, List.replicate_succ']
theorem zeros_test (n k : Nat) (hk : k ≤ zerosN n) : (n + 1 + k) % 64 = 56 ↔ k = zerosN n := by unfold zerosN at *; omega
theorem padL_len (l : List Int) : (padL l).length = l.length + 9 + zerosN l.length := by
  rw [padL, List.length_append, List.length_append, padTo_len]; simp [pk]; omega
theorem own_bres {w0 w : World} {v : Value} {l : List Int} (x : Int) (h : w.ownsRow w0.heap.size 5 1 v l.length (l.map (Value.int .u8))) (hb : Below w0.heap.size w0 w) :
    ∃ A cp, v = .slice A l.length cp ∧ BRes w0 x l (.returned (.agg #[.int .i64 x, .slice A l.length cp])) w := by
  obtain ⟨A, cp, rfl, ob, h1, h2⟩ := own_ob h
  exact ⟨A, cp, rfl, A, cp, rfl, ob, hb, h1, h2⟩
theorem Ob.setCell {B C : Nat} {w : World} {A : Option Addr} {l : List Int} (h : Ob B C w A l) {p : Addr} (hp : p.block < B) (u : Value) : Ob B C (w.setCell p u) A l := by
  rcases h with h | ⟨b, off, h1, h2, h3, h4, h5⟩
  · exact .inl h
  · exact .inr ⟨b, off, h1, h2, h3, by simpa [World.setCell] using h4, fun j hj => ⟨(World.cell?_setCell_other _ _ _ _ (fun e => by subst e; simp at hp; omega)).trans (h5 j hj).1, (World.frozen?_setCell _ _ _ _).trans (h5 j hj).2⟩⟩
theorem Ob.mono {B B' C : Nat} {w : World} {A : Option Addr} {l : List Int} (h : Ob B C w A l) (hB : B' ≤ B) : Ob B' C w A l := by
  rcases h with h | ⟨b, off, h1, h2, h3, h4, h5⟩
  · exact .inl h
  · exact .inr ⟨b, off, h1, by omega, h3, h4, h5⟩
theorem bres_set {w w1 : World} {A : Option Addr} {l : List Int} {cp : Nat} (x : Int) (hO : Ob (w.heap.size + 1) w1.heap.size w1 A l) (hb : Below w.heap.size w w1) (h1 : l.length ≤ cp) (h2 : (cp : Int) ≤ 9223372036854775807) (u0 u1 : Value) :
    BRes w x l (.returned (.agg #[.int .i64 x, .slice A l.length cp])) ((w1.setCell ⟨w.heap.size, 0, none⟩ u0).setCell ⟨w.heap.size, 1, none⟩ u1) := by
  have e : ((w1.setCell ⟨w.heap.size, 0, none⟩ u0).setCell ⟨w.heap.size, 1, none⟩ u1).heap.size = w1.heap.size := by simp [World.setCell]
  refine ⟨A, cp, rfl, ?_, bst (bst hb (Nat.le_refl _) _) (Nat.le_refl _) _, h1, h2⟩
  rw [e]
  exact ((hO.setCell (p := ⟨w.heap.size, 0, none⟩) (Nat.lt_succ_self _) _).setCell (p := ⟨w.heap.size, 1, none⟩) (Nat.lt_succ_self _) _).mono (Nat.le_succ _)
def padC (l : List Int) : Int := if l.length ≤ 700 then 0 else 2
def padM (l : List Int) : List Int := if l.length ≤ 700 then padL l else []
end Go.Proofs.Ytbfbfimmhpijfaa

/- The model's bytes of a chunk: l4Chunk, PackChunk. -/
namespace Go.Proofs.Ytbfbfimmhpijfaa
open Go.RowKit Go.Deep

/-- The head and the body, j noughts behind. -/
def chTo (H : List Int) (j : Nat) : List Int := H ++ List.replicate j 0
theorem chTo_len (H : List Int) (j : Nat) : (chTo H j).length = H.length + j := by simp [chTo]
theorem chTo_succ (H : List Int) (j : Nat) : chTo H (j + 1) = chTo H j ++ [0] := by simp [chTo, List.replicate_succ']
theorem ch_test (n j : Nat) (hj : j ≤ chPad n) : (4 + n + j) % 4 = 0 ↔ j = chPad n := by unfold chPad at *; omega
def chM (k f : Int) (b : List Int) : List Int := if chF k f b = 0 then chL k f b else []
theorem chF_zero {k f : Int} {b : List Int} (h : chF k f b = 0) : (0 ≤ k ∧ k ≤ 255) ∧ (0 ≤ f ∧ f ≤ 255) ∧ b.length ≤ 160 := by
  unfold chF inB at h
  split at h
  · next h1 =>
    simp at h1
    split at h
    · exact ⟨h1.1, h1.2, by assumption⟩
    · cases h
  · cases h
theorem bres_at {w W : World} {R : Nat} {A : Option Addr} {l : List Int} {cp : Nat} (x : Int) (hO : Ob (R + 1) W.heap.size W A l) (hR : w.heap.size ≤ R) (hb : Below w.heap.size w W) (h1 : l.length ≤ cp) (h2 : (cp : Int) ≤ 9223372036854775807) (u0 u1 : Value) :
    BRes w x l (.returned (.agg #[.int .i64 x, .slice A l.length cp])) ((W.setCell ⟨R, 0, none⟩ u0).setCell ⟨R, 1, none⟩ u1) := by
  have e : ((W.setCell ⟨R, 0, none⟩ u0).setCell ⟨R, 1, none⟩ u1).heap.size = W.heap.size := by simp [World.setCell]
  refine ⟨A, cp, rfl, ?_, bst (bst hb hR _) hR _, h1, h2⟩
  rw [e]
  exact ((hO.setCell (p := ⟨R, 0, none⟩) (Nat.lt_succ_self _) _).setCell (p := ⟨R, 1, none⟩) (Nat.lt_succ_self _) _).mono (by omega)
end Go.Proofs.Ytbfbfimmhpijfaa

/- Bytes at the head of a block of bytes of their own. -/
namespace Go.Proofs.Ytbfbfimmhpijfaa
open Go.RowKit Go.Deep

/-- A row of bytes of the call's own, opened. -/
theorem own_row {w : World} {B : Nat} {v : Value} {l : List Int} (h : w.ownsRow B 5 1 v l.length (l.map (Value.int .u8))) (hp : 0 < l.length) :
    ∃ g cap cur, v = .slice (some ⟨g, 0, none⟩) l.length cap ∧ B ≤ g ∧ g < w.heap.size ∧ Blk w g 5 cur ∧ l.length ≤ cap ∧ (cap : Int) ≤ 9223372036854775807 ∧ cur.size = cap ∧ cur.toList.take l.length = l.map (Value.int .u8) := by
  have hl := h.lt
  obtain ⟨_, ⟨rfl, hn⟩ | ⟨g, cap, cur, rfl, hg, hblk, hnc, hm, hs, ht⟩⟩ := h
  · omega
  · unfold maxLen at hm
    exact ⟨g, cap, cur, rfl, hg, (hl g rfl).2, hblk, hnc, by omega, by omega, by simpa using ht⟩
theorem row_cell {w : World} {g : Nat} {cur : Array Value} {l : List Int} (h : Blk w g 5 cur) (ht : cur.toList.take l.length = l.map (Value.int .u8)) (j : Nat) (hj : j < l.length) : w.cell? ⟨g, j, none⟩ = some (.int .u8 (l.getD j 0)) := by
  have e : cur[j]? = (cur.toList.take l.length)[j]? := by rw [List.getElem?_take_of_lt hj]; simp
  rw [h.cell, e, ht]
  simp [hj]
/-- Bytes at the head of a block of bytes. -/
def Tb (w : World) (b : Nat) (A : Option Addr) (l : List Int) : Prop :=
  l = [] ∨ (A = some ⟨b, 0, none⟩ ∧ ∃ cur, Blk w b 5 cur ∧ cur.toList.take l.length = l.map (Value.int .u8))
theorem Tb.below {w w' : World} {b : Nat} {A : Option Addr} {l : List Int} (h : Tb w b A l) (hb : Below w.heap.size w w') : Tb w' b A l := by
  rcases h with h | ⟨h1, cur, h2, h3⟩
  · exact .inl h
  · exact .inr ⟨h1, cur, h2.below hb, h3⟩
theorem Tb.ob {w : World} {b : Nat} {A : Option Addr} {l : List Int} (h : Tb w b A l) : Ob b (b + 1) w A l := by
  rcases h with h | ⟨h1, cur, h2, h3⟩
  · exact .inl h
  · exact .inr ⟨b, 0, h1, Nat.le_refl _, Nat.lt_succ_self _, h2.lt, fun j hj => by rw [Nat.zero_add]; exact ⟨row_cell h2 h3 j hj, h2.frozen j⟩⟩
theorem tb_own {w : World} {B : Nat} {v : Value} {l : List Int} (h : w.ownsRow B 5 1 v l.length (l.map (Value.int .u8))) (d : Nat) (h1 : B ≤ d) (h2 : d < w.heap.size) :
    ∃ A c b, v = .slice A l.length c ∧ B ≤ b ∧ b < w.heap.size ∧ Tb w b A l ∧ l.length ≤ c ∧ (c : Int) ≤ 9223372036854775807 := by
  rcases Nat.eq_zero_or_pos l.length with h0 | h0
  · obtain ⟨A, cp, rfl, _, h3, h4⟩ := own_ob h
    exact ⟨A, cp, d, rfl, h1, h2, .inl (List.eq_nil_of_length_eq_zero h0), h3, h4⟩
  · obtain ⟨g, cap, cur, rfl, hg, hgl, hk, hc, hcm, _, ht⟩ := own_row h h0
    exact ⟨_, cap, g, rfl, hg, hgl, .inr ⟨rfl, cur, hk, ht⟩, hc, hcm⟩
theorem Tb.win {B C : Nat} {w w' : World} {b : Nat} {A : Option Addr} {l : List Int} (h : Tb w b A l) (hw : Win B C w w') (ho : l = [] ∨ b < B ∨ C ≤ b) : Tb w' b A l := by
  rcases h with h | ⟨h1, cur, h2, h3⟩
  · exact .inl h
  · rcases ho with ho | ho
    · exact .inl ho
    · exact .inr ⟨h1, cur, hw.blk h2 ho, h3⟩
theorem own_tb {w0 w : World} {v : Value} {l : List Int} (h : w.ownsRow w0.heap.size 5 1 v l.length (l.map (Value.int .u8))) : ∃ A c b, v = .slice A l.length c ∧ Tb w b A l ∧ (l = [] ∨ w0.heap.size ≤ b ∧ b < w.heap.size) := by
  rcases Nat.eq_zero_or_pos l.length with h0 | h0
  · obtain ⟨A, cp, rfl, _⟩ := own_ob h
    have e := List.eq_nil_of_length_eq_zero h0
    exact ⟨A, cp, 0, rfl, .inl e, .inl e⟩
  · obtain ⟨g, cap, cur, rfl, hg, hgl, hk, _, _, _, ht⟩ := own_row h h0
    exact ⟨_, cap, g, rfl, .inr ⟨rfl, cur, hk, ht⟩, .inr ⟨hg, hgl⟩⟩
theorem tb_pick {w : World} {b B q : Nat} {A : Option Addr} {l : List Int} (h : Tb w b A l) (h1 : B ≤ q) (h2 : q < w.heap.size) (h3 : l = [] ∨ B ≤ b ∧ b < w.heap.size) : ∃ b', Tb w b' A l ∧ B ≤ b' ∧ b' < w.heap.size := by
  rcases h3 with e | ⟨r1, r2⟩
  · exact ⟨q, .inl e, h1, h2⟩
  · exact ⟨b, h, r1, r2⟩
/-- Bytes of the call's own: in a window, and at the head of a block of bytes. -/
def Xb (B C : Nat) (w : World) (A : Option Addr) (l : List Int) : Prop := Ob B C w A l ∧ ∃ b, Tb w b A l ∧ (l = [] ∨ B ≤ b ∧ b < C)
theorem Xb.bs {B C : Nat} {w : World} {A : Option Addr} {l : List Int} (h : Xb B C w A l) : Bs w A l := h.1.bs
theorem Xb.below {B C : Nat} {w w' : World} {A : Option Addr} {l : List Int} (h : Xb B C w A l) (hb : Below w.heap.size w w') : Xb B C w' A l := by
  obtain ⟨h1, b, h2, h3⟩ := h
  exact ⟨h1.below hb, b, h2.below hb, h3⟩
theorem Xb.win {B C B' C' : Nat} {w w' : World} {A : Option Addr} {l : List Int} (h : Xb B C w A l) (hw : Win B' C' w w') (ho : C ≤ B' ∨ C' ≤ B) : Xb B C w' A l := by
  obtain ⟨h1, b, h2, h3⟩ := h
  exact ⟨h1.win hw ho, b, h2.win hw (h3.imp id (fun q => by omega)), h3⟩
theorem Xb.mono {B C B' : Nat} {w : World} {A : Option Addr} {l : List Int} (h : Xb B C w A l) (hB : B' ≤ B) : Xb B' C w A l := by
  obtain ⟨h1, b, h2, h3⟩ := h
  exact ⟨h1.mono hB, b, h2, h3.imp id (fun q => ⟨by omega, q.2⟩)⟩
theorem Xb.upto {B C C' : Nat} {w : World} {A : Option Addr} {l : List Int} (h : Xb B C w A l) (h1 : C ≤ C') (h2 : C' ≤ w.heap.size) : Xb B C' w A l := by
  obtain ⟨q1, b, q2, q3⟩ := h
  refine ⟨?_, b, q2, q3.imp id (fun q => ⟨q.1, by omega⟩)⟩
  rcases q1 with h | ⟨b, off, e1, e2, e3, e4, e5⟩
  · exact .inl h
  · exact .inr ⟨b, off, e1, e2, by omega, h2, e5⟩
theorem Xb.put {B C : Nat} {w : World} {A : Option Addr} {l : List Int} (h : Xb B C w A l) {p : Addr} (hs : p.spot = none) (hp : p.block < B ∨ C ≤ p.block) (u : Value) : Xb B C (w.setCell p u) A l := by
  obtain ⟨b, off, sp⟩ := p
  subst hs
  exact h.win (win_set w b off u) (by simp at hp; omega)
theorem Xb.setCell {B C : Nat} {w : World} {A : Option Addr} {l : List Int} (h : Xb B C w A l) {p : Addr} (hp : p.block < B) (u : Value) (hs : p.spot = none := by rfl) : Xb B C (w.setCell p u) A l := h.put hs (.inl hp) u
theorem Xb.setFar' {B C : Nat} {w : World} {A : Option Addr} {l : List Int} (h : Xb B C w A l) {p : Addr} (hp : C ≤ p.block) (u : Value) (hs : p.spot = none := by rfl) : Xb B C (w.setCell p u) A l := h.put hs (.inr hp) u
theorem own_xb {w : World} {B : Nat} {v : Value} {d : List Int} (h : w.ownsRow B 5 1 v d.length (d.map (Value.int .u8))) :
    ∃ A cp, v = .slice A d.length cp ∧ Xb B w.heap.size w A d ∧ d.length ≤ cp ∧ (cp : Int) ≤ 9223372036854775807 := by
  rcases Nat.eq_zero_or_pos d.length with h0 | h0
  · obtain ⟨A, cp, e, h1, h2, h3⟩ := own_ob h
    have e0 := List.eq_nil_of_length_eq_zero h0
    exact ⟨A, cp, e, ⟨h1, 0, .inl e0, .inl e0⟩, h2, h3⟩
  · obtain ⟨g, cap, cur, rfl, hg, hgl, hk, hc, hcm, _, ht⟩ := own_row h h0
    have hT : Tb w g (some ⟨g, 0, none⟩) d := .inr ⟨rfl, cur, hk, ht⟩
    exact ⟨_, cap, rfl, ⟨.inr ⟨g, 0, rfl, hg, hgl, Nat.le_refl _, fun j hj => by rw [Nat.zero_add]; exact ⟨row_cell hk ht j hj, hk.frozen j⟩⟩, g, hT, .inr ⟨hg, hgl⟩⟩, hc, hcm⟩
end Go.Proofs.Ytbfbfimmhpijfaa

/- The drawn chunks: l4Draw, l4Bent, DrawPackChunk, DrawChunkFault, DrawActionOf. -/
namespace Go.Proofs.Ytbfbfimmhpijfaa
open Go.RowKit Go.Deep

theorem Src.far {w : World} {g : Nat} {A : Option Addr} {l : List Int} {c at_ : Nat} (h : Src w g A l c at_) {p : Addr} (hp : g < p.block) (u : Value) : Src (w.setCell p u) g A l c at_ := by
  refine ⟨(heap_setCell_other w p g u (by omega)).trans h.blk, h.bytes, ?_, h.len⟩
  rcases h.row with h1 | ⟨b, off, h1, h2, h3⟩
  · exact .inl h1
  · exact .inr ⟨b, off, h1, h2, fun j hj => (World.cell?_setCell_other _ _ _ _ (fun e => by subst e; simp at hp; omega)).trans (h3 j hj)⟩
theorem Win.put {g : Nat} {w W : World} (h : Win g (g + 1) w W) {p : Addr} (hp : w.heap.size ≤ p.block) (u : Value) : Win g (g + 1) w (W.setCell p u) :=
  ⟨h.os, h.tape, h.output, by simpa [World.setCell] using h.size, fun k hk ho => (heap_setCell_other W p k u (by omega)).trans (h.block k hk ho), fun q hq => (World.frozen?_setCell _ _ _ _).trans (h.frozen q hq)⟩
/-- Some chunk comes back: its body in memory, at most k draws. -/
def CkRes (k : Nat) (w : World) (g : Nat) (A : Option Addr) (l : List Int) (c at_ : Nat) (e : Ending) (w' : World) : Prop :=
  ∃ (kk ff : Int) (b : List Int) (X : Option Addr) (cx at' : Nat), e = .returned (ckV kk ff X b.length cx) ∧ Bytes b ∧ b.length ≤ 200 ∧ Xb w.heap.size w'.heap.size w' X b ∧ b.length ≤ cx ∧ (cx : Int) ≤ 9223372036854775807 ∧ Src w' g A l c at' ∧ at' ≤ at_ + k ∧ Win g (g + 1) w w'
/-- The same, where kind, flags and length are in their ranges. -/
def CkOk (k : Nat) (w : World) (g : Nat) (A : Option Addr) (l : List Int) (c at_ : Nat) (e : Ending) (w' : World) : Prop :=
  ∃ (kk ff : Int) (b : List Int) (X : Option Addr) (cx at' : Nat), e = .returned (ckV kk ff X b.length cx) ∧ ((0 ≤ kk ∧ kk ≤ 255) ∧ (0 ≤ ff ∧ ff ≤ 255) ∧ b.length ≤ 160) ∧ Bytes b ∧ Xb w.heap.size w'.heap.size w' X b ∧ b.length ≤ cx ∧ (cx : Int) ≤ 9223372036854775807 ∧ Src w' g A l c at' ∧ at' ≤ at_ + k ∧ Win g (g + 1) w w'
theorem CkOk.res {k : Nat} {w : World} {g : Nat} {A : Option Addr} {l : List Int} {c at_ : Nat} {e : Ending} {w' : World} (h : CkOk k w g A l c at_ e w') : CkRes k w g A l c at_ e w' := by
  obtain ⟨kk, ff, b, X, cx, at', h1, h2, h3, h4⟩ := h
  exact ⟨kk, ff, b, X, cx, at', h1, h3, by omega, h4⟩
theorem ne_beq {a b : Int} (h : a ≠ b) : (a == b) = false := by simp [h]
theorem Ob.setFar' {B C : Nat} {w : World} {A : Option Addr} {l : List Int} (h : Ob B C w A l) {p : Addr} (hp : C ≤ p.block) (u : Value) : Ob B C (w.setCell p u) A l := by
  rcases h with h | ⟨b, off, h1, h2, h3, h4, h5⟩
  · exact .inl h
  · exact .inr ⟨b, off, h1, h2, h3, by simpa [World.setCell] using h4, fun j hj => ⟨(World.cell?_setCell_other _ _ _ _ (fun e => by subst e; simp at hp; omega)).trans (h5 j hj).1, (World.frozen?_setCell _ _ _ _).trans (h5 j hj).2⟩⟩
end Go.Proofs.Ytbfbfimmhpijfaa

/- Chapter 8's draws: l8Draw, DrawMessageFault. -/
namespace Go.Proofs.Ytbfbfimmhpijfaa
open Go.RowKit Go.Deep

/-- A message as it is drawn: its fields, its bytes in new memory. -/
def MsD (k : Nat) (P : MessageM → Prop) (w : World) (g : Nat) (A : Option Addr) (l : List Int) (c at_ : Nat) (e : Ending) (w' : World) : Prop :=
  ∃ (y : MessageM) (X : Option Addr) (cx at' : Nat), e = .returned (.agg #[.int .i64 y.Stream, .bool y.Unordered, .slice X y.Bytes.length cx]) ∧ P y ∧ Bytes y.Bytes ∧ Xb w.heap.size w'.heap.size w' X y.Bytes ∧ (y.Bytes.length ≤ cx ∧ (cx : Int) ≤ 9223372036854775807) ∧ Src w' g A l c at' ∧ at' ≤ at_ + k ∧ Win g (g + 1) w w'
set_option maxHeartbeats 4000000 in
theorem l8Draw_any (g : Nat) (A : Option Addr) (l : List Int) (c at_ : Nat) (w : World) (h : Src w g A l c at_) (ha : (at_ : Int) ≤ 600000000) :
    Calls Try.prog 49 #[.pointer (some ⟨g, 0, none⟩)] w (MsD 50 (fun y => (0 ≤ y.Stream ∧ y.Stream ≤ 9) ∧ 1 ≤ y.Bytes.length ∧ y.Bytes.length ≤ 33) w g A l c at_) := by
  have hg := h.lt
  have S0 := h.below (bal (Below.refl w.heap.size w) (.cells #[.int .i64 0, .bool false, .slice none 0 0] 25))
  have R0 := Blk.new w 25 #[.int .i64 0, .bool false, .slice none 0 0]
  have W0 : Win g (g + 1) w (w.alloc (.cells #[.int .i64 0, .bool false, .slice none 0 0] 25)) := Win.of_below (bal (Below.refl _ _) _)
  obtain ⟨w0, hw0⟩ : ∃ w0, w.alloc (.cells #[.int .i64 0, .bool false, .slice none 0 0] 25) = w0 := ⟨_, rfl⟩
  rw [hw0] at S0 R0 W0
  have HW := hidH hw0
  clear hw0 h
  go_enter Try.func49, Try.ntmps49
  have hs0 : w0.heap.size = w.heap.size + 1 := by have := HW.out; rw [← this]; simp
  go_wp2_with fail
  rw [HW.out, ← hs0]
  refine (pick_any g A l c at_ w0.heap.size [0, 0, 1, 9] _ (S0.below (bal (Below.refl _ _) _)) (by omega)
    (Ns.of_blk (t := 2) (Blk.new w0 _ _)) (by simp) (by simp) (by omega)).mono ?_
  rintro e w1 ⟨y1, a1, rfl, hy1, ha1, S1, V1⟩
  have hk1 : 0 ≤ y1 ∧ y1 ≤ 9 := by
    simp at hy1
    omega
  have HK1 := hidH hk1
  have W1 := W0.trans ((Win.of_below (bal (Below.refl _ _) _)).trans V1)
  have R1 := V1.blk (R0.alloc _) (.inr (by omega))
  clear S0 V1 W0 R0 hy1 HW hk1
  have g1 := S1.lt
  go_wp2_with fail
  refine (chance_any g A l c a1 4 _ S1 (by omega)).mono ?_
  rintro e w2 ⟨ub, rfl, S2, V2⟩
  have W2 := W1.trans V2
  have R2 := V2.blk R1 (.inr (by omega))
  clear S1 V2 W1 R1
  have g2 := S2.lt
  go_wp2_with fail
  refine (pick_any g A l c (a1 + 1) w2.heap.size [1, 3, 8, 15, 33] _ (S2.below (bal (Below.refl _ _) _)) (by omega)
    (Ns.of_blk (t := 2) (Blk.new w2 _ _)) (by simp) (by simp) (by omega)).mono ?_
  rintro e w3 ⟨y3, a3, rfl, hy3, ha3, S3, V3⟩
  obtain ⟨N, rfl, hN1, hN⟩ : ∃ N : Nat, y3 = N ∧ 1 ≤ N ∧ N ≤ 33 := by
    simp at hy3
    exact ⟨y3.toNat, by omega, by omega, by omega⟩
  have W3 := W2.trans ((Win.of_below (bal (Below.refl _ _) _)).trans V3)
  have R3 := V3.blk (R2.alloc _) (.inr (by omega))
  clear S2 V3 W2 R2 hy3
  have g3 := S3.lt
  go_wp2_with fail
  refine (some_any N _ _ _ _ _ _ S3 (by omega) (by omega)).mono ?_
  rintro e w4 ⟨v4, d4, a4, rfl, hd4, hl4, O4, S4, ha4, V4⟩
  obtain ⟨A4, c4, rfl, o4, hc4, hm4⟩ := own_xb O4
  have W4 := W3.trans V4
  have R4 := V4.blk R3 (.inr (by omega))
  have hr3 := R3.lt
  have x0 := R4.cell 0
  have x1 := R4.cell 1
  have x2 := R4.cell 2
  have f0 := R4.frozen 0
  have f1 := R4.frozen 1
  have f2 := R4.frozen 2
  simp only [List.getElem?_toArray, List.getElem?_cons_succ, List.getElem?_cons_zero] at x0 x1 x2
  have HO := hidH (o4.mono (B' := w.heap.size + 1) (by omega))
  have HS := hidH S4
  have HWW := hidH W4
  have HC := hidH (And.intro hd4 (And.intro (show 1 ≤ d4.length ∧ d4.length ≤ 33 by omega) (And.intro hc4 (And.intro hm4 (show a4 ≤ at_ + 50 by omega)))))
  have hgg : g < w.heap.size := hg
  clear S3 W3 R3 O4 o4 hd4 hl4 hc4 hm4 S4 W4 R4 V4 ha1 ha3 ha4 g1 g2 g3 hr3
  go_wp2
  have O5 := ((HO.out.setCell (p := ⟨w.heap.size, 0, none⟩) (Nat.lt_succ_self _) (.int .i64 y1)).setCell (p := ⟨w.heap.size, 1, none⟩) (Nat.lt_succ_self _) (.bool ub)).setCell (p := ⟨w.heap.size, 2, none⟩) (Nat.lt_succ_self _) (.slice A4 d4.length c4)
  have S5 := ((HS.out.far (p := ⟨w.heap.size, 0, none⟩) hgg (.int .i64 y1)).far (p := ⟨w.heap.size, 1, none⟩) hgg (.bool ub)).far (p := ⟨w.heap.size, 2, none⟩) hgg (.slice A4 d4.length c4)
  have W5 := ((HWW.out.put (p := ⟨w.heap.size, 0, none⟩) (Nat.le_refl _) (.int .i64 y1)).put (p := ⟨w.heap.size, 1, none⟩) (Nat.le_refl _) (.bool ub)).put (p := ⟨w.heap.size, 2, none⟩) (Nat.le_refl _) (.slice A4 d4.length c4)
  have es : ∀ (u : World) (p : Addr) (v : Value), (u.setCell p v).heap.size = u.heap.size := fun u p v => by simp [World.setCell]
  have O6 := O5.mono (B' := w.heap.size) (Nat.le_succ _)
  exact bodyPost_ret (v := .agg #[.int .i64 y1, .bool ub, .slice A4 d4.length c4]) (by simp [results, Try.results49, go_sem, x0, x1, x2]) rfl ⟨⟨y1, ub, d4⟩, A4, c4, a4, rfl, ⟨HK1.out, HC.out.2.1⟩, HC.out.1, by simp only [es]; exact O6, ⟨HC.out.2.2.1, HC.out.2.2.2.1⟩, S5, HC.out.2.2.2.2, W5⟩
end Go.Proofs.Ytbfbfimmhpijfaa

/- Chapter 8's draws: DrawMessageFault. (WRITTEN BY tools/drmf8.py) -/
namespace Go.Proofs.Ytbfbfimmhpijfaa
open Go.RowKit Go.Deep

theorem Xb.owv {B C : Nat} {w : World} {X : Option Addr} {b : List Int} {c : Nat} (h : Xb B C w X b) (hC : C ≤ w.heap.size) (h1 : b.length ≤ c) (h2 : (c : Int) ≤ 9223372036854775807) : OwV B C w (.bs b) (.slice X b.length c) := Ob.owv h.1 hC ⟨h1, h2⟩
/-- A message that was drawn out of a code. -/
def MfRes (w : World) (e : Ending) (w' : World) : Prop :=
  ∃ (y : MessageM) (X : Option Addr) (cx : Nat), e = .returned (.agg #[.int .i64 y.Stream, .bool y.Unordered, .slice X y.Bytes.length cx]) ∧ (-1 ≤ y.Stream ∧ y.Stream ≤ 10) ∧ y.Bytes.length ≤ 401 ∧ Bytes y.Bytes ∧ OwV w.heap.size w'.heap.size w' (.bs y.Bytes) (.slice X y.Bytes.length cx) ∧ Below w.heap.size w w'
set_option maxRecDepth 100000 in
set_option maxHeartbeats 4000000 in
theorem drawMf_any (A : Option Addr) (l : List Int) (c : Nat) (w : World) (hA : Bs w A l) (hl : Bytes l) (hm : (l.length : Int) ≤ 1048576) :
    Calls Try.prog 40 #[.slice A l.length c] w (MfRes w) := by
  have R0 := Blk.new w 25 #[.int .i64 0, .bool false, .slice none 0 0]
  have B0 := bal (Below.refl w.heap.size w) (.cells #[.int .i64 0, .bool false, .slice none 0 0] 25)
  have hA0 := bs_below hA B0
  have hs0 : (w.alloc (.cells #[.int .i64 0, .bool false, .slice none 0 0] 25)).heap.size = w.heap.size + 1 := World.size_alloc _ _
  obtain ⟨w0, hw0⟩ : ∃ w0, w.alloc (.cells #[.int .i64 0, .bool false, .slice none 0 0] 25) = w0 := ⟨_, rfl⟩
  rw [hw0] at R0 B0 hA0 hs0
  have HW := hidH hw0
  have HS := hidH (source_any A l c w0 hA0 hl hm)
  have HR0 := hidH R0
  have HB0 := hidH B0
  have HS0 := hidH hs0
  clear hw0 hA hA0 R0 B0 hs0
  go_enter Try.func40, Try.ntmps40
  go_wp2_with fail
  rw [HW.out]
  refine HS.out.mono ?_
  rintro e w1 ⟨rfl, S1, b1⟩
  obtain ⟨g, hg⟩ : ∃ g, w0.heap.size = g := ⟨_, rfl⟩
  have R1 := HR0.out.below b1
  have B1 := btr HB0.out b1
  rw [hg] at S1 ⊢
  have hgr : w.heap.size + 1 = g := by rw [← hg]; exact HS0.out.symm
  have hgl := S1.lt
  have HR1 := hidH R1
  have HB1 := hidH B1
  have HS1 := hidH S1
  clear HS HR0 HB0 R1 B1 b1 HW hg S1
  go_wp2_with fail
  refine (l8Draw_any g A l c 0 w1 HS1.out (by omega)).mono ?_
  rintro e w2 ⟨y, X, cx, a2, rfl, ⟨hys, hyl1, hyl2⟩, hyb, hX, hcx, S2, ha2, V2⟩
  have C3 := Blk.new w2 25 #[.int .i64 y.Stream, .bool y.Unordered, .slice X y.Bytes.length cx]
  have B3 := bal (Below.refl w2.heap.size w2) (.cells #[.int .i64 y.Stream, .bool y.Unordered, .slice X y.Bytes.length cx] 25)
  have hs2 := V2.size
  have hw12 : g < w2.heap.size := by omega
  have HR3 := hidH ((V2.blk HR1.out (.inl (by omega))).below B3)
  have HB3 := hidH ((HB1.out.trans ((V2.below (by omega)).mono (by omega))).trans (B3.mono (by have := HB1.out.size; omega)))
  have HX3 := hidH (hX.below B3)
  have S3 := S2.below B3
  have hs3 : (w2.alloc (.cells #[.int .i64 y.Stream, .bool y.Unordered, .slice X y.Bytes.length cx] 25)).heap.size = w2.heap.size + 1 := World.size_alloc _ _
  obtain ⟨w3, hw3⟩ : ∃ w3, w2.alloc (.cells #[.int .i64 y.Stream, .bool y.Unordered, .slice X y.Bytes.length cx] 25) = w3 := ⟨_, rfl⟩
  rw [hw3] at C3 HR3 HB3 HX3 S3 hs3
  have HW3 := hidH hw3
  have HS3s := hidH hs3
  have HS2 := hidH hs2
  have HC3 := hidH C3
  have HS3 := hidH S3
  have HY := hidH (And.intro hys (And.intro hyl1 (And.intro hyl2 (And.intro hyb hcx))))
  clear HR1 HB1 HS1 hX S2 V2 hw3 C3 S3 B3 hys hyl1 hyl2 hyb hcx hs3 hs2
  go_wp2_with fail
  rw [HW3.out]
  go_wp2_with fail
  refine (next_any g A l c a2 9 _ HS3.out (by omega)).mono ?_
  rintro e w4 ⟨n, rfl, n0, n1, S4, V4, hs4⟩
  have hs3 := HS3s.out
  have C4 := V4.blk HC3.out (.inr (by omega))
  have R4 := V4.blk HR3.out (.inl (by omega))
  have X4 := HX3.out.win V4 (.inr (by omega))
  have B4 := HB3.out.trans ((V4.below (by omega)).mono (by omega))
  have HS4 := hidH (show w4.heap.size = w2.heap.size + 1 by omega)
  clear HC3 HR3 HX3 HB3 HS3 HW3 V4 hs3 hs4
  have hg4 := S4.lt
  by_cases hn0 : n = 0
  · subst hn0
    go_wp2_with fail
    refine (pick_any g A l c (a2 + 1) w4.heap.size [10, -1] _ (S4.below (bal (Below.refl _ _) _)) (by omega) (Ns.of_blk (t := 2) (Blk.new w4 _ _)) (by simp) (by simp) (by omega)).mono ?_
    rintro e w5 ⟨v, a5, rfl, hv, ha5, S5, V5⟩
    have hv2 : -1 ≤ v ∧ v ≤ 10 := by simp at hv; omega
    have hs4 := HS4.out
    have C5 := V5.blk (C4.alloc (.cells #[.int .i64 10, .int .i64 (-1)] 2)) (.inr (by omega))
    have hs5 := V5.size
    rw [World.size_alloc] at hs5
    have R5 := V5.blk (R4.alloc (.cells #[.int .i64 10, .int .i64 (-1)] 2)) (.inl (by omega))
    have OF := (((X4.below (bal (Below.refl _ _) (.cells #[.int .i64 10, .int .i64 (-1)] 2))).win V5 (.inr (by omega))).owv (by omega) HY.out.2.2.2.2.1 HY.out.2.2.2.2.2).win (set_win w5 w2.heap.size 0 (.int .i64 v)) (.inl (by omega))
    have BF := (((B4.trans ((bal (Below.refl w4.heap.size w4) (.cells #[.int .i64 10, .int .i64 (-1)] 2)).mono (by omega))).trans ((V5.below (by rw [World.size_alloc]; omega)).mono (by omega)))).setCell (p := ⟨w2.heap.size, 0, none⟩) (by show w.heap.size ≤ w2.heap.size; omega) (.int .i64 v)
    have BN := And.intro hv2 (And.intro (show y.Bytes.length ≤ 401 by have := HY.out.2.2.1; omega) HY.out.2.2.2.1)
    have HSZ := hidH (show w2.heap.size ≤ (w5.setCell ⟨w2.heap.size, 0, none⟩ (.int .i64 v)).heap.size by simp [World.setCell]; omega)
    have CF := C5
    have RF := R5
    have fc := CF.frozen 0
    have hne : w.heap.size < w2.heap.size := by omega
    clear C4 R4 X4 B4 S4 S5 V5 C5 R5 hv hv2 hs4 hs5
    have x0 := RF.cell 0
    have x1 := RF.cell 1
    have x2 := RF.cell 2
    have f0 := RF.frozen 0
    have f1 := RF.frozen 1
    have f2 := RF.frozen 2
    have p0 := CF.cell 0
    have p1 := CF.cell 1
    have p2 := CF.cell 2
    simp only [List.getElem?_toArray, List.getElem?_cons_succ, List.getElem?_cons_zero] at x0 x1 x2 p0 p1 p2
    have hrl := RF.lt
    have hcl := CF.lt
    have HOF := hidH OF
    have HBF := hidH BF
    have HBN := hidH BN
    clear RF CF OF BF BN
    go_wp2
    have hsz := HSZ.out
    have es : ∀ (u : World) (p : Addr) (v : Value), (u.setCell p v).heap.size = u.heap.size := fun u p v => by simp [World.setCell]
    have PF : ∀ a b c : Value, OwV w.heap.size ((((w5.setCell ⟨w2.heap.size, 0, none⟩ (.int .i64 v)).setCell ⟨w.heap.size, 0, none⟩ a).setCell ⟨w.heap.size, 1, none⟩ b).setCell ⟨w.heap.size, 2, none⟩ c).heap.size ((((w5.setCell ⟨w2.heap.size, 0, none⟩ (.int .i64 v)).setCell ⟨w.heap.size, 0, none⟩ a).setCell ⟨w.heap.size, 1, none⟩ b).setCell ⟨w.heap.size, 2, none⟩ c) (.bs y.Bytes) (.slice X y.Bytes.length cx) := fun a b c =>
      (((HOF.out.win (set_win _ w.heap.size 0 a) (.inr (by omega))).win (set_win _ w.heap.size 1 b) (.inr (by omega))).win (set_win _ w.heap.size 2 c) (.inr (by omega))).mono (B' := w.heap.size) (by omega) (by simp only [es]; omega) (Nat.le_refl _)
    exact bodyPost_ret (v := .agg #[.int .i64 v, .bool y.Unordered, .slice X y.Bytes.length cx]) (by simp [results, Try.results40, go_sem, x0, x1, x2]) rfl ⟨⟨v, y.Unordered, y.Bytes⟩, X, cx, rfl, HBN.out.1, HBN.out.2.1, HBN.out.2.2, PF _ _ _, bst (bst (bst HBF.out (Nat.le_refl _) _) (Nat.le_refl _) _) (Nat.le_refl _) _⟩
  · by_cases hn1 : n = 1
    · subst hn1
      go_wp2_with fail
      refine (pick_any g A l c (a2 + 1) w4.heap.size [0, 400, 401] _ (S4.below (bal (Below.refl _ _) _)) (by omega) (Ns.of_blk (t := 2) (Blk.new w4 _ _)) (by simp) (by simp) (by omega)).mono ?_
      rintro e w5 ⟨v, a5, rfl, hv, ha5, S5, V5⟩
      obtain ⟨N, rfl, hN⟩ : ∃ N : Nat, v = N ∧ N ≤ 401 := by
        simp at hv
        exact ⟨v.toNat, by omega, by omega⟩
      have hs4 := HS4.out
      have C5 := V5.blk (C4.alloc (.cells #[.int .i64 0, .int .i64 400, .int .i64 401] 2)) (.inr (by omega))
      have R5 := V5.blk (R4.alloc (.cells #[.int .i64 0, .int .i64 400, .int .i64 401] 2)) (.inl (by omega))
      have B5 := (B4.trans ((bal (Below.refl w4.heap.size w4) (.cells #[.int .i64 0, .int .i64 400, .int .i64 401] 2)).mono (by omega))).trans ((V5.below (by rw [World.size_alloc]; omega)).mono (by omega))
      have hs5 := V5.size
      rw [World.size_alloc] at hs5
      have HS5 := hidH (show w2.heap.size + 1 < w5.heap.size by omega)
      have HB := hidH (And.intro C5 (And.intro R5 B5))
      clear C4 R4 X4 B4 S4 V5 C5 R5 B5 hv hs4 hs5
      go_wp2_with fail
      refine (some_any N _ _ _ _ _ _ S5 (by omega) (by omega)).mono ?_
      rintro e w6 ⟨v6, d6, a6, rfl, hd6, hl6, O6, S6, ha6, V6⟩
      obtain ⟨A6, c6, rfl, o6, hc6, hm6⟩ := own_xb O6
      have hs5 := HS5.out
      have C6 := V6.blk HB.out.1 (.inr (by omega))
      have hs6 := V6.size
      have R6 := V6.blk HB.out.2.1 (.inl (by omega))
      have OF := (o6.owv (Nat.le_refl _) hc6 hm6).win (set_win w6 w2.heap.size 2 (.slice A6 d6.length c6)) (.inr (by omega))
      have BF := ((HB.out.2.2.trans ((V6.below (by omega)).mono (by omega)))).setCell (p := ⟨w2.heap.size, 2, none⟩) (by show w.heap.size ≤ w2.heap.size; omega) (.slice A6 d6.length c6)
      have BN := And.intro (show -1 ≤ y.Stream ∧ y.Stream ≤ 10 by have := HY.out.1; omega) (And.intro (show d6.length ≤ 401 by omega) hd6)
      have HSZ := hidH (show w2.heap.size ≤ w5.heap.size ∧ w6.heap.size ≤ (w6.setCell ⟨w2.heap.size, 2, none⟩ (.slice A6 d6.length c6)).heap.size by simp [World.setCell]; omega)
      have CF := C6
      have RF := R6
      have fc := CF.frozen 2
      have hne : w.heap.size < w2.heap.size := by omega
      clear HB S5 S6 V6 C6 R6 O6 o6 hc6 hm6 hd6 hl6 hs5 hs6
      have x0 := RF.cell 0
      have x1 := RF.cell 1
      have x2 := RF.cell 2
      have f0 := RF.frozen 0
      have f1 := RF.frozen 1
      have f2 := RF.frozen 2
      have p0 := CF.cell 0
      have p1 := CF.cell 1
      have p2 := CF.cell 2
      simp only [List.getElem?_toArray, List.getElem?_cons_succ, List.getElem?_cons_zero] at x0 x1 x2 p0 p1 p2
      have hrl := RF.lt
      have hcl := CF.lt
      have HOF := hidH OF
      have HBF := hidH BF
      have HBN := hidH BN
      clear RF CF OF BF BN
      go_wp2
      have hsz := HSZ.out
      have es : ∀ (u : World) (p : Addr) (v : Value), (u.setCell p v).heap.size = u.heap.size := fun u p v => by simp [World.setCell]
      have PF : ∀ a b c : Value, OwV w.heap.size ((((w6.setCell ⟨w2.heap.size, 2, none⟩ (.slice A6 d6.length c6)).setCell ⟨w.heap.size, 0, none⟩ a).setCell ⟨w.heap.size, 1, none⟩ b).setCell ⟨w.heap.size, 2, none⟩ c).heap.size ((((w6.setCell ⟨w2.heap.size, 2, none⟩ (.slice A6 d6.length c6)).setCell ⟨w.heap.size, 0, none⟩ a).setCell ⟨w.heap.size, 1, none⟩ b).setCell ⟨w.heap.size, 2, none⟩ c) (.bs d6) (.slice A6 d6.length c6) := fun a b c =>
        (((HOF.out.win (set_win _ w.heap.size 0 a) (.inr (by omega))).win (set_win _ w.heap.size 1 b) (.inr (by omega))).win (set_win _ w.heap.size 2 c) (.inr (by omega))).mono (B' := w.heap.size) (by omega) (by simp only [es]; omega) (Nat.le_refl _)
      exact bodyPost_ret (v := .agg #[.int .i64 y.Stream, .bool y.Unordered, .slice A6 d6.length c6]) (by simp [results, Try.results40, go_sem, x0, x1, x2]) rfl ⟨⟨y.Stream, y.Unordered, d6⟩, A6, c6, rfl, HBN.out.1, HBN.out.2.1, HBN.out.2.2, PF _ _ _, bst (bst (bst HBF.out (Nat.le_refl _) _) (Nat.le_refl _) _) (Nat.le_refl _) _⟩
    · have hs4 := HS4.out
      have OF := X4.owv (by omega) HY.out.2.2.2.2.1 HY.out.2.2.2.2.2
      have CF := C4
      have RF := R4
      have BF := B4
      have BN := And.intro (show -1 ≤ y.Stream ∧ y.Stream ≤ 10 by have := HY.out.1; omega) (And.intro (show y.Bytes.length ≤ 401 by have := HY.out.2.2.1; omega) HY.out.2.2.2.1)
      have HSZ := hidH (show w2.heap.size ≤ w4.heap.size by omega)
      have hb0 := ne_beq hn0
      have hb1 := ne_beq hn1
      clear C4 R4 B4 X4 S4 hs4
      have x0 := RF.cell 0
      have x1 := RF.cell 1
      have x2 := RF.cell 2
      have f0 := RF.frozen 0
      have f1 := RF.frozen 1
      have f2 := RF.frozen 2
      have p0 := CF.cell 0
      have p1 := CF.cell 1
      have p2 := CF.cell 2
      simp only [List.getElem?_toArray, List.getElem?_cons_succ, List.getElem?_cons_zero] at x0 x1 x2 p0 p1 p2
      have hrl := RF.lt
      have hcl := CF.lt
      have HOF := hidH OF
      have HBF := hidH BF
      have HBN := hidH BN
      clear RF CF OF BF BN
      go_wp2
      have hsz := HSZ.out
      have es : ∀ (u : World) (p : Addr) (v : Value), (u.setCell p v).heap.size = u.heap.size := fun u p v => by simp [World.setCell]
      have PF : ∀ a b c : Value, OwV w.heap.size (((w4.setCell ⟨w.heap.size, 0, none⟩ a).setCell ⟨w.heap.size, 1, none⟩ b).setCell ⟨w.heap.size, 2, none⟩ c).heap.size (((w4.setCell ⟨w.heap.size, 0, none⟩ a).setCell ⟨w.heap.size, 1, none⟩ b).setCell ⟨w.heap.size, 2, none⟩ c) (.bs y.Bytes) (.slice X y.Bytes.length cx) := fun a b c =>
        (((HOF.out.win (set_win _ w.heap.size 0 a) (.inr (by omega))).win (set_win _ w.heap.size 1 b) (.inr (by omega))).win (set_win _ w.heap.size 2 c) (.inr (by omega))).mono (B' := w.heap.size) (by omega) (by simp only [es]; omega) (Nat.le_refl _)
      exact bodyPost_ret (v := .agg #[.int .i64 y.Stream, .bool y.Unordered, .slice X y.Bytes.length cx]) (by simp [results, Try.results40, go_sem, x0, x1, x2]) rfl ⟨⟨y.Stream, y.Unordered, y.Bytes⟩, X, cx, rfl, HBN.out.1, HBN.out.2.1, HBN.out.2.2, PF _ _ _, bst (bst (bst HBF.out (Nat.le_refl _) _) (Nat.le_refl _) _) (Nat.le_refl _) _⟩
end Go.Proofs.Ytbfbfimmhpijfaa
