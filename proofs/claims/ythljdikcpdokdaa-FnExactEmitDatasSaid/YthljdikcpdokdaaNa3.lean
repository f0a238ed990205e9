import Derived.Test.YthljdikcpdokdaaNa0
import Derived.Test.YthljdikcpdokdaaNa1
import Derived.Maps.AppendAt

/- The drawing of inputs out of the bytes of a code: what l1Source, l1Next, l1Pick, l1Chance, l1Draw, l1Bent leave. What is drawn is some number in its range; nothing more is said. -/
namespace Go.Proofs.Ythljdikcpdokdaa
open Go.RowKit Go.Deep

/-- Block g is a source of draws over the bytes l, of which at have been drawn. -/
structure Src (w : World) (g : Nat) (A : Option Addr) (l : List Int) (c at_ : Nat) : Prop where
  blk : Blk w g 182 #[.slice A l.length c, .int .i64 at_]
  bytes : Bytes l
  row : l = [] ∨ ∃ b off, A = some ⟨b, off, none⟩ ∧ b < g ∧ ∀ j, j < l.length → w.cell? ⟨b, off + j, none⟩ = some (.int .u8 (l.getD j 0))
  len : (l.length : Int) ≤ 1048576

def NextRes (w : World) (g : Nat) (A : Option Addr) (l : List Int) (c at_ : Nat) (n : Int) (e : Ending) (w' : World) : Prop :=
  ∃ v : Int, e = .returned (.int .i64 v) ∧ 0 ≤ v ∧ (v < n ∨ v = 0) ∧ Src w' g A l c (at_ + 1) ∧ Win g (g + 1) w w' ∧ w'.heap.size = w.heap.size

theorem Src.lt {w : World} {g : Nat} {A : Option Addr} {l : List Int} {c at_ : Nat} (h : Src w g A l c at_) : g < w.heap.size := h.blk.lt
/-- One draw more: the count's cell is written. -/
theorem Src.next {w : World} {g : Nat} {A : Option Addr} {l : List Int} {c at_ : Nat} (h : Src w g A l c at_) : Src (w.setCell ⟨g, 1, none⟩ (.int .i64 ((at_ : Int) + 1))) g A l c (at_ + 1) := by
  refine ⟨?_, h.bytes, ?_, h.len⟩
  · have hb := h.blk
    unfold Blk at hb ⊢
    simp [World.setCell, Array.getElem?_modify, hb]
  · rcases h.row with h1 | ⟨b, off, h1, h2, h3⟩
    · exact .inl h1
    · exact .inr ⟨b, off, h1, h2, fun j hj => (World.cell?_setCell_other _ _ _ _ (fun e => by injection e with e1 _; omega)).trans (h3 j hj)⟩
theorem Src.drewN {w : World} {g : Nat} {A : Option Addr} {l : List Int} {c at_ : Nat} (h : Src w g A l c at_) (n : Nat) : Src (w.drewN n) g A l c at_ := ⟨h.blk, h.bytes, h.row, h.len⟩
theorem next_win (w : World) (g : Nat) (u : Value) : Win g (g + 1) w (w.setCell ⟨g, 1, none⟩ u) :=
  ⟨rfl, rfl, rfl, by simp [World.setCell], fun k _ h => Below.heap_setCell _ _ _ _ (by show k ≠ g; omega), fun a _ => World.frozen?_setCell _ _ _ _⟩
theorem Win.drewN {B C : Nat} {a w : World} (h : Win B C a w) (n : Nat) : Win B C a (w.drewN n) := ⟨h.os, h.tape, h.output, h.size, h.block, h.frozen⟩
theorem next_res {w : World} {g : Nat} {A : Option Addr} {l : List Int} {c at_ : Nat} (h : Src w g A l c at_) {n v : Int} (h0 : 0 ≤ v) (h1 : v < n ∨ v = 0) (m : Nat) :
    NextRes w g A l c at_ n (.returned (.int .i64 v)) ((w.setCell ⟨g, 1, none⟩ (.int .i64 ((at_ : Int) + 1))).drewN m) :=
  ⟨v, rfl, h0, h1, h.next.drewN m, (next_win w g _).drewN m, by simp [World.setCell, World.drewN]⟩

set_option maxHeartbeats 1000000 in
theorem next_zero (g : Nat) (A : Option Addr) (l : List Int) (c at_ : Nat) (n : Int) (w : World) (h : Src w g A l c at_) (ha : (at_ : Int) ≤ 1000000000) (hn : n < 1) :
    Calls Try.prog 66 #[.pointer (some ⟨g, 0, none⟩), .int .i64 n] w (NextRes w g A l c at_ n) := by
  have hf := h.blk.frozen 1
  obtain ⟨q0, q1, qz⟩ := h.blk.two
  go_enter Try.func66, Try.ntmps66
  go_wp2
  go_ret
  exact next_res h (Int.le_refl 0) (.inr rfl) 0
theorem mod_lt' (a n : Int) (h : 1 ≤ n) : 0 ≤ a % n ∧ a % n < n := ⟨Int.emod_nonneg _ (by omega), Int.emod_lt_of_pos _ (by omega)⟩
set_option maxHeartbeats 1000000 in
theorem next_nil (g : Nat) (A : Option Addr) (c at_ : Nat) (n : Int) (w : World) (h : Src w g A [] c at_) (ha : (at_ : Int) ≤ 1000000000) (hn : 1 ≤ n) :
    Calls Try.prog 66 #[.pointer (some ⟨g, 0, none⟩), .int .i64 n] w (NextRes w g A [] c at_ n) := by
  have hf := h.blk.frozen 1
  obtain ⟨q0, q1, qz⟩ := h.blk.two
  have hm := mod_lt' ((at_ : Int) * 7) n hn
  go_enter Try.func66, Try.ntmps66
  go_wp2
  go_ret
  exact next_res h hm.1 (.inl hm.2) 0
set_option maxHeartbeats 1000000 in
theorem next_pos (g : Nat) (b off : Nat) (l : List Int) (c at_ : Nat) (n : Int) (w : World) (h : Src w g (some ⟨b, off, none⟩) l c at_) (ha : (at_ : Int) ≤ 1000000000) (hn : 1 ≤ n) (hl : 0 < l.length) :
    Calls Try.prog 66 #[.pointer (some ⟨g, 0, none⟩), .int .i64 n] w (NextRes w g (some ⟨b, off, none⟩) l c at_ n) := by
  have hf := h.blk.frozen 1
  obtain ⟨q0, q1, qz⟩ := h.blk.two
  have hk : (0 : Int) < (l.length : Int) := by omega
  have hk1 : (1 : Int) ≤ (l.length : Int) := by omega
  have hk2 := h.len
  have hne : ((l.length : Int) == 0) = false := by rw [beq_eq_false_iff_ne]; omega
  obtain ⟨m0, m1⟩ := mod_lt' (at_ : Int) (l.length : Int) hk1
  have hn1 : (decide (n < 1)) = false := by simp; omega
  obtain ⟨x0, e0, y0, z0⟩ : ∃ x0 : Int, (w.setCell ⟨g, 1, none⟩ (.int .i64 ((at_ : Int) + 1))).cell? ⟨b, off + at_ % l.length, none⟩ = some (.int .u8 x0) ∧ 0 ≤ x0 ∧ x0 ≤ 255 := by
    rcases h.next.row with h1 | ⟨b', off', h1, h2, h3⟩
    · rw [h1] at hl; simp at hl
    · simp at h1; obtain ⟨rfl, rfl⟩ := h1
      exact ⟨_, h3 _ (Nat.mod_lt _ hl), h.bytes.get _⟩
  obtain ⟨m2, m3⟩ := mod_lt' ((at_ : Int) + 1) (l.length : Int) hk1
  obtain ⟨m4, m5⟩ := mod_lt' ((at_ : Int) + 2) (l.length : Int) hk1
  have d0 : 0 ≤ (at_ : Int) / (l.length : Int) := Int.ediv_nonneg (by omega) (by omega)
  have d1 : (at_ : Int) / (l.length : Int) ≤ 1000000000 := Int.le_trans (Int.ediv_le_self _ (by omega)) ha
  obtain ⟨x1, e1, y1, z1⟩ : ∃ x1 : Int, (w.setCell ⟨g, 1, none⟩ (.int .i64 ((at_ : Int) + 1))).cell? ⟨b, off + (at_ + 1) % l.length, none⟩ = some (.int .u8 x1) ∧ 0 ≤ x1 ∧ x1 ≤ 255 := by
    rcases h.next.row with h1 | ⟨b', off', h1, h2, h3⟩
    · rw [h1] at hl; simp at hl
    · simp at h1; obtain ⟨rfl, rfl⟩ := h1
      exact ⟨_, h3 _ (Nat.mod_lt _ hl), h.bytes.get _⟩
  obtain ⟨x2, e2, y2, z2⟩ : ∃ x2 : Int, (w.setCell ⟨g, 1, none⟩ (.int .i64 ((at_ : Int) + 1))).cell? ⟨b, off + (at_ + 2) % l.length, none⟩ = some (.int .u8 x2) ∧ 0 ≤ x2 ∧ x2 ≤ 255 := by
    rcases h.next.row with h1 | ⟨b', off', h1, h2, h3⟩
    · rw [h1] at hl; simp at hl
    · simp at h1; obtain ⟨rfl, rfl⟩ := h1
      exact ⟨_, h3 _ (Nat.mod_lt _ hl), h.bytes.get _⟩
  have t1 : (((at_ : Int) + 1) % (l.length : Int)).toNat = (at_ + 1) % l.length := by
    have e : ((at_ : Int) + 1) % (l.length : Int) = (((at_ + 1) % l.length : Nat) : Int) := by simp
    rw [e]; rfl
  have t2 : (((at_ : Int) + 2) % (l.length : Int)).toNat = (at_ + 2) % l.length := by
    have e : ((at_ : Int) + 2) % (l.length : Int) = (((at_ + 2) % l.length : Nat) : Int) := by simp
    rw [e]; rfl
  rcases Int.lt_or_le 60000 n with h6 | h6
  · go_enter Try.func66, Try.ntmps66
    go_wp2
    go_quiet (fail)
    go_wp2
    go_quiet (fail)
    go_wp2
    go_quiet (fail)
    go_wp2
    go_ret
    exact next_res h (mod_lt' _ n hn).1 (.inl (mod_lt' _ n hn).2) _
  · rcases Int.lt_or_le 200 n with h7 | h7
    · go_enter Try.func66, Try.ntmps66
      go_wp2
      go_quiet (fail)
      go_wp2
      go_quiet (fail)
      go_wp2
      go_ret
      exact next_res h (mod_lt' _ n hn).1 (.inl (mod_lt' _ n hn).2) _
    · go_enter Try.func66, Try.ntmps66
      go_wp2
      go_quiet (fail)
      go_wp2
      go_ret
      exact next_res h (mod_lt' _ n hn).1 (.inl (mod_lt' _ n hn).2) _
theorem next_any (g : Nat) (A : Option Addr) (l : List Int) (c at_ : Nat) (n : Int) (w : World) (h : Src w g A l c at_) (ha : (at_ : Int) ≤ 1000000000) :
    Calls Try.prog 66 #[.pointer (some ⟨g, 0, none⟩), .int .i64 n] w (NextRes w g A l c at_ n) := by
  rcases Int.lt_or_le n 1 with hn | hn
  · exact next_zero g A l c at_ n w h ha hn
  · rcases l with _ | ⟨x, l⟩
    · exact next_nil g A c at_ n w h ha hn
    · rcases h.row with h1 | ⟨b, off, rfl, _⟩
      · simp at h1
      · exact next_pos g b off _ c at_ n w h ha hn (by simp)
/-- At most k draws: some number of which P holds; nothing but the source's block and new blocks has turned. -/
def DRes (k : Nat) (P : Int → Prop) (w : World) (g : Nat) (A : Option Addr) (l : List Int) (c at_ : Nat) (e : Ending) (w' : World) : Prop :=
  ∃ (v : Int) (at' : Nat), e = .returned (.int .i64 v) ∧ P v ∧ at' ≤ at_ + k ∧ Src w' g A l c at' ∧ Win g (g + 1) w w'
/-- A block from its start on reads as the numbers vs. -/
def Ns (w : World) (B : Nat) (vs : List Int) : Prop := B < w.heap.size ∧ ∀ j, j < vs.length → w.cell? ⟨B, j, none⟩ = some (.int .i64 (vs.getD j 0))
theorem Ns.of_blk {w : World} {B : Nat} {t : TypeId} {vs : List Int} (h : Blk w B t (vs.map (Value.int .i64)).toArray) : Ns w B vs :=
  ⟨h.lt, fun j hj => by rw [h.cell]; simp [hj]⟩
theorem Src.below {w w' : World} {g : Nat} {A : Option Addr} {l : List Int} {c at_ : Nat} (h : Src w g A l c at_) (hb : Below w.heap.size w w') : Src w' g A l c at_ := by
  refine ⟨h.blk.below hb, h.bytes, ?_, h.len⟩
  rcases h.row with h1 | ⟨b, off, h1, h2, h3⟩
  · exact .inl h1
  · have := h.lt
    exact .inr ⟨b, off, h1, h2, fun j hj => (hb.cell (p := ⟨b, off + j, none⟩) (by show b < _; omega)).trans (h3 j hj)⟩
set_option maxHeartbeats 1000000 in
theorem pick_any (g : Nat) (A : Option Addr) (l : List Int) (c at_ : Nat) (B : Nat) (vs : List Int) (w : World) (h : Src w g A l c at_) (ha : (at_ : Int) ≤ 1000000000) (hB : Ns w B vs) (hv : 0 < vs.length) (hm : vs.length ≤ 100) (hne : B ≠ g) :
    Calls Try.prog 68 #[.pointer (some ⟨g, 0, none⟩), .slice (some ⟨B, 0, none⟩) vs.length vs.length] w (DRes 1 (· ∈ vs) w g A l c at_) := by
  have H := hidH h
  clear h
  go_enter Try.func68, Try.ntmps68
  go_wp2_with fail
  refine (next_any _ _ _ _ _ _ _ H.out ha).mono ?_
  rintro e w1 ⟨v, rfl, v0, v1, S1, W1, z1⟩
  obtain ⟨k, rfl⟩ : ∃ k : Nat, v = k := ⟨v.toNat, by omega⟩
  have hk : k < vs.length := by omega
  have hki : (k : Int) < (vs.length : Int) := by omega
  have q := (W1.cell (p := ⟨B, k, none⟩) hB.1 (by show B < g ∨ g + 1 ≤ B; omega)).trans (hB.2 k hk)
  have hmem : vs.getD k 0 ∈ vs := by
    rw [List.getD_eq_getElem?_getD, List.getElem?_eq_getElem hk]; exact List.getElem_mem hk
  generalize vs.getD k 0 = x at q hmem
  have S := hidH S1
  have W := hidH W1
  have M := hidH hmem
  clear S1 W1 z1 hB hmem v1
  go_wp2
  go_ret
  exact ⟨x, at_ + 1, rfl, M.out, Nat.le_refl _, S.out, W.out⟩
set_option maxHeartbeats 1000000 in
theorem chance_any (g : Nat) (A : Option Addr) (l : List Int) (c at_ : Nat) (n : Int) (w : World) (h : Src w g A l c at_) (ha : (at_ : Int) ≤ 1000000000) :
    Calls Try.prog 90 #[.pointer (some ⟨g, 0, none⟩), .int .i64 n] w fun e w' => ∃ b, e = .returned (.bool b) ∧ Src w' g A l c (at_ + 1) ∧ Win g (g + 1) w w' := by
  have H := hidH h
  clear h
  go_enter Try.func90, Try.ntmps90
  go_wp2_with fail
  refine (next_any _ _ _ _ _ _ _ H.out ha).mono ?_
  rintro e w1 ⟨v, rfl, v0, v1, S1, W1, z1⟩
  have S := hidH S1
  have W := hidH W1
  clear S1 W1 z1 v1
  go_wp2
  go_ret
  exact ⟨_, rfl, S.out, W.out⟩
set_option maxHeartbeats 1000000 in
theorem source_any (A : Option Addr) (l : List Int) (c : Nat) (w : World) (hA : Bs w A l) (hl : Bytes l) (hm : (l.length : Int) ≤ 1048576) :
    Calls Try.prog 63 #[.slice A l.length c] w fun e w' => e = .returned (.pointer (some ⟨w.heap.size, 0, none⟩)) ∧ Src w' w.heap.size A l c 0 ∧ Below w.heap.size w w' := by
  go_enter Try.func63, Try.ntmps63
  go_wp2
  go_ret
  refine ⟨rfl, ⟨Blk.new _ _ _, hl, ?_, hm⟩, bal (Below.refl _ _) _⟩
  rcases hA with h | ⟨b, off, h1, h2, h3⟩
  · exact .inl h
  · exact .inr ⟨b, off, h1, h2, fun j hj => ((bal (Below.refl _ _) _).cell (p := ⟨b, off + j, none⟩) h2).trans (h3 j hj)⟩
set_option maxHeartbeats 1000000 in
theorem draw_any (g : Nat) (A : Option Addr) (l : List Int) (c at_ : Nat) (w : World) (h : Src w g A l c at_) (ha : (at_ : Int) ≤ 900000000) :
    Calls Try.prog 176 #[.pointer (some ⟨g, 0, none⟩)] w (DRes 4 IsW w g A l c at_) := by
  have H := hidH h
  clear h
  go_enter Try.func176, Try.ntmps176
  go_wp2_with fail
  refine (next_any _ _ _ _ _ _ _ H.out (by omega)).mono ?_
  rintro e w1 ⟨u, rfl, u0, u1, S1, W1, z1⟩
  go_wp2_with fail
  refine (next_any _ _ _ _ _ _ _ S1 (by omega)).mono ?_
  rintro e w2 ⟨v, rfl, v0, v1, S2, W2, z2⟩
  go_wp2_with fail
  refine (next_any _ _ _ _ _ _ _ S2 (by omega)).mono ?_
  rintro e w3 ⟨x, rfl, x0, x1, S3, W3, z3⟩
  have W := hidH (W1.trans (W2.trans W3))
  clear S1 S2 z1 z2 z3 W1 W2 W3
  go_wp2_with fail
  have hg := S3.lt
  refine (pick_any g A l c (at_ + 1 + 1 + 1) w3.heap.size [0, 1, 2, 4294967295, 4294967294, 2147483647, 2147483648, u, v * 70001 % 4294967296, x * 65537] _ (S3.below (bal (Below.refl _ _) _)) (by omega)
    (Ns.of_blk (t := 2) (Blk.new w3 _ _)) (by simp) (by simp) (by omega)).mono ?_
  rintro e w4 ⟨y, at', rfl, hy, ha', S4, W4⟩
  have hY : IsW y := by
    unfold IsW
    simp at hy
    rcases hy with rfl | rfl | rfl | rfl | rfl | rfl | rfl | rfl | rfl | rfl <;> omega
  have Z := hidH (W.out.trans ((Win.of_below (bal (Below.refl _ _) _)).trans W4))
  have S := hidH S4
  have Y := hidH hY
  clear S3 S4 W4 hy hY W
  go_wp2
  go_ret
  exact ⟨y, at', rfl, Y.out, by omega, S.out, Z.out⟩
set_option maxHeartbeats 1000000 in
theorem bent_any (g : Nat) (A : Option Addr) (l : List Int) (c at_ : Nat) (w : World) (h : Src w g A l c at_) (ha : (at_ : Int) ≤ 800000000) :
    Calls Try.prog 140 #[.pointer (some ⟨g, 0, none⟩)] w (DRes 29 (fun v => -1 ≤ v ∧ v ≤ 4294967296) w g A l c at_) := by
  have H := hidH h
  clear h
  go_enter Try.func140, Try.ntmps140
  go_wp2_with fail
  refine (draw_any _ _ _ _ _ _ H.out (by omega)).mono ?_
  rintro e w1 ⟨v1, a1, rfl, p1, t1, S1, W1⟩
  go_wp2_with fail
  refine (draw_any _ _ _ _ _ _ S1 (by omega)).mono ?_
  rintro e w2 ⟨v2, a2, rfl, p2, t2, S2, W2⟩
  have W := W1.trans W2
  clear S1 W1 W2
  go_wp2_with fail
  refine (draw_any _ _ _ _ _ _ S2 (by omega)).mono ?_
  rintro e w3 ⟨v3, a3, rfl, p3, t3, S3, W3⟩
  have X := W.trans W3
  clear S2 W W3
  go_wp2_with fail
  refine (draw_any _ _ _ _ _ _ S3 (by omega)).mono ?_
  rintro e w4 ⟨v4, a4, rfl, p4, t4, S4, W4⟩
  have Y := X.trans W4
  clear S3 X W4
  go_wp2_with fail
  refine (draw_any _ _ _ _ _ _ S4 (by omega)).mono ?_
  rintro e w5 ⟨v5, a5, rfl, p5, t5, S5, W5⟩
  have Z := Y.trans W5
  clear S4 Y W5
  go_wp2_with fail
  refine (draw_any _ _ _ _ _ _ S5 (by omega)).mono ?_
  rintro e w6 ⟨v6, a6, rfl, p6, t6, S6, W6⟩
  have U := Z.trans W6
  clear S5 Z W6
  go_wp2_with fail
  refine (draw_any _ _ _ _ _ _ S6 (by omega)).mono ?_
  rintro e w7 ⟨v7, a7, rfl, p7, t7, S7, W7⟩
  have V := hidH (U.trans W7)
  clear S6 U W7
  go_wp2_with fail
  have hg := S7.lt
  refine (pick_any g A l c a7 w7.heap.size [v1, v2, v3, v4, v5, v6, v7, -1, 4294967296] _ (S7.below (bal (Below.refl _ _) _)) (by omega)
    (Ns.of_blk (t := 2) (Blk.new w7 _ _)) (by simp) (by simp) (by omega)).mono ?_
  rintro e w8 ⟨y, at', rfl, hy, ha', S8, W8⟩
  have hY : -1 ≤ y ∧ y ≤ 4294967296 := by
    unfold IsW at p1 p2 p3 p4 p5 p6 p7
    simp at hy
    rcases hy with rfl | rfl | rfl | rfl | rfl | rfl | rfl | rfl | rfl <;> omega
  have Z := hidH (V.out.trans ((Win.of_below (bal (Below.refl _ _) _)).trans W8))
  have S := hidH S8
  have Y := hidH hY
  clear S7 S8 W8 hy hY V p1 p2 p3 p4 p5 p6 p7
  go_wp2
  go_ret
  exact ⟨y, at', rfl, Y.out, by omega, S.out, Z.out⟩
end Go.Proofs.Ythljdikcpdokdaa

/- Bytes that are drawn: l1Some; and l1Max. -/
namespace Go.Proofs.Ythljdikcpdokdaa
open Go.RowKit Go.Deep

theorem Win.grown {g : Nat} {w w' : World} (h : Win g (g + 1) w w') : w.grownBy w' (some g) :=
  ⟨h.os, h.tape, h.output, h.size, fun k hk hne => h.block k hk (by have : k ≠ g := fun e => hne (by rw [e]); omega)⟩
theorem Src.grown {w w' : World} {g : Nat} {A : Option Addr} {l : List Int} {c at_ : Nat} (h : Src w g A l c at_) {row : Option Nat} (hg : w.grownBy w' row) (hr : ∀ k, row = some k → g < k) : Src w' g A l c at_ := by
  have hlt := h.lt
  refine ⟨(hg.block g hlt (fun e => by have := hr g e.symm; omega)).trans h.blk, h.bytes, ?_, h.len⟩
  rcases h.row with h1 | ⟨b, off, h1, h2, h3⟩
  · exact .inl h1
  · exact .inr ⟨b, off, h1, h2, fun j hj => (World.cell?_of_block (a := ⟨b, off + j, none⟩) (hg.block b (by omega) (fun e => by have := hr b e.symm; omega))).trans (h3 j hj)⟩
/-- A write into a row that was not there at w is no write to what was there. -/
theorem Win.row {B C : Nat} {w a b : World} (h : Win B C w a) {row : Option Nat} (hg : a.grownBy b row) (hr : ∀ k, row = some k → w.heap.size ≤ k) : Win B C w b :=
  ⟨hg.os.trans h.os, hg.tape.trans h.tape, hg.output.trans h.output, Nat.le_trans h.size hg.size,
   fun k hk ho => (hg.block k (Nat.lt_of_lt_of_le hk h.size) (fun e => by have := hr k e.symm; omega)).trans (h.block k hk ho),
   fun q hq => (World.frozen?_of_block (hg.block q.block (Nat.lt_of_lt_of_le hq h.size) (fun e => by have := hr _ e.symm; omega))).trans (h.frozen q hq)⟩
theorem own_kept {w w' : World} {B g : Nat} {e : TypeId} {v : Value} {n : Nat} {xs : List Value} (h : w.ownsRow B e 1 v n xs) (hw : Win g (g + 1) w w') (hg : g < B) : w'.ownsRow B e 1 v n xs :=
  h.kept hw.grown (.inr (fun e => by have := h.lt g e; omega))
/-- Bytes that were drawn: a slice of bytes of the call's own. -/
def SomeRes (N : Nat) (w : World) (g : Nat) (A : Option Addr) (l : List Int) (c at_ : Nat) (e : Ending) (w' : World) : Prop :=
  ∃ (v : Value) (d : List Int) (at' : Nat), e = .returned v ∧ Bytes d ∧ d.length = N ∧ w'.ownsRow w.heap.size 5 1 v d.length (d.map (Value.int .u8)) ∧ Src w' g A l c at' ∧ at' ≤ at_ + N ∧ Win g (g + 1) w w'
theorem some_step {w wr w1 w2 : World} {g : Nat} {A : Option Addr} {l : List Int} {c at1 : Nat} {v v' : Value} {d : List Int} {x : Int} (hw : Win g (g + 1) w wr) (hg : g < w.heap.size) (hown : wr.ownsRow w.heap.size 5 1 v d.length (d.map (Value.int .u8)))
    (S1 : Src w1 g A l c at1) (W1 : Win g (g + 1) wr w1) (hown' : w2.ownsRow w.heap.size 5 1 v' (d.length + 1) (d.map (Value.int .u8) ++ [.int .u8 x])) (hgrow : (w1.alloc (.cells #[.int .u8 x] 5)).grownBy w2 v.ownBlock) :
    w2.ownsRow w.heap.size 5 1 v' (d ++ [x]).length ((d ++ [x]).map (Value.int .u8)) ∧ Src w2 g A l c at1 ∧ Win g (g + 1) w w2 := by
  have hb : Below w1.heap.size w1 (w1.alloc (.cells #[.int .u8 x] 5)) := bal (Below.refl _ _) _
  have hl := hown.lt
  refine ⟨by simpa using hown', (S1.below hb).grown hgrow (fun k hk => by have := hl k hk; omega), ((hw.trans W1).trans (Win.of_below hb)).row hgrow (fun k hk => (hl k hk).1)⟩
set_option maxHeartbeats 1000000 in
theorem some_any (N : Nat) (g : Nat) (A : Option Addr) (l : List Int) (c at_ : Nat) (w : World) (h : Src w g A l c at_) (hN : N ≤ 1000) (ha : (at_ : Int) ≤ 700000000) :
    Calls Try.prog 91 #[.pointer (some ⟨g, 0, none⟩), .int .i64 N] w (SomeRes N w g A l c at_) := by
  have hg := h.lt
  have H := hidH h
  clear h
  obtain ⟨i0, hi, hzz⟩ := Option.map_eq_some_iff.1 infoU8
  simp only [Prod.mk.injEq] at hzz
  obtain ⟨hz0, hz1, hz2⟩ := hzz
  go_enter Try.func91, Try.ntmps91
  go_wp2
  go_loopw [1, 5] (fun n v wr => ∃ (k : Nat) (d : List Int) (at1 : Nat), n = .int .i64 k ∧ Bytes d ∧ d.length + k = N ∧ wr.ownsRow w.heap.size 5 1 v d.length (d.map (Value.int .u8)) ∧ Src wr g A l c at1 ∧ at1 + k ≤ at_ + N ∧ Win g (g + 1) w wr) (fun n _ _ => (intOf n).toNat)
  case atStart => exact ⟨N, [], at_, rfl, fun x hx => by simp at hx, by simp, World.ownsRow_lit w #[] 0 (Nat.le_refl _) (by unfold maxLen; omega) rfl, H.out.below (bal (Below.refl _ _) _), Nat.le_refl _, Win.of_below (bal (Below.refl _ _) _)⟩
  case round =>
    obtain ⟨k, d, at1, rfl, hd, hdk, hown, hS, hat, hW⟩ := hrel
    rcases k with _ | k
    · have O := hidH hown
      have S := hidH hS
      have W := hidH hW
      have D := hidH hd
      have K := hidH hdk
      clear hown hS hW hd hdk hz0 hz1 hz2 hi
      go_wp2
      go_ret
      exact ⟨_, d, at1, rfl, D.out, K.out, O.out, S.out, by omega, W.out⟩
    · have hgt : (0 : Int) < ((k + 1 : Nat) : Int) := by omega
      have hsz := hW.size
      have K := hidH hdk
      have hdl : d.length ≤ 1000 := by omega
      clear hdk
      go_wp2_with fail
      refine (next_any _ _ _ _ _ _ _ hS (by omega)).mono ?_
      rintro e w1 ⟨x, rfl, x0, x1, S1, W1, z1⟩
      have hown1 := own_kept hown W1 hg
      have hsz1 := W1.size
      clear z1
      have hx : x ≤ 255 := by omega
      go_wp2_with (at_builtin; refine wpList_append_own _ rfl _ _ 22 rfl w.heap.size 5 i0 (.int .u8 0) 1 1 Try.underlying22 hi hz0 hz1 hz2 rfl (by decide) _ _ _ rfl (hown1.alloc _) ⟨w1.heap.size, 0, none⟩ 1 1 [.int .u8 x] rfl rfl ?c1 ?c2 ?c3 ?c4 ?c5 ?_)
      case c1 => exact cell_one_new _ _ _
      case c2 => intro u hu; simp at hu; subst hu; rfl
      case c3 => unfold maxLen; omega
      case c4 => omega
      case c5 => simp; omega
      intro v' w2 hown' hgrow _
      obtain ⟨O, S, W⟩ := some_step hW hg hown S1 W1 hown' hgrow
      have hD : Bytes (d ++ [x]) := fun y hy => by
        rcases List.mem_append.1 hy with h | h
        · exact hd y h
        · simp at h; subst h; exact ⟨x0, hx⟩
      have O' := hidH O
      have S' := hidH S
      have W' := hidH W
      have D' := hidH hD
      clear O S W hD hown hown1 hown' hgrow hS S1 W1 hW hd
      go_wp2
      go_roundw
      case rel => exact ⟨k, d ++ [x], at1 + 1, rfl, D'.out, by have := K.out; simp; omega, O'.out, S'.out, by omega, W'.out⟩
      case measure => simp [intOf]
theorem own_drewN {w : World} {B : Nat} {e : TypeId} {s : Nat} {v : Value} {n : Nat} {xs : List Value} (h : w.ownsRow B e s v n xs) (m : Nat) : (w.drewN m).ownsRow B e s v n xs := h
theorem own_grow {w wr w2 : World} {e : TypeId} {s n m : Nat} {v : Value} {xs : List Value} {o : Obj} (hB : Below w.heap.size w wr) (hown : wr.ownsRow w.heap.size e s v n xs) (hgrow : ((wr.drewN m).alloc o).grownBy w2 v.ownBlock) : Below w.heap.size w w2 :=
  (bal (below_drewN hB m) o).grown hgrow (bal (below_drewN hB m) o).size (fun k hk => (hown.lt k hk).1)
theorem own_mono {w : World} {B C : Nat} {e : TypeId} {s n : Nat} {v : Value} {xs : List Value} (h : w.ownsRow C e s v n xs) (hB : B ≤ C) : w.ownsRow B e s v n xs := by
  obtain ⟨h1, h2 | ⟨g, cap, cur, hv, hg, r⟩⟩ := h
  · exact ⟨h1, .inl h2⟩
  · exact ⟨h1, .inr ⟨g, cap, cur, hv, Nat.le_trans hB hg, r⟩⟩
end Go.Proofs.Ythljdikcpdokdaa

/- Bytes appended to a row of the call's own, the source nil, empty or not; copies of bytes (l1Copy). -/
namespace Go.Proofs.Ythljdikcpdokdaa
open Go.RowKit Go.Deep

theorem run_append_of_nil {P : Program} (w : World) (base : Nat) (t ty e : TypeId) (i : TypeInfo) (size : Nat) (ht : P.underlying t = some (.slice e)) (hi : P.info? e = some i)
    (v : Value) (n : Nat) (xs : List Value) (hown : w.ownsRow base e size v n xs) (c : Nat) : (Builtin.append_ #[t, t] ty #[v, .slice none 0 c]).run P w = .ok v w := by
  rcases hown.2 with ⟨rfl, rfl⟩ | ⟨g, cap, cur, rfl, _, _, hnc, _⟩
  · simp [Builtin.append_, run_underlying ht, sizeOf, typeInfo, hi, Builtin.lenOf, Builtin.firstCells]
  · simp [Builtin.append_, run_underlying ht, sizeOf, typeInfo, hi, Builtin.lenOf, Builtin.firstCells, hnc, storeCells]

/-- A block of bytes that was just laid. -/
theorem lit_bs (w : World) (t : TypeId) (l : List Int) : Bs (w.alloc (.cells (l.map (Value.int .u8)).toArray t)) (some ⟨w.heap.size, 0, none⟩) l :=
  .inr ⟨_, 0, rfl, by simp, fun j hj => by rw [Nat.zero_add, (Blk.new w t (l.map (Value.int .u8)).toArray).cell]; simp [hj]⟩
/-- append(own, src...), both of bytes. -/
theorem wpList_append_bs {w : World} {ops : Array Oper} {rest : List Oper} {o : Oper} {a : Act} {Q : Exit → Act → World → Prop} (hgd : o.guard = none) (s x : Operand)
    (ho : o.op = .call { callee := .builtin .append, args := #[s, x], argTypes := #[22, 22] })
    (base : Nat) (v : Value) (n : Nat) (xs : List Value) (hs : a.eval s = v) (hown : w.ownsRow base 5 1 v n xs)
    (A : Option Addr) (l : List Int) (c : Nat) (hx : a.eval x = .slice A l.length c) (hA : Bs w A l) (hm : n + l.length ≤ 4000000) (hbase : base ≤ w.heap.size)
    (h : ∀ v' w', w'.ownsRow base 5 1 v' (n + l.length) (xs ++ l.map (Value.int .u8)) → w.grownBy w' v.ownBlock → wpList Try.prog ops Q rest (a.put o.dst v') w') : wpList Try.prog ops Q (o :: rest) a w := by
  obtain ⟨i0, hi, hzz⟩ := Option.map_eq_some_iff.1 infoU8
  simp only [Prod.mk.injEq] at hzz
  obtain ⟨hz0, hz1, hz2⟩ := hzz
  have h63 : n + l.length ≤ maxLen := by unfold maxLen; omega
  have hbytes : (n + l.length) * 1 ≤ 140737488355328 := by omega
  have hone : ∀ u ∈ l.map (Value.int .u8), u.oneCell' = true := fun u hu => by simp at hu; obtain ⟨y, _, rfl⟩ := hu; rfl
  rcases hA with rfl | ⟨b, off, rfl, hb, hA⟩
  · rcases A with _ | ad
    · refine wpList_plain hgd fun K hK => ?_
      have hrun := run_append_of_nil (P := Try.prog) w base 22 o.type 5 i0 1 Try.underlying22 hi v n xs hown c
      have hx' : a.eval x = .slice none 0 c := hx
      unfold Oper.wp
      simp [execOp, ho, resolve, invoke, builtin, hs, hx', hrun, Result.andThen]
      exact hK _ _ (h v w (by simpa using hown) (World.grownBy.refl w _))
    · exact wpList_append_own w hgd s x 22 ho base 5 i0 (.int .u8 0) 1 1 Try.underlying22 hi hz0 hz1 hz2 rfl (by decide) v n xs hs hown ad 0 c [] hx rfl (fun j u hu => by simp at hu) (fun u hu => by simp at hu) h63 hbytes hbase (fun v' w' h1 h2 _ => h v' w' h1 h2)
  · exact wpList_append_own w hgd s x 22 ho base 5 i0 (.int .u8 0) 1 1 Try.underlying22 hi hz0 hz1 hz2 rfl (by decide) v n xs hs hown ⟨b, off, none⟩ l.length c (l.map (Value.int .u8)) hx (by simp) (fun j u hu => by
        have hj : j < l.length := by
          rcases Nat.lt_or_ge j l.length with h | h
          · exact h
          · rw [List.getElem?_eq_none (by simpa using h)] at hu; cases hu
        have hadd : (⟨b, off, none⟩ : Addr).add j = ⟨b, off + j, none⟩ := by unfold Addr.add; split <;> simp_all
        rw [hadd, hA j hj, ← hu]; simp [hj]) hone h63 hbytes hbase (fun v' w' h1 h2 _ => h v' w' h1 h2)
theorem bs_grown {w w' : World} {B : Nat} {A : Option Addr} {l : List Int} (h : Bs w A l) {row : Option Nat} (hg : w.grownBy w' row) (hr : ∀ k, row = some k → B ≤ k) (ho : ∀ b off, A = some ⟨b, off, none⟩ → b < B ∨ l = []) : Bs w' A l := by
  rcases h with h | ⟨b, off, h1, h2, h3⟩
  · exact .inl h
  · rcases ho b off h1 with hb | hb
    · exact .inr ⟨b, off, h1, Nat.lt_of_lt_of_le h2 hg.size, fun j hj => (World.cell?_of_block (a := ⟨b, off + j, none⟩) (hg.block b h2 (fun e => by have := hr b e.symm; omega))).trans (h3 j hj)⟩
    · exact .inl hb
/-- Bytes of the call's own come back; what was there has not turned. -/
def OwnB (w : World) (l : List Int) (e : Ending) (w' : World) : Prop :=
  ∃ v, e = .returned v ∧ w'.ownsRow w.heap.size 5 1 v l.length (l.map (Value.int .u8)) ∧ Below w.heap.size w w'
set_option maxHeartbeats 1000000 in
theorem copy_any (A : Option Addr) (l : List Int) (c : Nat) (w : World) (hA : Bs w A l) (hm : l.length ≤ 4000000) :
    Calls Try.prog 148 #[.slice A l.length c] w (OwnB w l) := by
  have hown : (w.alloc (.cells #[] 5)).ownsRow w.heap.size 5 1 (.slice (some ⟨w.heap.size, 0, none⟩) 0 0) 0 [] := World.ownsRow_lit w #[] 0 (Nat.le_refl _) (by unfold maxLen; omega) rfl
  have hA2 := bs_below hA (bal (Below.refl _ w) (.cells #[] 5))
  have HO := hidH hown
  have HA := hidH hA2
  have hb2 := hidH (bal (Below.refl _ w) (.cells #[] 5))
  clear hown hA2 hA
  go_enter Try.func148, Try.ntmps148
  go_wp2_with (at_builtin; refine wpList_append_bs rfl _ _ rfl w.heap.size _ _ _ rfl HO.out A l c rfl HA.out (by omega) (by simp) ?_)
  intro v' w2 hown' hgrow
  have B2 := hidH (hb2.out.grown hgrow (by simp) (fun k hk => by simp [Value.ownBlock] at hk; omega))
  have O2 := hidH hown'
  clear hown' hgrow
  go_wp2
  go_ret
  exact ⟨_, rfl, by simpa using O2.out, B2.out⟩
end Go.Proofs.Ythljdikcpdokdaa

/- The drawn arguments of WordAt: some bytes and some number. -/
namespace Go.Proofs.Ythljdikcpdokdaa
open Go.RowKit Go.Deep
theorem own_ob {w : World} {B : Nat} {v : Value} {d : List Int} (h : w.ownsRow B 5 1 v d.length (d.map (Value.int .u8))) :
    ∃ A cp, v = .slice A d.length cp ∧ Ob B w.heap.size w A d ∧ d.length ≤ cp ∧ (cp : Int) ≤ 9223372036854775807 := by
  have hc := fun g hg => h.cells (g := g) hg
  have hl := h.lt
  obtain ⟨_, ⟨rfl, hn⟩ | ⟨g, cap, cur, rfl, hg, hblk, hnc, hm, _, _⟩⟩ := h
  · have : d = [] := List.eq_nil_of_length_eq_zero hn
    subst this
    exact ⟨none, 0, rfl, .inl rfl, Nat.le_refl _, by omega⟩
  · unfold maxLen at hm
    refine ⟨_, cap, rfl, .inr ⟨g, 0, rfl, hg, (hl g rfl).2, Nat.le_refl _, fun j hj => ⟨?_, ?_⟩⟩, hnc, by omega⟩
    · have h1 := hc g rfl j (.int .u8 (d.getD j 0)) (by simp [hj])
      rw [Nat.zero_add, ← h1]
      rcases j with _ | j <;> simp [Addr.add]
    · simp [World.frozen?, hblk]
/-- Some bytes and some number come back. -/
def WAt (w : World) (e : Ending) (w' : World) : Prop :=
  ∃ A cp d n, e = .returned (.tuple #[.slice A (d : List Int).length cp, .int .i64 n]) ∧ Bs w' A d ∧ Bytes d ∧ d.length ≤ cp ∧ (cp : Int) ≤ 9223372036854775807 ∧ d.length ≤ 1000 ∧ Below w.heap.size w w'
end Go.Proofs.Ythljdikcpdokdaa

/- What WordAt answers, the program's and the model's. -/
namespace Go.Proofs.Ythljdikcpdokdaa
open Go.RowKit Go.Deep

theorem or_sum (k : Nat) (hi lo : Nat) (h : lo < 2 ^ k) : (hi * 2 ^ k) ||| lo = hi * 2 ^ k + lo := by
  rw [Nat.mul_comm, Nat.two_pow_add_eq_or_of_lt h]
theorem or4 (a b c d : Nat) (ha : a < 256) (hb : b < 256) (hc : c < 256) (hd : d < 256) :
    bits BinOp.or IntKind.u32 (bits BinOp.or IntKind.u32 (bits BinOp.or IntKind.u32 ((a : Int) * 16777216) ((b : Int) * 65536)) ((c : Int) * 256)) (d : Int) = (a : Int) * 16777216 + (b : Int) * 65536 + (c : Int) * 256 + (d : Int) := by
  have e1 : ((a : Int) * 16777216) = ((a * 16777216 : Nat) : Int) := by simp
  have e2 : ((b : Int) * 65536) = ((b * 65536 : Nat) : Int) := by simp
  have e3 : ((c : Int) * 256) = ((c * 256 : Nat) : Int) := by simp
  have s1 := or_sum 24 a (b * 65536) (by omega)
  have s2 := or_sum 16 (a * 256 + b) (c * 256) (by omega)
  have s3 := or_sum 8 ((a * 256 + b) * 256 + c) d (by omega)
  rw [e1, e2, e3, u32_or_nat _ _ (by omega) (by omega), show a * 16777216 ||| b * 65536 = (a * 256 + b) * 2 ^ 16 from by rw [show a * 16777216 = a * 2 ^ 24 from by omega, s1]; omega,
    u32_or_nat _ _ (by omega) (by omega), s2, show (a * 256 + b) * 2 ^ 16 + c * 256 = ((a * 256 + b) * 256 + c) * 2 ^ 8 from by omega, u32_or_nat _ _ (by omega) (by omega), s3]
  omega
/-- The word in the four bytes from at on. -/
def atW (l : List Int) (k : Nat) : Int := l.getD k 0 * 16777216 + l.getD (k + 1) 0 * 65536 + l.getD (k + 2) 0 * 256 + l.getD (k + 3) 0
def atC (l : List Int) (n : Int) : Int := if 0 ≤ n ∧ n ≤ (l.length : Int) - 4 then 0 else 3
def atV (l : List Int) (n : Int) : Int := if 0 ≤ n ∧ n ≤ (l.length : Int) - 4 then atW l n.toNat else 0
end Go.Proofs.Ythljdikcpdokdaa

/- The model's chunks: l1Pair, l1PairAt, ChunkFault. -/
namespace Go.Proofs.Ythljdikcpdokdaa
open Go.RowKit Go.Deep

theorem own_below0 {w w' : World} {B : Nat} {e : TypeId} {s n : Nat} {v : Value} {xs : List Value} (h : w.ownsRow B e s v n xs) (hb : Below w.heap.size w w') : w'.ownsRow B e s v n xs := by
  obtain ⟨h1, h2 | ⟨g, cap, cur, h3, h4, h5, h6⟩⟩ := h
  · exact ⟨h1, .inl h2⟩
  · exact ⟨h1, .inr ⟨g, cap, cur, h3, h4, (hb.block g (Array.getElem?_eq_some_iff.1 h5).1).trans h5, h6⟩⟩
theorem lit_bs2 {w : World} {g : Nat} {t : TypeId} {x y : Int} (h : Blk w g t #[.int .u8 x, .int .u8 y]) : Bs w (some ⟨g, 0, none⟩) [x, y] :=
  .inr ⟨g, 0, rfl, h.lt, fun j hj => by
    rw [Nat.zero_add, h.cell]
    match j, hj with
    | 0, _ => rfl
    | 1, _ => rfl⟩
theorem win_set (w : World) (g o : Nat) (u : Value) : Win g (g + 1) w (w.setCell ⟨g, o, none⟩ u) :=
  ⟨rfl, rfl, rfl, by simp [World.setCell], fun k _ ho => Below.heap_setCell _ _ _ _ (by show k ≠ g; omega), fun _ _ => World.frozen?_setCell _ _ _ _⟩
/-- A chunk's value. -/
def ckV (k f : Int) (A : Option Addr) (n c : Nat) : Value := .agg #[.int .i64 k, .int .i64 f, .slice A n c]
def chF (k f : Int) (b : List Int) : Int := if inB k 0 255 && inB f 0 255 then (if b.length ≤ 160 then 0 else 2) else 3
/-- A chunk's bytes: its head, its body, noughts to whole words. -/
def chPad (n : Nat) : Nat := (4 - n % 4) % 4
def chL (k f : Int) (b : List Int) : List Int := [k, f, ((b.length : Int) + 4) / 256, ((b.length : Int) + 4) % 256] ++ b ++ List.replicate (chPad b.length) 0
theorem chL_len (k f : Int) (b : List Int) : (chL k f b).length = 4 + b.length + chPad b.length := by simp [chL]; omega
/-- A chunk in memory: three cells from offset o of block g on, and its body. -/
structure CkB (w : World) (g o : Nat) (k f : Int) (A : Option Addr) (b : List Int) (c : Nat) : Prop where
  lt : g < w.heap.size
  c0 : w.cell? ⟨g, o, none⟩ = some (.int .i64 k)
  c1 : w.cell? ⟨g, o + 1, none⟩ = some (.int .i64 f)
  c2 : w.cell? ⟨g, o + 2, none⟩ = some (.slice A b.length c)
  body : Bs w A b
theorem CkB.below {w w' : World} {B g o : Nat} {k f : Int} {A : Option Addr} {b : List Int} {c : Nat} (h : CkB w g o k f A b c) (hb : Below B w w') (hB : w.heap.size ≤ B := by first | exact Nat.le_refl _ | assumption) : CkB w' g o k f A b c :=
  have hb' : Below w.heap.size w w' := hb.mono hB
  ⟨Nat.lt_of_lt_of_le h.lt hb'.size, (hb'.cell (p := ⟨g, o, none⟩) h.lt).trans h.c0, (hb'.cell (p := ⟨g, o + 1, none⟩) h.lt).trans h.c1, (hb'.cell (p := ⟨g, o + 2, none⟩) h.lt).trans h.c2, bs_below h.body hb'⟩
end Go.Proofs.Ythljdikcpdokdaa
