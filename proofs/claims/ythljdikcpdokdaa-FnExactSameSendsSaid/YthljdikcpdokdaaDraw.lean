/- The drawing of inputs out of the bytes of a code: what l1Source, l1Next, l1Pick, l1Chance, l1Draw, l1Bent leave. What is drawn is some number in its range; nothing more is said. -/
import Derived.Test.YthljdikcpdokdaaBytes
namespace Go.Proofs.Ythljdikcpdokdaa
open Go.RowKit Go.Deep

/-- Block g is a source of draws over the bytes l, of which at have been drawn. -/
structure Src (w : World) (g : Nat) (A : Option Addr) (l : List Int) (c at_ : Nat) : Prop where
  blk : Blk w g 182 #[.slice A l.length c, .int .i64 at_]
  bytes : Bytes l
  row : l = [] ∨ ∃ b off, A = some ⟨b, off, none⟩ ∧ b < g ∧ ∀ j, j < l.length → w.cell? ⟨b, off + j, none⟩ = some (.int .u8 (l.getD j 0))
  len : (l.length : Int) ≤ 1048576

def NextRes (w : World) (g : Nat) (A : Option Addr) (l : List Int) (c at_ : Nat) (n : Int) (e : Ending) (w' : World) : Prop :=
  ∃ v : Int, e = .returned (.int .i64 v) ∧ 0 ≤ v ∧ (v < n ∨ v = 0) ∧ Src w' g A l c (at_ + 1) ∧ Win g (g + 1) w w' ∧ w'.heap.size = w.heap.size

theorem Src.lt {w : World} {g : Nat} {A : Option Addr} {l : List Int} {c at_ : Nat} (h : Src w g A l c at_) : g < w.heap.size := h.blk.lt
/-- One draw more: the count's cell is written. -/
theorem Src.next {w : World} {g : Nat} {A : Option Addr} {l : List Int} {c at_ : Nat} (h : Src w g A l c at_) : Src (w.setCell ⟨g, 1, none⟩ (.int .i64 ((at_ : Int) + 1))) g A l c (at_ + 1) := by
  refine ⟨?_, h.bytes, ?_, h.len⟩
  · have hb := h.blk
    unfold Blk at hb ⊢
    simp [World.setCell, Array.getElem?_modify, hb]
  · rcases h.row with h1 | ⟨b, off, h1, h2, h3⟩
    · exact .inl h1
    · exact .inr ⟨b, off, h1, h2, fun j hj => (World.cell?_setCell_other _ _ _ _ (fun e => by injection e with e1 _; omega)).trans (h3 j hj)⟩
theorem Src.drewN {w : World} {g : Nat} {A : Option Addr} {l : List Int} {c at_ : Nat} (h : Src w g A l c at_) (n : Nat) : Src (w.drewN n) g A l c at_ := ⟨h.blk, h.bytes, h.row, h.len⟩
theorem next_win (w : World) (g : Nat) (u : Value) : Win g (g + 1) w (w.setCell ⟨g, 1, none⟩ u) :=
  ⟨rfl, rfl, rfl, by simp [World.setCell], fun k _ h => Below.heap_setCell _ _ _ _ (by show k ≠ g; omega), fun a _ => World.frozen?_setCell _ _ _ _⟩
theorem Win.drewN {B C : Nat} {a w : World} (h : Win B C a w) (n : Nat) : Win B C a (w.drewN n) := ⟨h.os, h.tape, h.output, h.size, h.block, h.frozen⟩
theorem next_res {w : World} {g : Nat} {A : Option Addr} {l : List Int} {c at_ : Nat} (h : Src w g A l c at_) {n v : Int} (h0 : 0 ≤ v) (h1 : v < n ∨ v = 0) (m : Nat) :
    NextRes w g A l c at_ n (.returned (.int .i64 v)) ((w.setCell ⟨g, 1, none⟩ (.int .i64 ((at_ : Int) + 1))).drewN m) :=
  ⟨v, rfl, h0, h1, h.next.drewN m, (next_win w g _).drewN m, by simp [World.setCell, World.drewN]⟩

set_option maxHeartbeats 1000000 in
theorem next_zero (g : Nat) (A : Option Addr) (l : List Int) (c at_ : Nat) (n : Int) (w : World) (h : Src w g A l c at_) (ha : (at_ : Int) ≤ 1000000000) (hn : n < 1) :
    Calls Try.prog 66 #[.pointer (some ⟨g, 0, none⟩), .int .i64 n] w (NextRes w g A l c at_ n) := by
  have hf := h.blk.frozen 1
  obtain ⟨q0, q1, qz⟩ := h.blk.two
  go_enter Try.func66, Try.ntmps66
  go_wp2
  go_ret
  exact next_res h (Int.le_refl 0) (.inr rfl) 0
theorem mod_lt' (a n : Int) (h : 1 ≤ n) : 0 ≤ a % n ∧ a % n < n := ⟨Int.emod_nonneg _ (by omega), Int.emod_lt_of_pos _ (by omega)⟩
set_option maxHeartbeats 1000000 in
theorem next_nil (g : Nat) (A : Option Addr) (c at_ : Nat) (n : Int) (w : World) (h : Src w g A [] c at_) (ha : (at_ : Int) ≤ 1000000000) (hn : 1 ≤ n) :
    Calls Try.prog 66 #[.pointer (some ⟨g, 0, none⟩), .int .i64 n] w (NextRes w g A [] c at_ n) := by
  have hf := h.blk.frozen 1
  obtain ⟨q0, q1, qz⟩ := h.blk.two
  have hm := mod_lt' ((at_ : Int) * 7) n hn
  go_enter Try.func66, Try.ntmps66
  go_wp2
  go_ret
  exact next_res h hm.1 (.inl hm.2) 0
set_option maxHeartbeats 1000000 in
theorem next_pos (g : Nat) (b off : Nat) (l : List Int) (c at_ : Nat) (n : Int) (w : World) (h : Src w g (some ⟨b, off, none⟩) l c at_) (ha : (at_ : Int) ≤ 1000000000) (hn : 1 ≤ n) (hl : 0 < l.length) :
    Calls Try.prog 66 #[.pointer (some ⟨g, 0, none⟩), .int .i64 n] w (NextRes w g (some ⟨b, off, none⟩) l c at_ n) := by
  have hf := h.blk.frozen 1
  obtain ⟨q0, q1, qz⟩ := h.blk.two
  have hk : (0 : Int) < (l.length : Int) := by omega
  have hk1 : (1 : Int) ≤ (l.length : Int) := by omega
  have hk2 := h.len
  have hne : ((l.length : Int) == 0) = false := by rw [beq_eq_false_iff_ne]; omega
  obtain ⟨m0, m1⟩ := mod_lt' (at_ : Int) (l.length : Int) hk1
  have hn1 : (decide (n < 1)) = false := by simp; omega
  obtain ⟨x0, e0, y0, z0⟩ : ∃ x0 : Int, (w.setCell ⟨g, 1, none⟩ (.int .i64 ((at_ : Int) + 1))).cell? ⟨b, off + at_ % l.length, none⟩ = some (.int .u8 x0) ∧ 0 ≤ x0 ∧ x0 ≤ 255 := by
    rcases h.next.row with h1 | ⟨b', off', h1, h2, h3⟩
    · rw [h1] at hl; simp at hl
    · simp at h1; obtain ⟨rfl, rfl⟩ := h1
      exact ⟨_, h3 _ (Nat.mod_lt _ hl), h.bytes.get _⟩
  obtain ⟨m2, m3⟩ := mod_lt' ((at_ : Int) + 1) (l.length : Int) hk1
  obtain ⟨m4, m5⟩ := mod_lt' ((at_ : Int) + 2) (l.length : Int) hk1
  have d0 : 0 ≤ (at_ : Int) / (l.length : Int) := Int.ediv_nonneg (by omega) (by omega)
  have d1 : (at_ : Int) / (l.length : Int) ≤ 1000000000 := Int.le_trans (Int.ediv_le_self _ (by omega)) ha
  obtain ⟨x1, e1, y1, z1⟩ : ∃ x1 : Int, (w.setCell ⟨g, 1, none⟩ (.int .i64 ((at_ : Int) + 1))).cell? ⟨b, off + (at_ + 1) % l.length, none⟩ = some (.int .u8 x1) ∧ 0 ≤ x1 ∧ x1 ≤ 255 := by
    rcases h.next.row with h1 | ⟨b', off', h1, h2, h3⟩
    · rw [h1] at hl; simp at hl
    · simp at h1; obtain ⟨rfl, rfl⟩ := h1
      exact ⟨_, h3 _ (Nat.mod_lt _ hl), h.bytes.get _⟩
  obtain ⟨x2, e2, y2, z2⟩ : ∃ x2 : Int, (w.setCell ⟨g, 1, none⟩ (.int .i64 ((at_ : Int) + 1))).cell? ⟨b, off + (at_ + 2) % l.length, none⟩ = some (.int .u8 x2) ∧ 0 ≤ x2 ∧ x2 ≤ 255 := by
    rcases h.next.row with h1 | ⟨b', off', h1, h2, h3⟩
    · rw [h1] at hl; simp at hl
    · simp at h1; obtain ⟨rfl, rfl⟩ := h1
      exact ⟨_, h3 _ (Nat.mod_lt _ hl), h.bytes.get _⟩
  have t1 : (((at_ : Int) + 1) % (l.length : Int)).toNat = (at_ + 1) % l.length := by
    have e : ((at_ : Int) + 1) % (l.length : Int) = (((at_ + 1) % l.length : Nat) : Int) := by simp
    rw [e]; rfl
  have t2 : (((at_ : Int) + 2) % (l.length : Int)).toNat = (at_ + 2) % l.length := by
    have e : ((at_ : Int) + 2) % (l.length : Int) = (((at_ + 2) % l.length : Nat) : Int) := by simp
    rw [e]; rfl
  rcases Int.lt_or_le 60000 n with h6 | h6
  · go_enter Try.func66, Try.ntmps66
    go_wp2
    go_quiet (fail)
    go_wp2
    go_quiet (fail)
    go_wp2
    go_quiet (fail)
    go_wp2
    go_ret
    exact next_res h (mod_lt' _ n hn).1 (.inl (mod_lt' _ n hn).2) _
  · rcases Int.lt_or_le 200 n with h7 | h7
    · go_enter Try.func66, Try.ntmps66
      go_wp2
      go_quiet (fail)
      go_wp2
      go_quiet (fail)
      go_wp2
      go_ret
      exact next_res h (mod_lt' _ n hn).1 (.inl (mod_lt' _ n hn).2) _
    · go_enter Try.func66, Try.ntmps66
      go_wp2
      go_quiet (fail)
      go_wp2
      go_ret
      exact next_res h (mod_lt' _ n hn).1 (.inl (mod_lt' _ n hn).2) _
theorem next_any (g : Nat) (A : Option Addr) (l : List Int) (c at_ : Nat) (n : Int) (w : World) (h : Src w g A l c at_) (ha : (at_ : Int) ≤ 1000000000) :
    Calls Try.prog 66 #[.pointer (some ⟨g, 0, none⟩), .int .i64 n] w (NextRes w g A l c at_ n) := by
  rcases Int.lt_or_le n 1 with hn | hn
  · exact next_zero g A l c at_ n w h ha hn
  · rcases l with _ | ⟨x, l⟩
    · exact next_nil g A c at_ n w h ha hn
    · rcases h.row with h1 | ⟨b, off, rfl, _⟩
      · simp at h1
      · exact next_pos g b off _ c at_ n w h ha hn (by simp)
/-- At most k draws: some number of which P holds; nothing but the source's block and new blocks has turned. -/
def DRes (k : Nat) (P : Int → Prop) (w : World) (g : Nat) (A : Option Addr) (l : List Int) (c at_ : Nat) (e : Ending) (w' : World) : Prop :=
  ∃ (v : Int) (at' : Nat), e = .returned (.int .i64 v) ∧ P v ∧ at' ≤ at_ + k ∧ Src w' g A l c at' ∧ Win g (g + 1) w w'
/-- A block from its start on reads as the numbers vs. -/
def Ns (w : World) (B : Nat) (vs : List Int) : Prop := B < w.heap.size ∧ ∀ j, j < vs.length → w.cell? ⟨B, j, none⟩ = some (.int .i64 (vs.getD j 0))
theorem Ns.of_blk {w : World} {B : Nat} {t : TypeId} {vs : List Int} (h : Blk w B t (vs.map (Value.int .i64)).toArray) : Ns w B vs :=
  ⟨h.lt, fun j hj => by rw [h.cell]; simp [hj]⟩
theorem Src.below {w w' : World} {g : Nat} {A : Option Addr} {l : List Int} {c at_ : Nat} (h : Src w g A l c at_) (hb : Below w.heap.size w w') : Src w' g A l c at_ := by
  refine ⟨h.blk.below hb, h.bytes, ?_, h.len⟩
  rcases h.row with h1 | ⟨b, off, h1, h2, h3⟩
  · exact .inl h1
  · have := h.lt
    exact .inr ⟨b, off, h1, h2, fun j hj => (hb.cell (p := ⟨b, off + j, none⟩) (by show b < _; omega)).trans (h3 j hj)⟩
set_option maxHeartbeats 1000000 in
theorem pick_any (g : Nat) (A : Option Addr) (l : List Int) (c at_ : Nat) (B : Nat) (vs : List Int) (w : World) (h : Src w g A l c at_) (ha : (at_ : Int) ≤ 1000000000) (hB : Ns w B vs) (hv : 0 < vs.length) (hm : vs.length ≤ 100) (hne : B ≠ g) :
    Calls Try.prog 68 #[.pointer (some ⟨g, 0, none⟩), .slice (some ⟨B, 0, none⟩) vs.length vs.length] w (DRes 1 (· ∈ vs) w g A l c at_) := by
  have H := hidH h
  clear h
  go_enter Try.func68, Try.ntmps68
  go_wp2_with fail
  refine (next_any _ _ _ _ _ _ _ H.out ha).mono ?_
  rintro e w1 ⟨v, rfl, v0, v1, S1, W1, z1⟩
  obtain ⟨k, rfl⟩ : ∃ k : Nat, v = k := ⟨v.toNat, by omega⟩
  have hk : k < vs.length := by omega
  have hki : (k : Int) < (vs.length : Int) := by omega
  have q := (W1.cell (p := ⟨B, k, none⟩) hB.1 (by show B < g ∨ g + 1 ≤ B; omega)).trans (hB.2 k hk)
  have hmem : vs.getD k 0 ∈ vs := by
    rw [List.getD_eq_getElem?_getD, List.getElem?_eq_getElem hk]; exact List.getElem_mem hk
  generalize vs.getD k 0 = x at q hmem
  have S := hidH S1
  have W := hidH W1
  have M := hidH hmem
  clear S1 W1 z1 hB hmem v1
  go_wp2
  go_ret
  exact ⟨x, at_ + 1, rfl, M.out, Nat.le_refl _, S.out, W.out⟩
set_option maxHeartbeats 1000000 in
theorem chance_any (g : Nat) (A : Option Addr) (l : List Int) (c at_ : Nat) (n : Int) (w : World) (h : Src w g A l c at_) (ha : (at_ : Int) ≤ 1000000000) :
    Calls Try.prog 90 #[.pointer (some ⟨g, 0, none⟩), .int .i64 n] w fun e w' => ∃ b, e = .returned (.bool b) ∧ Src w' g A l c (at_ + 1) ∧ Win g (g + 1) w w' := by
  have H := hidH h
  clear h
  go_enter Try.func90, Try.ntmps90
  go_wp2_with fail
  refine (next_any _ _ _ _ _ _ _ H.out ha).mono ?_
  rintro e w1 ⟨v, rfl, v0, v1, S1, W1, z1⟩
  have S := hidH S1
  have W := hidH W1
  clear S1 W1 z1 v1
  go_wp2
  go_ret
  exact ⟨_, rfl, S.out, W.out⟩
set_option maxHeartbeats 1000000 in
theorem source_any (A : Option Addr) (l : List Int) (c : Nat) (w : World) (hA : Bs w A l) (hl : Bytes l) (hm : (l.length : Int) ≤ 1048576) :
    Calls Try.prog 63 #[.slice A l.length c] w fun e w' => e = .returned (.pointer (some ⟨w.heap.size, 0, none⟩)) ∧ Src w' w.heap.size A l c 0 ∧ Below w.heap.size w w' := by
  go_enter Try.func63, Try.ntmps63
  go_wp2
  go_ret
  refine ⟨rfl, ⟨Blk.new _ _ _, hl, ?_, hm⟩, bal (Below.refl _ _) _⟩
  rcases hA with h | ⟨b, off, h1, h2, h3⟩
  · exact .inl h
  · exact .inr ⟨b, off, h1, h2, fun j hj => ((bal (Below.refl _ _) _).cell (p := ⟨b, off + j, none⟩) h2).trans (h3 j hj)⟩
set_option maxHeartbeats 1000000 in
theorem draw_any (g : Nat) (A : Option Addr) (l : List Int) (c at_ : Nat) (w : World) (h : Src w g A l c at_) (ha : (at_ : Int) ≤ 900000000) :
    Calls Try.prog 176 #[.pointer (some ⟨g, 0, none⟩)] w (DRes 4 IsW w g A l c at_) := by
  have H := hidH h
  clear h
  go_enter Try.func176, Try.ntmps176
  go_wp2_with fail
  refine (next_any _ _ _ _ _ _ _ H.out (by omega)).mono ?_
  rintro e w1 ⟨u, rfl, u0, u1, S1, W1, z1⟩
  go_wp2_with fail
  refine (next_any _ _ _ _ _ _ _ S1 (by omega)).mono ?_
  rintro e w2 ⟨v, rfl, v0, v1, S2, W2, z2⟩
  go_wp2_with fail
  refine (next_any _ _ _ _ _ _ _ S2 (by omega)).mono ?_
  rintro e w3 ⟨x, rfl, x0, x1, S3, W3, z3⟩
  have W := hidH (W1.trans (W2.trans W3))
  clear S1 S2 z1 z2 z3 W1 W2 W3
  go_wp2_with fail
  have hg := S3.lt
  refine (pick_any g A l c (at_ + 1 + 1 + 1) w3.heap.size [0, 1, 2, 4294967295, 4294967294, 2147483647, 2147483648, u, v * 70001 % 4294967296, x * 65537] _ (S3.below (bal (Below.refl _ _) _)) (by omega)
    (Ns.of_blk (t := 2) (Blk.new w3 _ _)) (by simp) (by simp) (by omega)).mono ?_
  rintro e w4 ⟨y, at', rfl, hy, ha', S4, W4⟩
  have hY : IsW y := by
    unfold IsW
    simp at hy
    rcases hy with rfl | rfl | rfl | rfl | rfl | rfl | rfl | rfl | rfl | rfl <;> omega
  have Z := hidH (W.out.trans ((Win.of_below (bal (Below.refl _ _) _)).trans W4))
  have S := hidH S4
  have Y := hidH hY
  clear S3 S4 W4 hy hY W
  go_wp2
  go_ret
  exact ⟨y, at', rfl, Y.out, by omega, S.out, Z.out⟩
set_option maxHeartbeats 1000000 in
theorem bent_any (g : Nat) (A : Option Addr) (l : List Int) (c at_ : Nat) (w : World) (h : Src w g A l c at_) (ha : (at_ : Int) ≤ 800000000) :
    Calls Try.prog 140 #[.pointer (some ⟨g, 0, none⟩)] w (DRes 29 (fun v => -1 ≤ v ∧ v ≤ 4294967296) w g A l c at_) := by
  have H := hidH h
  clear h
  go_enter Try.func140, Try.ntmps140
  go_wp2_with fail
  refine (draw_any _ _ _ _ _ _ H.out (by omega)).mono ?_
  rintro e w1 ⟨v1, a1, rfl, p1, t1, S1, W1⟩
  go_wp2_with fail
  refine (draw_any _ _ _ _ _ _ S1 (by omega)).mono ?_
  rintro e w2 ⟨v2, a2, rfl, p2, t2, S2, W2⟩
  have W := W1.trans W2
  clear S1 W1 W2
  go_wp2_with fail
  refine (draw_any _ _ _ _ _ _ S2 (by omega)).mono ?_
  rintro e w3 ⟨v3, a3, rfl, p3, t3, S3, W3⟩
  have X := W.trans W3
  clear S2 W W3
  go_wp2_with fail
  refine (draw_any _ _ _ _ _ _ S3 (by omega)).mono ?_
  rintro e w4 ⟨v4, a4, rfl, p4, t4, S4, W4⟩
  have Y := X.trans W4
  clear S3 X W4
  go_wp2_with fail
  refine (draw_any _ _ _ _ _ _ S4 (by omega)).mono ?_
  rintro e w5 ⟨v5, a5, rfl, p5, t5, S5, W5⟩
  have Z := Y.trans W5
  clear S4 Y W5
  go_wp2_with fail
  refine (draw_any _ _ _ _ _ _ S5 (by omega)).mono ?_
  rintro e w6 ⟨v6, a6, rfl, p6, t6, S6, W6⟩
  have U := Z.trans W6
  clear S5 Z W6
  go_wp2_with fail
  refine (draw_any _ _ _ _ _ _ S6 (by omega)).mono ?_
  rintro e w7 ⟨v7, a7, rfl, p7, t7, S7, W7⟩
  have V := hidH (U.trans W7)
  clear S6 U W7
  go_wp2_with fail
  have hg := S7.lt
  refine (pick_any g A l c a7 w7.heap.size [v1, v2, v3, v4, v5, v6, v7, -1, 4294967296] _ (S7.below (bal (Below.refl _ _) _)) (by omega)
    (Ns.of_blk (t := 2) (Blk.new w7 _ _)) (by simp) (by simp) (by omega)).mono ?_
  rintro e w8 ⟨y, at', rfl, hy, ha', S8, W8⟩
  have hY : -1 ≤ y ∧ y ≤ 4294967296 := by
    unfold IsW at p1 p2 p3 p4 p5 p6 p7
    simp at hy
    rcases hy with rfl | rfl | rfl | rfl | rfl | rfl | rfl | rfl | rfl <;> omega
  have Z := hidH (V.out.trans ((Win.of_below (bal (Below.refl _ _) _)).trans W8))
  have S := hidH S8
  have Y := hidH hY
  clear S7 S8 W8 hy hY V p1 p2 p3 p4 p5 p6 p7
  go_wp2
  go_ret
  exact ⟨y, at', rfl, Y.out, by omega, S.out, Z.out⟩
end Go.Proofs.Ythljdikcpdokdaa
