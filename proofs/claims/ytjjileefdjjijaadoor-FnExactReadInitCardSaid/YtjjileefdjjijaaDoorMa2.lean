import Derived.Test.YtjjileefdjjijaaDoorMa1
import Derived.WalkLawsBesides
import Derived.Test.YtjjileefdjjijaaDoorMa0
import Derived.Deep.QuietTactic
import Derived.BigQuiet
import Derived.IntWalk
import Derived.Deep.OwnRows

/- The program's byteReader: take, number, pair, word. -/
namespace Go.Proofs.YtjjileefdjjijaaDoor
open Go.RowKit Go.Deep

/-- A reader in block r: what is left to read is l. -/
def RdB (w : World) (r : Nat) (l : List Int) : Prop :=
  ∃ A c, Blk w r 159 #[.slice A l.length c] ∧ Bs w A l ∧ l.length ≤ c ∧ (c : Int) ≤ 9223372036854775807 ∧ ∀ a, A = some a → a.block < r
theorem RdB.below {w w' : World} {r : Nat} {l : List Int} (h : RdB w r l) (hb : Below w.heap.size w w') : RdB w' r l := by
  obtain ⟨A, c, h1, h2, h3⟩ := h
  exact ⟨A, c, h1.below hb, bs_below h2 hb, h3⟩
theorem RdB.lt {w : World} {r : Nat} {l : List Int} (h : RdB w r l) : r < w.heap.size := by
  obtain ⟨A, c, h1, _⟩ := h
  exact h1.lt
theorem win_all {B C B' C' : Nat} {w w' : World} (h : Win B C w w') (hB : B' ≤ B) (hC : C ≤ C') : Win B' C' w w' :=
  ⟨h.os, h.tape, h.output, h.size, fun k hk ho => h.block k hk (by omega), h.frozen⟩
/-- The text's own panic. -/
def PanE (E : Value) : Ending := .panicked [{ v := E, recovered := false }]
set_option maxHeartbeats 1000000 in
theorem take_ok (r n : Nat) (l : List Int) (w : World) (h : RdB w r l) (hn : n ≤ l.length) :
    Calls Tryd.prog 141 #[.pointer (some ⟨r, 0, none⟩), .int .i64 (n : Int)] w fun e w' => ∃ A c, e = .returned (.slice A n c) ∧ Bs w' A (l.take n) ∧ n ≤ c ∧ (∀ a, A = some a → a.block < r) ∧ RdB w' r (l.drop n) ∧ Win r (r + 1) w w' ∧ w'.heap.size = w.heap.size := by
  obtain ⟨A, c, K, hA, hc, hcm, hf⟩ := h
  have c0 := K.cell 0
  have f0 := K.frozen 0
  have hlt := K.lt
  simp only [List.getElem?_toArray, List.getElem?_cons_zero] at c0
  have s1 := fun u => cut_h A l.length c n (n : Int) rfl (by omega) u
  have s2 := fun u => cut_l A l.length c n (n : Int) rfl hn u
  have HK := hidH K
  have HA := hidH (And.intro hA (And.intro hc (And.intro hcm hf)))
  have hnI : (n : Int) ≤ (l.length : Int) := by omega
  have hn0 : ¬ ((n : Int) < 0) := by omega
  have hlm : (l.length : Int) ≤ 9223372036854775807 := by omega
  have HN := hidH hn
  clear K hA hc hcm hf hn
  go_enter Tryd.func141, Tryd.ntmps141
  go_wp2
  go_ret
  have W := win_set w r 0 (.slice (cutA A n c) (l.length - n) (c - n))
  have hf := HA.out.2.2.2
  have hAw : Bs (w.setCell ⟨r, 0, none⟩ (.slice (cutA A n c) (l.length - n) (c - n))) A l := bs_win HA.out.1 W (fun b off e => .inl (hf _ e))
  refine ⟨A, c, rfl, cutA_take hAw HN.out, by have := HN.out; have := HA.out.2.1; omega, hf, ⟨cutA A n c, c - n, ?_, cutA_drop hAw HN.out HA.out.2.1, ?_, ?_, ?_⟩, W, by simp [World.setCell]⟩
  · have h1 := heap_setCell_same w r 0 _ _ (.slice (cutA A n c) (l.length - n) (c - n)) HK.out
    unfold Blk
    rw [h1, List.length_drop]
    rfl
  · rw [List.length_drop]; have := HA.out.2.1; omega
  · have := HA.out.2.2.1; omega
  · intro a ha
    unfold cutA at ha
    split at ha
    · exact hf a ha
    · obtain ⟨a', e, rfl⟩ := Option.map_eq_some_iff.1 ha
      have := hf a' e
      unfold Addr.add
      split <;> simpa using this
set_option maxHeartbeats 1000000 in
theorem take_bad (r : Nat) (n : Int) (l : List Int) (w : World) (ty : TypeId) (pv : Value) (h : RdB w r l) (hn : n < 0 ∨ (l.length : Int) < n) (hE : w.cell? ⟨0, 0, none⟩ = some (.iface ty pv)) :
    Calls Tryd.prog 141 #[.pointer (some ⟨r, 0, none⟩), .int .i64 n] w fun e w' => e = PanE (.iface ty pv) ∧ w' = w := by
  obtain ⟨A, c, K, hA, hc, hcm, hf⟩ := h
  have c0 := K.cell 0
  have hlt := K.lt
  simp only [List.getElem?_toArray, List.getElem?_cons_zero] at c0
  clear hA hc hcm hf
  unfold PanE
  rcases hn with hn | hn
  · go_enter Tryd.func141, Tryd.ntmps141
    go_wp2
    exact ⟨rfl, rfl, rfl⟩
  · have h0 : ¬ (n < 0) := by omega
    go_enter Tryd.func141, Tryd.ntmps141
    go_wp2
    exact ⟨rfl, rfl, rfl⟩
/-- The reader, the text's own error, and that what is left are bytes. -/
structure RE (w : World) (r : Nat) (ty : TypeId) (pv : Value) (l : List Int) : Prop where
  rd : RdB w r l
  e : w.cell? ⟨0, 0, none⟩ = some (.iface ty pv)
  pos : 0 < r
  by_ : Bytes l
theorem RE.below {w w' : World} {r : Nat} {ty : TypeId} {pv : Value} {l : List Int} (h : RE w r ty pv l) (hb : Below w.heap.size w w') : RE w' r ty pv l :=
  ⟨h.rd.below hb, (hb.cell (p := ⟨0, 0, none⟩) (Nat.lt_trans h.pos h.rd.lt)).trans h.e, h.pos, h.by_⟩
theorem RE.turn {w w' : World} {r : Nat} {ty : TypeId} {pv : Value} {l l' : List Int} (h : RE w r ty pv l) (hw : Win r (r + 1) w w') (hr : RdB w' r l') (hl : ∀ x ∈ l', x ∈ l) : RE w' r ty pv l' :=
  ⟨hr, (hw.cell (p := ⟨0, 0, none⟩) (Nat.lt_trans h.pos h.rd.lt) (.inl h.pos)).trans h.e, h.pos, fun x hx => h.by_ x (hl x hx)⟩
set_option maxHeartbeats 1000000 in
theorem number_ok (r : Nat) (x : Int) (l : List Int) (w : World) (ty : TypeId) (pv : Value) (h : RE w r ty pv (x :: l)) :
    Calls Tryd.prog 138 #[.pointer (some ⟨r, 0, none⟩)] w fun e w' => e = .returned (.int .i64 x) ∧ RE w' r ty pv l ∧ Win r (r + 1) w w' ∧ w'.heap.size = w.heap.size := by
  have HT := hidH (take_ok r 1 (x :: l) w h.rd (by simp))
  obtain ⟨x0, x1⟩ := h.by_ x (List.mem_cons_self)
  have HH := hidH h
  clear h
  go_enter Tryd.func138, Tryd.ntmps138
  go_wp2_with fail
  refine HT.out.mono ?_
  rintro e w1 ⟨A, c, rfl, hA, hc, hf, hr, hw, hs⟩
  rcases hA with hA | ⟨b, off, rfl, hb, hA⟩
  · simp at hA
  have a0 := hA 0 (by simp)
  simp only [List.take_succ_cons, List.take_zero, List.getD_cons_zero, Nat.add_zero] at a0
  have HR := hidH (HH.out.turn hw hr (fun y hy => by simp at hy; exact List.mem_cons_of_mem _ hy))
  have HW := hidH (And.intro hw hs)
  clear HT HH hA hc hf hr hw hs
  go_wp2
  go_ret
  exact ⟨rfl, by simpa using HR.out, HW.out⟩
set_option maxHeartbeats 1000000 in
theorem number_bad (r : Nat) (w : World) (ty : TypeId) (pv : Value) (h : RE w r ty pv []) :
    Calls Tryd.prog 138 #[.pointer (some ⟨r, 0, none⟩)] w fun e w' => e = PanE (.iface ty pv) ∧ w' = w := by
  have HT := hidH (take_bad r 1 [] w ty pv h.rd (.inr (by simp)) h.e)
  clear h
  unfold PanE at HT ⊢
  go_enter Tryd.func138, Tryd.ntmps138
  go_wp2_with fail
  refine HT.out.mono ?_
  rintro e w1 ⟨rfl, rfl⟩
  clear HT
  go_wp2
  exact ⟨rfl, rfl, rfl⟩
set_option maxHeartbeats 1000000 in
theorem pair_ok (r : Nat) (x y : Int) (l : List Int) (w : World) (ty : TypeId) (pv : Value) (h : RE w r ty pv (x :: y :: l)) :
    Calls Tryd.prog 136 #[.pointer (some ⟨r, 0, none⟩)] w fun e w' => e = .returned (.int .i64 (x * 256 + y)) ∧ RE w' r ty pv l ∧ Win r (r + 1) w w' ∧ w'.heap.size = w.heap.size := by
  have HT := hidH (number_ok r x (y :: l) w ty pv h)
  obtain ⟨x0, x1⟩ := h.by_ x (List.mem_cons_self)
  obtain ⟨y0, y1⟩ := h.by_ y (List.mem_cons_of_mem _ List.mem_cons_self)
  clear h
  go_enter Tryd.func136, Tryd.ntmps136
  go_wp2_with fail
  refine HT.out.mono ?_
  rintro e w1 ⟨rfl, hr, hw, hs⟩
  have HT2 := hidH (number_ok r y l w1 ty pv hr)
  have HW := hidH (And.intro hw hs)
  clear HT hr hw hs
  go_wp2_with fail
  refine HT2.out.mono ?_
  rintro e w2 ⟨rfl, hr, hw, hs⟩
  have HR := hidH (And.intro hr (And.intro (HW.out.1.trans hw) (hs.trans HW.out.2)))
  clear HT2 HW hr hw hs
  go_wp2
  go_ret
  exact ⟨rfl, HR.out⟩
set_option maxHeartbeats 1000000 in
theorem pair_bad (r : Nat) (l : List Int) (w : World) (ty : TypeId) (pv : Value) (h : RE w r ty pv l) (hl : l.length < 2) :
    Calls Tryd.prog 136 #[.pointer (some ⟨r, 0, none⟩)] w fun e w' => e = PanE (.iface ty pv) ∧ Win r (r + 1) w w' := by
  unfold PanE
  rcases l with _ | ⟨x, _ | ⟨y, l⟩⟩
  · have HT := hidH (number_bad r w ty pv h)
    clear h
    unfold PanE at HT
    go_enter Tryd.func136, Tryd.ntmps136
    go_wp2_with fail
    refine HT.out.mono ?_
    rintro e w1 ⟨rfl, rfl⟩
    clear HT
    go_wp2
    exact ⟨rfl, rfl, Win.refl _ _ _⟩
  · have HT := hidH (number_ok r x [] w ty pv h)
    obtain ⟨x0, x1⟩ := h.by_ x (List.mem_cons_self)
    clear h
    go_enter Tryd.func136, Tryd.ntmps136
    go_wp2_with fail
    refine HT.out.mono ?_
    rintro e w1 ⟨rfl, hr, hw, hs⟩
    have HT2 := hidH (number_bad r w1 ty pv hr)
    have HW := hidH hw
    clear HT hr hw hs
    unfold PanE at HT2
    go_wp2_with fail
    refine HT2.out.mono ?_
    rintro e w2 ⟨rfl, rfl⟩
    clear HT2
    go_wp2
    exact ⟨rfl, rfl, HW.out⟩
  · simp at hl; omega
set_option maxHeartbeats 1000000 in
theorem word_ok (r : Nat) (l : List Int) (w : World) (ty : TypeId) (pv : Value) (h : RE w r ty pv l) (h4 : 4 ≤ l.length) :
    Calls Tryd.prog 135 #[.pointer (some ⟨r, 0, none⟩)] w fun e w' => e = .returned (.int .i64 (atW l 0)) ∧ RE w' r ty pv (l.drop 4) ∧ Win r (r + 1) w w' := by
  have HT := hidH (take_ok r 4 l w h.rd h4)
  have HH := hidH h
  have p := h.by_.get 0
  have q := h.by_.get 1
  have s := h.by_.get 2
  have t := h.by_.get 3
  have e0 : atW l 0 = l.getD 0 0 * 16777216 + l.getD 1 0 * 65536 + l.getD 2 0 * 256 + l.getD 3 0 := rfl
  have HE := hidH e0
  have HPQ := hidH (And.intro p (And.intro q (And.intro s t)))
  have H4 := hidH h4
  clear h h4 e0 p q s t
  go_enter Tryd.func135, Tryd.ntmps135
  go_wp2_with fail
  refine HT.out.mono ?_
  rintro e w1 ⟨A, c, rfl, hA, hc, hf, hr, hw, hs⟩
  rcases hA with hA | ⟨b, off, rfl, hb, hA⟩
  · have h9 : (l.take 4).length = 0 := by rw [hA]; rfl
    rw [List.length_take] at h9; have := H4.out; omega
  have g : ∀ j, j < 4 → w1.cell? ⟨b, off + j, none⟩ = some (.int .u8 (l.getD j 0)) := fun j hj => by
    rw [hA j (by rw [List.length_take]; have := H4.out; omega)]
    simp [List.getD_eq_getElem?_getD, List.getElem?_take_of_lt hj]
  have a0 := g 0 (by omega)
  rw [Nat.add_zero] at a0
  have a1 := g 1 (by omega)
  have a2 := g 2 (by omega)
  have a3 := g 3 (by omega)
  have HR := hidH (HH.out.turn hw hr (fun y hy => List.mem_of_mem_drop hy))
  have HW := hidH hw
  have hat : ∀ u, (Instr.arrayAt 182 (.slice (some ⟨b, off, none⟩) 4 c)).run Tryd.prog u = .ok (.pointer (some ⟨b, off, none⟩)) u := fun u => run_arrayAt u 182 5 4 _ _ _ Tryd.underlying182 (by omega)
  obtain ⟨x0, hx0⟩ : ∃ x, l.getD 0 0 = x := ⟨_, rfl⟩
  obtain ⟨x1, hx1⟩ : ∃ x, l.getD 1 0 = x := ⟨_, rfl⟩
  obtain ⟨x2, hx2⟩ : ∃ x, l.getD 2 0 = x := ⟨_, rfl⟩
  obtain ⟨x3, hx3⟩ : ∃ x, l.getD 3 0 = x := ⟨_, rfl⟩
  rw [hx0] at a0
  rw [hx1] at a1
  rw [hx2] at a2
  rw [hx3] at a3
  rw [hx0, hx1, hx2, hx3] at HPQ HE
  have HDC := hidH (fun u => decode_any x0 x1 x2 x3 u HPQ.out.1.1 HPQ.out.1.2 HPQ.out.2.1.1 HPQ.out.2.1.2 HPQ.out.2.2.1.1 HPQ.out.2.2.1.2 HPQ.out.2.2.2.1 HPQ.out.2.2.2.2)
  have hz1 : 0 ≤ x0 * 16777216 + x1 * 65536 + x2 * 256 + x3 := by have := HPQ.out; omega
  have hz2 : x0 * 16777216 + x1 * 65536 + x2 * 256 + x3 ≤ 4294967295 := by have := HPQ.out; omega
  clear HT HH hA hc hf hr hw hs g hx0 hx1 hx2 hx3
  go_wp2_with fail
  refine (HDC.out _).mono ?_
  rintro e w2 ⟨rfl, hb2⟩
  have HR2 := hidH (HR.out.below hb2)
  have HW2 := hidH (HW.out.trans (Win.of_below hb2))
  obtain ⟨z, hz⟩ : ∃ z, x0 * 16777216 + x1 * 65536 + x2 * 256 + x3 = z := ⟨_, rfl⟩
  rw [hz] at HE hz1 hz2 ⊢
  clear HDC hb2 HR HW a0 a1 a2 a3 hat hz
  go_wp2
  go_ret
  exact ⟨by rw [HE.out]; rfl, HR2.out, HW2.out⟩
end Go.Proofs.YtjjileefdjjijaaDoor

/- Slices of numbers: what the laws' helpers eqInt64S, markInt64S, heldInt64S and toInt64S do. -/
namespace Go.Proofs.YtjjileefdjjijaaDoor
open Go.RowKit Go.Deep

theorem infoI64 : (Tryd.prog.info? 2).map (fun i => (i.zero, i.size, i.bytes)) = some (some (.int .i64 0), 1, 8) := by kernel_rfl

/-- A slice value at A reads as the numbers l. -/
def Is (w : World) (A : Option Addr) (l : List Int) : Prop :=
  l = [] ∨ ∃ b off, A = some ⟨b, off, none⟩ ∧ b < w.heap.size ∧ ∀ j, j < l.length → w.cell? ⟨b, off + j, none⟩ = some (.int .i64 (l.getD j 0))

theorem is_below {w w' : World} {A : Option Addr} {l : List Int} (h : Is w A l) (hb : Below w.heap.size w w') : Is w' A l := by
  rcases h with h | ⟨b, off, h1, h2, h3⟩
  · exact .inl h
  · exact .inr ⟨b, off, h1, Nat.lt_of_lt_of_le h2 hb.size, fun j hj => (hb.cell (p := ⟨b, off + j, none⟩) h2).trans (h3 j hj)⟩

def Ints (l : List Int) : Prop := ∀ x ∈ l, -9223372036854775808 ≤ x ∧ x ≤ 9223372036854775807
/-- What the law is told of a slice of numbers that came in, as the words here have it. -/
theorem row_is {w : World} {a : Option Addr} {len cap : Nat} {zs : List Int}
    (h : (a = none ∧ len = 0 ∧ cap = 0 ∧ zs = []) ∨ ∃ x, a = some x ∧ len ≤ cap ∧ cap ≤ maxLen ∧ zs.length = cap ∧ (∀ i, i < zs.length → w.cell? (x.add i) = some (.int .i64 (zs.getD i 0))) ∧ ∀ n ∈ zs, (Lit.int .i64 n).wf = true) :
    ∃ l : List Int, l.length = len ∧ Is w a l ∧ Ints l ∧ len ≤ cap ∧ (cap : Int) ≤ 9223372036854775807 := by
  rcases h with ⟨rfl, rfl, rfl, rfl⟩ | ⟨x, rfl, hl, hm, hz, hcell, hwz⟩
  · exact ⟨[], rfl, .inl rfl, fun x hx => by simp at hx, Nat.le_refl _, by omega⟩
  · unfold maxLen at hm
    have hll : (zs.take len).length = len := by rw [List.length_take]; omega
    refine ⟨zs.take len, hll, ?_, fun x hx => ?_, hl, by omega⟩
    · rcases Nat.eq_zero_or_pos len with h0 | h0
      · subst h0; exact .inl rfl
      · obtain ⟨b, off, spot⟩ := x
        have hc := hcell 0 (by omega)
        have hspot : spot = none := by simpa [Addr.add] using World.cell?_spot hc
        subst hspot
        have hc0 : w.cell? ⟨b, off, none⟩ = some (.int .i64 (zs.getD 0 0)) := by simpa [Addr.add] using hc
        refine .inr ⟨b, off, rfl, World.block_lt_of_cell? _ _ hc0, fun j hj => ?_⟩
        have h1 := hcell j (by omega)
        have e : (zs.take len).getD j 0 = zs.getD j 0 := by
          rw [List.getD_eq_getElem?_getD, List.getD_eq_getElem?_getD, List.getElem?_take_of_lt (by omega)]
        rw [e, ← h1]
        rcases j with _ | j <;> simp [Addr.add]
    · have h1 := hwz x (List.mem_of_mem_take hx)
      simp [Lit.wf, IntKind.min, IntKind.max, IntKind.signed, IntKind.bits] at h1
      omega

theorem is_win {B C : Nat} {w w' : World} {A : Option Addr} {l : List Int} (h : Is w A l) (hw : Win B C w w') (ho : ∀ b off, A = some ⟨b, off, none⟩ → b < B ∨ C ≤ b) : Is w' A l := by
  rcases h with h | ⟨b, off, h1, h2, h3⟩
  · exact .inl h
  · exact .inr ⟨b, off, h1, Nat.lt_of_lt_of_le h2 hw.size, fun j hj => (hw.cell (p := ⟨b, off + j, none⟩) h2 (ho b off h1)).trans (h3 j hj)⟩

/-- A slice value at A reads as the numbers l, in a block from B on and below C, and may be written. -/
def Oi (B C : Nat) (w : World) (A : Option Addr) (l : List Int) : Prop :=
  l = [] ∨ ∃ b off, A = some ⟨b, off, none⟩ ∧ B ≤ b ∧ b < C ∧ C ≤ w.heap.size ∧ ∀ j, j < l.length → w.cell? ⟨b, off + j, none⟩ = some (.int .i64 (l.getD j 0)) ∧ w.frozen? ⟨b, off + j, none⟩ = false
theorem Oi.is {B C : Nat} {w : World} {A : Option Addr} {l : List Int} (h : Oi B C w A l) : Is w A l := by
  rcases h with h | ⟨b, off, h1, h2, h3, h4, h5⟩
  · exact .inl h
  · exact .inr ⟨b, off, h1, by omega, fun j hj => (h5 j hj).1⟩
theorem Oi.below {B C : Nat} {w w' : World} {A : Option Addr} {l : List Int} (h : Oi B C w A l) (hb : Below w.heap.size w w') : Oi B C w' A l := by
  rcases h with h | ⟨b, off, h1, h2, h3, h4, h5⟩
  · exact .inl h
  · exact .inr ⟨b, off, h1, h2, h3, Nat.le_trans h4 hb.size, fun j hj => ⟨(hb.cell (p := ⟨b, off + j, none⟩) (by show b < _; omega)).trans (h5 j hj).1, (hb.frozen (p := ⟨b, off + j, none⟩) (by show b < _; omega)).trans (h5 j hj).2⟩⟩

/-- The world behind j nums from k on. -/
def markV (w : World) (b off : Nat) (k : Nat) : Nat → World
  | 0 => w
  | j + 1 => (markV w b off k j).setCell ⟨b, off + j, none⟩ (.int .i64 ((k + j : Nat) : Int))
def nums (k n : Nat) : List Int := (List.range n).map fun i => ((k + i : Nat) : Int)
theorem nums_len (k n : Nat) : (nums k n).length = n := by simp [nums]
theorem nums_at (k n i : Nat) (h : i < n) : (nums k n).getD i 0 = ((k + i : Nat) : Int) := by
  simp [nums, List.getD_eq_getElem?_getD, h]
theorem markV_size (w : World) (b off k j : Nat) : (markV w b off k j).heap.size = w.heap.size := by
  induction j with
  | zero => rfl
  | succ j ih => simp [markV, World.setCell, ih]
theorem markV_far (w : World) (b off k j : Nat) (i : Nat) (h : i ≠ b) : (markV w b off k j).heap[i]? = w.heap[i]? := by
  induction j with
  | zero => rfl
  | succ j ih => exact (Below.heap_setCell _ _ _ _ (by simpa using h)).trans ih
theorem markV_other (w : World) (b off k j : Nat) (q : Addr) (h : ∀ i, i < j → q ≠ ⟨b, off + i, none⟩) : (markV w b off k j).cell? q = w.cell? q := by
  induction j with
  | zero => rfl
  | succ j ih => exact (World.cell?_setCell_other _ _ _ _ (fun e => h j (by omega) e.symm)).trans (ih (fun i hi => h i (by omega)))
theorem markV_frozen (w : World) (b off k j : Nat) (q : Addr) : (markV w b off k j).frozen? q = w.frozen? q := by
  induction j with
  | zero => rfl
  | succ j ih => simp [markV, ih]
theorem markV_cell (w : World) (b off k j i : Nat) (h : i < j) (hc : ∀ i, i < j → ∃ v, w.cell? ⟨b, off + i, none⟩ = some v) :
    (markV w b off k j).cell? ⟨b, off + i, none⟩ = some (.int .i64 ((k + i : Nat) : Int)) := by
  induction j with
  | zero => omega
  | succ j ih =>
    by_cases e : i = j
    · subst e
      obtain ⟨v, hv⟩ := hc i h
      have hv' : (markV w b off k i).cell? ⟨b, off + i, none⟩ = some v := (markV_other w b off k i _ (fun t ht e => by injection e with _ e2; omega)).trans hv
      exact World.cell?_setCell_same _ _ _ hv'
    · exact (World.cell?_setCell_other _ _ _ _ (by intro e2; injection e2 with _ e3; omega)).trans (ih (by omega) (fun i hi => hc i (by omega)))

/-- The nums written over a slice that may be written. -/
theorem mark_iwin {B C : Nat} {w : World} {b off k : Nat} (hb : B ≤ b) (hc : b < C) (j : Nat) : Win B C w (markV w b off k j) :=
  ⟨by induction j with | zero => rfl | succ j ih => exact ih, by induction j with | zero => rfl | succ j ih => exact ih, by induction j with | zero => rfl | succ j ih => exact ih,
   by rw [markV_size]; exact Nat.le_refl _, fun i _ h => markV_far w b off k j i (by omega), fun a _ => markV_frozen w b off k j a⟩
theorem mark_is {w : World} {b off k n : Nat} (hb : b < w.heap.size) (hc : ∀ i, i < n → ∃ v, w.cell? ⟨b, off + i, none⟩ = some v) : Is (markV w b off k n) (some ⟨b, off, none⟩) (nums k n) :=
  .inr ⟨b, off, rfl, by rw [markV_size]; exact hb, fun j hj => by rw [nums_len] at hj; rw [markV_cell w b off k n j hj hc, nums_at k n j hj]⟩

set_option maxHeartbeats 400000 in
theorem markI_any (B C : Nat) (A : Option Addr) (l : List Int) (c k : Nat) (w : World) (hA : Oi B C w A l) (hm : (l.length : Int) ≤ 9223372036854775807) (hk : (k : Int) + l.length ≤ 9223372036854775807) :
    Calls Tryd.prog 121 #[.slice A l.length c, .int .i64 k] w fun e w' => e = .returned (.int .i64 ((k + l.length : Nat) : Int)) ∧ Win B C w w' ∧ Is w' A (nums k l.length) := by
  rcases hA with rfl | ⟨b, off, rfl, h1, h2, h3, hA⟩
  · go_enter Tryd.func121, Tryd.ntmps121
    go_wp2
    go_loopw [1, 5] (fun v i wr => v = .int .i64 k ∧ i = .int .i64 0 ∧ wr = w) (fun _ _ _ => 0)
    case atStart => exact ⟨rfl, rfl, rfl⟩
    case round =>
      obtain ⟨rfl, rfl, rfl⟩ := hrel
      go_wp2
      go_ret
      exact ⟨rfl, Win.refl _ _ _, .inl rfl⟩
  · go_enter Tryd.func121, Tryd.ntmps121
    go_wp2
    go_loopw [1, 5] (fun v i wr => ∃ j : Nat, j ≤ l.length ∧ v = .int .i64 ((k + j : Nat) : Int) ∧ i = .int .i64 j ∧ wr = markV w b off k j) (fun _ i _ => l.length - (intOf i).toNat)
    case atStart => exact ⟨0, Nat.zero_le _, rfl, rfl, rfl⟩
    case round =>
      obtain ⟨j, hj, rfl, rfl, rfl⟩ := hrel
      by_cases hlt : j < l.length
      · have hi : (j : Int) < (l.length : Int) := by omega
        have hv : (((k + j : Nat) : Int)) + 1 ≤ 9223372036854775807 := by omega
        have hc : ∃ v, (markV w b off k j).cell? ⟨b, off + j, none⟩ = some v := ⟨_, (markV_other w b off k j _ (fun t ht e => by injection e with _ e2; omega)).trans (hA j hlt).1⟩
        have hf : (markV w b off k j).frozen? ⟨b, off + j, none⟩ = false := (markV_frozen w b off k j _).trans (hA j hlt).2
        obtain ⟨v, hc⟩ := hc
        clear hA h1 h2 h3
        go_wp2
        go_roundw
        case rel => exact ⟨j + 1, by omega, by go_num, by go_num, rfl⟩
        case measure => simp [intOf]; omega
      · have he : j = l.length := by omega
        subst he
        clear hlt hj
        have hA' : Is (markV w b off k l.length) (some ⟨b, off, none⟩) (nums k l.length) := mark_is (by omega) (fun i hi => ⟨_, (hA i hi).1⟩)
        clear hA
        go_wp2
        go_ret
        exact ⟨rfl, mark_iwin h1 h2 _, hA'⟩
set_option maxHeartbeats 400000 in
theorem heldI_any (A : Option Addr) (n c k : Nat) (w : World) (hA : Is w A (nums k n)) (hk : (k : Int) + n ≤ 9223372036854775807) :
    Calls Tryd.prog 122 #[.slice A n c, .int .i64 k] w fun e w' => e = .returned (.int .i64 ((k + n : Nat) : Int)) ∧ w = w' := by
  rcases hA with h | ⟨b, off, rfl, h1, hA⟩
  · obtain rfl : n = 0 := by have := nums_len k n; rw [h] at this; simpa using this.symm
    clear h
    go_enter Tryd.func122, Tryd.ntmps122
    go_wp2
    go_loop [1, 5] (fun v i => v = .int .i64 k ∧ i = .int .i64 0) (fun _ _ => 0)
    case atStart => exact ⟨rfl, rfl⟩
    case round =>
      obtain ⟨rfl, rfl⟩ := hrel
      go_wp2
      go_ret
      exact ⟨rfl, rfl⟩
  · rw [nums_len] at hA
    go_enter Tryd.func122, Tryd.ntmps122
    go_wp2
    go_loop [1, 5] (fun v i => ∃ j : Nat, j ≤ n ∧ v = .int .i64 ((k + j : Nat) : Int) ∧ i = .int .i64 j) (fun _ i => n - (intOf i).toNat)
    case atStart => exact ⟨0, Nat.zero_le _, rfl, rfl⟩
    case round =>
      obtain ⟨j, hj, rfl, rfl⟩ := hrel
      by_cases hlt : j < n
      · have hi : (j : Int) < (n : Int) := by omega
        have hv : (((k + j : Nat) : Int)) + 1 ≤ 9223372036854775807 := by omega
        have hc := hA j hlt
        rw [nums_at k n j hlt] at hc
        clear hA h1
        go_wp2
        go_round
        case rel => exact ⟨j + 1, by omega, by go_num, by go_num⟩
        case measure => simp [intOf]; omega
      · have he : j = n := by omega
        subst he
        clear hA h1 hlt hj
        go_wp2
        go_ret
        exact ⟨rfl, rfl⟩
set_option maxHeartbeats 400000 in
theorem eqI_same (A B : Option Addr) (l : List Int) (c d : Nat) (w : World) (hA : Is w A l) (hB : Is w B l) (hm : (l.length : Int) ≤ 9223372036854775807) :
    Calls Tryd.prog 120 #[.slice A l.length c, .slice B l.length d] w fun e w' => e = .returned (.bool true) ∧ ∃ k, w.drewN k = w' := by
  rcases hA with rfl | ⟨b, off, rfl, _, hA⟩
  · go_enter Tryd.func120, Tryd.ntmps120
    go_wp2
    go_loopw [5] (fun i wr => i = .int .i64 0 ∧ wr = w) (fun _ _ => 0)
    case atStart => exact ⟨rfl, rfl⟩
    case round =>
      obtain ⟨rfl, rfl⟩ := hrel
      go_wp2
      go_ret
      exact ⟨rfl, 0, rfl⟩
  · rcases hB with rfl | ⟨b', off', rfl, _, hB⟩
    · go_enter Tryd.func120, Tryd.ntmps120
      go_wp2
      go_loopw [5] (fun i wr => i = .int .i64 0 ∧ wr = w) (fun _ _ => 0)
      case atStart => exact ⟨rfl, rfl⟩
      case round =>
        obtain ⟨rfl, rfl⟩ := hrel
        go_wp2
        go_ret
        exact ⟨rfl, 0, rfl⟩
    · go_enter Tryd.func120, Tryd.ntmps120
      go_wp2
      go_loopw [5] (fun i wr => ∃ k n : Nat, k ≤ l.length ∧ i = .int .i64 k ∧ wr = w.drewN n) (fun i _ => l.length - (intOf i).toNat)
      case atStart => exact ⟨0, 0, Nat.zero_le _, rfl, rfl⟩
      case round =>
        obtain ⟨k, n, hk, rfl, rfl⟩ := hrel
        by_cases hlt : k < l.length
        · have cA := hA k hlt
          have cB := hB k hlt
          clear hA hB
          have hi : (k : Int) < (l.length : Int) := by omega
          go_wp2
          go_quiet (fail)
          go_wp2
          go_roundw
          case rel => exact ⟨k + 1, n + nq, by omega, by go_num, rfl⟩
          case measure => simp [intOf]; omega
        · clear hA hB
          go_wp2
          go_ret
          exact ⟨rfl, n, rfl⟩
theorem Oi.far {B C : Nat} {w : World} {A : Option Addr} {l : List Int} (h : Oi B C w A l) : l = [] ∨ ∃ b off, A = some ⟨b, off, none⟩ ∧ B ≤ b ∧ b < C := by
  rcases h with h | ⟨b, off, h1, h2, h3, _⟩
  · exact .inl h
  · exact .inr ⟨b, off, h1, h2, h3⟩
/-- What lies in one window is kept by a write into another. -/
theorem Oi.win {B C B' C' : Nat} {w w' : World} {A : Option Addr} {l : List Int} (h : Oi B C w A l) (hw : Win B' C' w w') (ho : C ≤ B' ∨ C' ≤ B) : Oi B C w' A l := by
  rcases h with h | ⟨b, off, h1, h2, h3, h4, h5⟩
  · exact .inl h
  · exact .inr ⟨b, off, h1, h2, h3, Nat.le_trans h4 hw.size, fun j hj => ⟨(hw.cell (p := ⟨b, off + j, none⟩) (by show b < _; omega) (by show b < _ ∨ _ ≤ b; omega)).trans (h5 j hj).1, (hw.frozen ⟨b, off + j, none⟩ (by show b < _; omega)).trans (h5 j hj).2⟩⟩
end Go.Proofs.YtjjileefdjjijaaDoor
