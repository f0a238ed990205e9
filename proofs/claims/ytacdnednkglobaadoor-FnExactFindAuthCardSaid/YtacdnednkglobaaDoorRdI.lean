/- The program's byteReader: take, number, pair, word. -/
import Derived.Test.YtacdnednkglobaaDoorImB
import Derived.Test.YtacdnednkglobaaDoorSlB
import Derived.WalkLawsBesides
namespace Go.Proofs.YtacdnednkglobaaDoor
open Go.RowKit Go.Deep

/-- A reader in block r: what is left to read is l. -/
def RdB (w : World) (r : Nat) (l : List Int) : Prop :=
  ∃ A c, Blk w r 153 #[.slice A l.length c] ∧ Bs w A l ∧ l.length ≤ c ∧ (c : Int) ≤ 9223372036854775807 ∧ ∀ a, A = some a → a.block < r
theorem RdB.below {w w' : World} {r : Nat} {l : List Int} (h : RdB w r l) (hb : Below w.heap.size w w') : RdB w' r l := by
  obtain ⟨A, c, h1, h2, h3⟩ := h
  exact ⟨A, c, h1.below hb, bs_below h2 hb, h3⟩
theorem RdB.lt {w : World} {r : Nat} {l : List Int} (h : RdB w r l) : r < w.heap.size := by
  obtain ⟨A, c, h1, _⟩ := h
  exact h1.lt
theorem win_all {B C B' C' : Nat} {w w' : World} (h : Win B C w w') (hB : B' ≤ B) (hC : C ≤ C') : Win B' C' w w' :=
  ⟨h.os, h.tape, h.output, h.size, fun k hk ho => h.block k hk (by omega), h.frozen⟩
/-- The text's own panic. -/
def PanE (E : Value) : Ending := .panicked [{ v := E, recovered := false }]
set_option maxHeartbeats 1000000 in
theorem take_ok (r n : Nat) (l : List Int) (w : World) (h : RdB w r l) (hn : n ≤ l.length) :
    Calls Tryd.prog 114 #[.pointer (some ⟨r, 0, none⟩), .int .i64 (n : Int)] w fun e w' => ∃ A c, e = .returned (.slice A n c) ∧ Bs w' A (l.take n) ∧ n ≤ c ∧ (∀ a, A = some a → a.block < r) ∧ RdB w' r (l.drop n) ∧ Win r (r + 1) w w' ∧ w'.heap.size = w.heap.size := by
  obtain ⟨A, c, K, hA, hc, hcm, hf⟩ := h
  have c0 := K.cell 0
  have f0 := K.frozen 0
  have hlt := K.lt
  simp only [List.getElem?_toArray, List.getElem?_cons_zero] at c0
  have s1 := fun u => cut_h A l.length c n (n : Int) rfl (by omega) u
  have s2 := fun u => cut_l A l.length c n (n : Int) rfl hn u
  have HK := hidH K
  have HA := hidH (And.intro hA (And.intro hc (And.intro hcm hf)))
  have hnI : (n : Int) ≤ (l.length : Int) := by omega
  have hn0 : ¬ ((n : Int) < 0) := by omega
  have hlm : (l.length : Int) ≤ 9223372036854775807 := by omega
  have HN := hidH hn
  clear K hA hc hcm hf hn
  go_enter Tryd.func114, Tryd.ntmps114
  go_wp2
  go_ret
  have W := win_set w r 0 (.slice (cutA A n c) (l.length - n) (c - n))
  have hf := HA.out.2.2.2
  have hAw : Bs (w.setCell ⟨r, 0, none⟩ (.slice (cutA A n c) (l.length - n) (c - n))) A l := bs_win HA.out.1 W (fun b off e => .inl (hf _ e))
  refine ⟨A, c, rfl, cutA_take hAw HN.out, by have := HN.out; have := HA.out.2.1; omega, hf, ⟨cutA A n c, c - n, ?_, cutA_drop hAw HN.out HA.out.2.1, ?_, ?_, ?_⟩, W, by simp [World.setCell]⟩
  · have h1 := heap_setCell_same w r 0 _ _ (.slice (cutA A n c) (l.length - n) (c - n)) HK.out
    unfold Blk
    rw [h1, List.length_drop]
    rfl
  · rw [List.length_drop]; have := HA.out.2.1; omega
  · have := HA.out.2.2.1; omega
  · intro a ha
    unfold cutA at ha
    split at ha
    · exact hf a ha
    · obtain ⟨a', e, rfl⟩ := Option.map_eq_some_iff.1 ha
      have := hf a' e
      unfold Addr.add
      split <;> simpa using this
set_option maxHeartbeats 1000000 in
theorem take_bad (r : Nat) (n : Int) (l : List Int) (w : World) (ty : TypeId) (pv : Value) (h : RdB w r l) (hn : n < 0 ∨ (l.length : Int) < n) (hE : w.cell? ⟨0, 0, none⟩ = some (.iface ty pv)) :
    Calls Tryd.prog 114 #[.pointer (some ⟨r, 0, none⟩), .int .i64 n] w fun e w' => e = PanE (.iface ty pv) ∧ w' = w := by
  obtain ⟨A, c, K, hA, hc, hcm, hf⟩ := h
  have c0 := K.cell 0
  have hlt := K.lt
  simp only [List.getElem?_toArray, List.getElem?_cons_zero] at c0
  clear hA hc hcm hf
  unfold PanE
  rcases hn with hn | hn
  · go_enter Tryd.func114, Tryd.ntmps114
    go_wp2
    exact ⟨rfl, rfl, rfl⟩
  · have h0 : ¬ (n < 0) := by omega
    go_enter Tryd.func114, Tryd.ntmps114
    go_wp2
    exact ⟨rfl, rfl, rfl⟩
/-- The reader, the text's own error, and that what is left are bytes. -/
structure RE (w : World) (r : Nat) (ty : TypeId) (pv : Value) (l : List Int) : Prop where
  rd : RdB w r l
  e : w.cell? ⟨0, 0, none⟩ = some (.iface ty pv)
  pos : 0 < r
  by_ : Bytes l
theorem RE.below {w w' : World} {r : Nat} {ty : TypeId} {pv : Value} {l : List Int} (h : RE w r ty pv l) (hb : Below w.heap.size w w') : RE w' r ty pv l :=
  ⟨h.rd.below hb, (hb.cell (p := ⟨0, 0, none⟩) (Nat.lt_trans h.pos h.rd.lt)).trans h.e, h.pos, h.by_⟩
theorem RE.turn {w w' : World} {r : Nat} {ty : TypeId} {pv : Value} {l l' : List Int} (h : RE w r ty pv l) (hw : Win r (r + 1) w w') (hr : RdB w' r l') (hl : ∀ x ∈ l', x ∈ l) : RE w' r ty pv l' :=
  ⟨hr, (hw.cell (p := ⟨0, 0, none⟩) (Nat.lt_trans h.pos h.rd.lt) (.inl h.pos)).trans h.e, h.pos, fun x hx => h.by_ x (hl x hx)⟩
set_option maxHeartbeats 1000000 in
theorem number_ok (r : Nat) (x : Int) (l : List Int) (w : World) (ty : TypeId) (pv : Value) (h : RE w r ty pv (x :: l)) :
    Calls Tryd.prog 108 #[.pointer (some ⟨r, 0, none⟩)] w fun e w' => e = .returned (.int .i64 x) ∧ RE w' r ty pv l ∧ Win r (r + 1) w w' ∧ w'.heap.size = w.heap.size := by
  have HT := hidH (take_ok r 1 (x :: l) w h.rd (by simp))
  obtain ⟨x0, x1⟩ := h.by_ x (List.mem_cons_self)
  have HH := hidH h
  clear h
  go_enter Tryd.func108, Tryd.ntmps108
  go_wp2_with fail
  refine HT.out.mono ?_
  rintro e w1 ⟨A, c, rfl, hA, hc, hf, hr, hw, hs⟩
  rcases hA with hA | ⟨b, off, rfl, hb, hA⟩
  · simp at hA
  have a0 := hA 0 (by simp)
  simp only [List.take_succ_cons, List.take_zero, List.getD_cons_zero, Nat.add_zero] at a0
  have HR := hidH (HH.out.turn hw hr (fun y hy => by simp at hy; exact List.mem_cons_of_mem _ hy))
  have HW := hidH (And.intro hw hs)
  clear HT HH hA hc hf hr hw hs
  go_wp2
  go_ret
  exact ⟨rfl, by simpa using HR.out, HW.out⟩
set_option maxHeartbeats 1000000 in
theorem number_bad (r : Nat) (w : World) (ty : TypeId) (pv : Value) (h : RE w r ty pv []) :
    Calls Tryd.prog 108 #[.pointer (some ⟨r, 0, none⟩)] w fun e w' => e = PanE (.iface ty pv) ∧ w' = w := by
  have HT := hidH (take_bad r 1 [] w ty pv h.rd (.inr (by simp)) h.e)
  clear h
  unfold PanE at HT ⊢
  go_enter Tryd.func108, Tryd.ntmps108
  go_wp2_with fail
  refine HT.out.mono ?_
  rintro e w1 ⟨rfl, rfl⟩
  clear HT
  go_wp2
  exact ⟨rfl, rfl, rfl⟩
set_option maxHeartbeats 1000000 in
theorem pair_ok (r : Nat) (x y : Int) (l : List Int) (w : World) (ty : TypeId) (pv : Value) (h : RE w r ty pv (x :: y :: l)) :
    Calls Tryd.prog 100 #[.pointer (some ⟨r, 0, none⟩)] w fun e w' => e = .returned (.int .i64 (x * 256 + y)) ∧ RE w' r ty pv l ∧ Win r (r + 1) w w' ∧ w'.heap.size = w.heap.size := by
  have HT := hidH (number_ok r x (y :: l) w ty pv h)
  obtain ⟨x0, x1⟩ := h.by_ x (List.mem_cons_self)
  obtain ⟨y0, y1⟩ := h.by_ y (List.mem_cons_of_mem _ List.mem_cons_self)
  clear h
  go_enter Tryd.func100, Tryd.ntmps100
  go_wp2_with fail
  refine HT.out.mono ?_
  rintro e w1 ⟨rfl, hr, hw, hs⟩
  have HT2 := hidH (number_ok r y l w1 ty pv hr)
  have HW := hidH (And.intro hw hs)
  clear HT hr hw hs
  go_wp2_with fail
  refine HT2.out.mono ?_
  rintro e w2 ⟨rfl, hr, hw, hs⟩
  have HR := hidH (And.intro hr (And.intro (HW.out.1.trans hw) (hs.trans HW.out.2)))
  clear HT2 HW hr hw hs
  go_wp2
  go_ret
  exact ⟨rfl, HR.out⟩
set_option maxHeartbeats 1000000 in
theorem pair_bad (r : Nat) (l : List Int) (w : World) (ty : TypeId) (pv : Value) (h : RE w r ty pv l) (hl : l.length < 2) :
    Calls Tryd.prog 100 #[.pointer (some ⟨r, 0, none⟩)] w fun e w' => e = PanE (.iface ty pv) ∧ Win r (r + 1) w w' := by
  unfold PanE
  rcases l with _ | ⟨x, _ | ⟨y, l⟩⟩
  · have HT := hidH (number_bad r w ty pv h)
    clear h
    unfold PanE at HT
    go_enter Tryd.func100, Tryd.ntmps100
    go_wp2_with fail
    refine HT.out.mono ?_
    rintro e w1 ⟨rfl, rfl⟩
    clear HT
    go_wp2
    exact ⟨rfl, rfl, Win.refl _ _ _⟩
  · have HT := hidH (number_ok r x [] w ty pv h)
    obtain ⟨x0, x1⟩ := h.by_ x (List.mem_cons_self)
    clear h
    go_enter Tryd.func100, Tryd.ntmps100
    go_wp2_with fail
    refine HT.out.mono ?_
    rintro e w1 ⟨rfl, hr, hw, hs⟩
    have HT2 := hidH (number_bad r w1 ty pv hr)
    have HW := hidH hw
    clear HT hr hw hs
    unfold PanE at HT2
    go_wp2_with fail
    refine HT2.out.mono ?_
    rintro e w2 ⟨rfl, rfl⟩
    clear HT2
    go_wp2
    exact ⟨rfl, rfl, HW.out⟩
  · simp at hl; omega
set_option maxHeartbeats 1000000 in
theorem word_ok (r : Nat) (l : List Int) (w : World) (ty : TypeId) (pv : Value) (h : RE w r ty pv l) (h4 : 4 ≤ l.length) :
    Calls Tryd.prog 106 #[.pointer (some ⟨r, 0, none⟩)] w fun e w' => e = .returned (.int .i64 (atW l 0)) ∧ RE w' r ty pv (l.drop 4) ∧ Win r (r + 1) w w' := by
  have HT := hidH (take_ok r 4 l w h.rd h4)
  have HH := hidH h
  have p := h.by_.get 0
  have q := h.by_.get 1
  have s := h.by_.get 2
  have t := h.by_.get 3
  have e0 : atW l 0 = l.getD 0 0 * 16777216 + l.getD 1 0 * 65536 + l.getD 2 0 * 256 + l.getD 3 0 := rfl
  have HE := hidH e0
  have HPQ := hidH (And.intro p (And.intro q (And.intro s t)))
  have H4 := hidH h4
  clear h h4 e0 p q s t
  go_enter Tryd.func106, Tryd.ntmps106
  go_wp2_with fail
  refine HT.out.mono ?_
  rintro e w1 ⟨A, c, rfl, hA, hc, hf, hr, hw, hs⟩
  rcases hA with hA | ⟨b, off, rfl, hb, hA⟩
  · have h9 : (l.take 4).length = 0 := by rw [hA]; rfl
    rw [List.length_take] at h9; have := H4.out; omega
  have g : ∀ j, j < 4 → w1.cell? ⟨b, off + j, none⟩ = some (.int .u8 (l.getD j 0)) := fun j hj => by
    rw [hA j (by rw [List.length_take]; have := H4.out; omega)]
    simp [List.getD_eq_getElem?_getD, List.getElem?_take_of_lt hj]
  have a0 := g 0 (by omega)
  rw [Nat.add_zero] at a0
  have a1 := g 1 (by omega)
  have a2 := g 2 (by omega)
  have a3 := g 3 (by omega)
  have HR := hidH (HH.out.turn hw hr (fun y hy => List.mem_of_mem_drop hy))
  have HW := hidH hw
  have hat : ∀ u, (Instr.arrayAt 203 (.slice (some ⟨b, off, none⟩) 4 c)).run Tryd.prog u = .ok (.pointer (some ⟨b, off, none⟩)) u := fun u => run_arrayAt u 203 5 4 _ _ _ Tryd.underlying203 (by omega)
  obtain ⟨x0, hx0⟩ : ∃ x, l.getD 0 0 = x := ⟨_, rfl⟩
  obtain ⟨x1, hx1⟩ : ∃ x, l.getD 1 0 = x := ⟨_, rfl⟩
  obtain ⟨x2, hx2⟩ : ∃ x, l.getD 2 0 = x := ⟨_, rfl⟩
  obtain ⟨x3, hx3⟩ : ∃ x, l.getD 3 0 = x := ⟨_, rfl⟩
  rw [hx0] at a0
  rw [hx1] at a1
  rw [hx2] at a2
  rw [hx3] at a3
  rw [hx0, hx1, hx2, hx3] at HPQ HE
  have HDC := hidH (fun u => decode_any x0 x1 x2 x3 u HPQ.out.1.1 HPQ.out.1.2 HPQ.out.2.1.1 HPQ.out.2.1.2 HPQ.out.2.2.1.1 HPQ.out.2.2.1.2 HPQ.out.2.2.2.1 HPQ.out.2.2.2.2)
  have hz1 : 0 ≤ x0 * 16777216 + x1 * 65536 + x2 * 256 + x3 := by have := HPQ.out; omega
  have hz2 : x0 * 16777216 + x1 * 65536 + x2 * 256 + x3 ≤ 4294967295 := by have := HPQ.out; omega
  clear HT HH hA hc hf hr hw hs g hx0 hx1 hx2 hx3
  go_wp2_with fail
  refine (HDC.out _).mono ?_
  rintro e w2 ⟨rfl, hb2⟩
  have HR2 := hidH (HR.out.below hb2)
  have HW2 := hidH (HW.out.trans (Win.of_below hb2))
  obtain ⟨z, hz⟩ : ∃ z, x0 * 16777216 + x1 * 65536 + x2 * 256 + x3 = z := ⟨_, rfl⟩
  rw [hz] at HE hz1 hz2 ⊢
  clear HDC hb2 HR HW a0 a1 a2 a3 hat hz
  go_wp2
  go_ret
  exact ⟨by rw [HE.out]; rfl, HR2.out, HW2.out⟩
end Go.Proofs.YtacdnednkglobaaDoor
