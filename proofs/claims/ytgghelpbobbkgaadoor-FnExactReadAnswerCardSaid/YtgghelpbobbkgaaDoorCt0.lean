/- The program's byteReader over nothing: its contracts for a nil or an empty slice. -/
import Derived.Test.YtgghelpbobbkgaaDoorCt5P
namespace Go.Proofs.YtgghelpbobbkgaaDoor
open Go.RowKit Go.Deep

/-- A reader with nothing to read. -/
structure R0 (w : World) (r : Nat) (ty : TypeId) (pv : Value) : Prop where
  blk : ∃ A c, Blk w r 163 #[.slice A 0 c]
  e : w.cell? ⟨0, 0, none⟩ = some (.iface ty pv)
  pos : 0 < r
theorem R0.lt {w : World} {r : Nat} {ty : TypeId} {pv : Value} (h : R0 w r ty pv) : r < w.heap.size := by
  obtain ⟨A, c, K⟩ := h.blk
  exact K.lt
theorem R0.below {w w' : World} {r : Nat} {ty : TypeId} {pv : Value} (h : R0 w r ty pv) (hb : Below w.heap.size w w') : R0 w' r ty pv := by
  obtain ⟨A, c, K⟩ := h.blk
  exact ⟨⟨A, c, K.below hb⟩, (hb.cell (p := ⟨0, 0, none⟩) (Nat.lt_trans h.pos K.lt)).trans h.e, h.pos⟩
theorem take_nil (r : Nat) (w : World) (ty : TypeId) (pv : Value) (h : R0 w r ty pv) :
    Calls Tryd.prog 149 #[.pointer (some ⟨r, 0, none⟩), .int .i64 4] w fun e w' => e = PanE (.iface ty pv) ∧ w' = w := by
  obtain ⟨⟨A, c, K⟩, hE, hp⟩ := h
  have c0 := K.cell 0
  have hlt := K.lt
  simp only [List.getElem?_toArray, List.getElem?_cons_zero] at c0
  unfold PanE
  go_enter Tryd.func149, Tryd.ntmps149
  go_wp2
  exact ⟨rfl, rfl, rfl⟩
theorem word_nil (r : Nat) (w : World) (ty : TypeId) (pv : Value) (h : R0 w r ty pv) :
    Calls Tryd.prog 143 #[.pointer (some ⟨r, 0, none⟩)] w fun e w' => e = PanE (.iface ty pv) ∧ Below w.heap.size w w' := by
  have HT := hidH (take_nil r w ty pv h)
  clear h
  unfold PanE at HT ⊢
  go_enter Tryd.func143, Tryd.ntmps143
  go_wp2_with fail
  refine HT.out.mono ?_
  rintro e w1 ⟨rfl, rfl⟩
  clear HT
  go_wp2
  exact ⟨rfl, rfl, Below.refl _ _⟩
set_option maxRecDepth 100000 in
set_option maxHeartbeats 2000000 in
theorem data_nil (r : Nat) (f : Int) (w : World) (ty : TypeId) (pv : Value) (h : R0 w r ty pv) :
    Calls Tryd.prog 135 #[.pointer (some ⟨r, 0, none⟩), .int .i64 f] w fun e w' => e = PanE (.iface ty pv) ∧ Below w.heap.size w w' := by
  have B1 := bal (Below.refl w.heap.size w) (.cells #[.int .i64 0, .int .i64 0, .int .i64 0, .bool false, .bool false, .bool false, .slice none 0 0] 25)
  obtain ⟨w1, hw1⟩ : ∃ w1, w.alloc (.cells #[.int .i64 0, .int .i64 0, .int .i64 0, .bool false, .bool false, .bool false, .slice none 0 0] 25) = w1 := ⟨_, rfl⟩
  rw [hw1] at B1
  have HC := hidH (word_nil r w1 ty pv (h.below B1))
  unfold PanE at HC ⊢
  have HW1 := hidH hw1
  have HB := hidH B1
  have hrl := h.lt
  clear h B1 hw1
  go_enter Tryd.func135, Tryd.ntmps135
  go_wp2_with fail
  rw [HW1.out]
  refine HC.out.mono ?_
  rintro e w2 ⟨rfl, hw⟩
  have W2 := hidH (btr HB.out hw)
  clear HC hw HW1 HB
  go_wp2
  exact ⟨rfl, rfl, W2.out⟩
set_option maxRecDepth 100000 in
set_option maxHeartbeats 2000000 in
theorem sack_nil (r : Nat) (_f : Int) (w : World) (ty : TypeId) (pv : Value) (h : R0 w r ty pv) :
    Calls Tryd.prog 136 #[.pointer (some ⟨r, 0, none⟩)] w fun e w' => e = PanE (.iface ty pv) ∧ Below w.heap.size w w' := by
  have B1 := bal (Below.refl w.heap.size w) (.cells #[.int .i64 0, .slice none 0 0] 34)
  obtain ⟨w1, hw1⟩ : ∃ w1, w.alloc (.cells #[.int .i64 0, .slice none 0 0] 34) = w1 := ⟨_, rfl⟩
  rw [hw1] at B1
  have HC := hidH (word_nil r w1 ty pv (h.below B1))
  unfold PanE at HC ⊢
  have HW1 := hidH hw1
  have HB := hidH B1
  have hrl := h.lt
  clear h B1 hw1
  go_enter Tryd.func136, Tryd.ntmps136
  go_wp2_with fail
  rw [HW1.out]
  refine HC.out.mono ?_
  rintro e w2 ⟨rfl, hw⟩
  have W2 := hidH (btr HB.out hw)
  clear HC hw HW1 HB
  go_wp2
  exact ⟨rfl, rfl, W2.out⟩
set_option maxRecDepth 100000 in
set_option maxHeartbeats 2000000 in
theorem asconf_nil (r : Nat) (_f : Int) (w : World) (ty : TypeId) (pv : Value) (h : R0 w r ty pv) :
    Calls Tryd.prog 138 #[.pointer (some ⟨r, 0, none⟩)] w fun e w' => e = PanE (.iface ty pv) ∧ Below w.heap.size w w' := by
  have B1 := bal (Below.refl w.heap.size w) (.cells #[.int .i64 0, .slice none 0 0] 59)
  obtain ⟨w1, hw1⟩ : ∃ w1, w.alloc (.cells #[.int .i64 0, .slice none 0 0] 59) = w1 := ⟨_, rfl⟩
  rw [hw1] at B1
  have HC := hidH (word_nil r w1 ty pv (h.below B1))
  unfold PanE at HC ⊢
  have HW1 := hidH hw1
  have HB := hidH B1
  have hrl := h.lt
  clear h B1 hw1
  go_enter Tryd.func138, Tryd.ntmps138
  go_wp2_with fail
  rw [HW1.out]
  refine HC.out.mono ?_
  rintro e w2 ⟨rfl, hw⟩
  have W2 := hidH (btr HB.out hw)
  clear HC hw HW1 HB
  go_wp2
  exact ⟨rfl, rfl, W2.out⟩
set_option maxRecDepth 100000 in
set_option maxHeartbeats 2000000 in
theorem answer_nil (r : Nat) (_f : Int) (w : World) (ty : TypeId) (pv : Value) (h : R0 w r ty pv) :
    Calls Tryd.prog 139 #[.pointer (some ⟨r, 0, none⟩)] w fun e w' => e = PanE (.iface ty pv) ∧ Below w.heap.size w w' := by
  have B1 := bal (Below.refl w.heap.size w) (.cells #[.int .i64 0, .slice none 0 0] 63)
  obtain ⟨w1, hw1⟩ : ∃ w1, w.alloc (.cells #[.int .i64 0, .slice none 0 0] 63) = w1 := ⟨_, rfl⟩
  rw [hw1] at B1
  have HC := hidH (word_nil r w1 ty pv (h.below B1))
  unfold PanE at HC ⊢
  have HW1 := hidH hw1
  have HB := hidH B1
  have hrl := h.lt
  clear h B1 hw1
  go_enter Tryd.func139, Tryd.ntmps139
  go_wp2_with fail
  rw [HW1.out]
  refine HC.out.mono ?_
  rintro e w2 ⟨rfl, hw⟩
  have W2 := hidH (btr HB.out hw)
  clear HC hw HW1 HB
  go_wp2
  exact ⟨rfl, rfl, W2.out⟩
set_option maxRecDepth 100000 in
set_option maxHeartbeats 2000000 in
theorem greeting_nil (r : Nat) (f : Int) (w : World) (ty : TypeId) (pv : Value) (h : R0 w r ty pv) :
    Calls Tryd.prog 137 #[.pointer (some ⟨r, 0, none⟩), .int .i64 f] w fun e w' => e = PanE (.iface ty pv) ∧ Below w.heap.size w w' := by
  have B1 := bal (Below.refl w.heap.size w) (.cells #[.int .i64 0, .int .i64 0, .slice none 0 0, .slice none 0 0, .slice none 0 0, .int .i64 0] 102)
  obtain ⟨w1, hw1⟩ : ∃ w1, w.alloc (.cells #[.int .i64 0, .int .i64 0, .slice none 0 0, .slice none 0 0, .slice none 0 0, .int .i64 0] 102) = w1 := ⟨_, rfl⟩
  rw [hw1] at B1
  have HC := hidH (word_nil r w1 ty pv (h.below B1))
  unfold PanE at HC ⊢
  have HW1 := hidH hw1
  have HB := hidH B1
  have hrl := h.lt
  clear h B1 hw1
  go_enter Tryd.func137, Tryd.ntmps137
  go_wp2_with fail
  rw [HW1.out]
  refine HC.out.mono ?_
  rintro e w2 ⟨rfl, hw⟩
  have W2 := hidH (btr HB.out hw)
  clear HC hw HW1 HB
  go_wp2
  exact ⟨rfl, rfl, W2.out⟩
set_option maxRecDepth 100000 in
set_option maxHeartbeats 2000000 in
theorem c0_0 (r : Nat) (f : Int) (w : World) (ty : TypeId) (pv : Value) (h : R0 w r ty pv) :
    Calls Tryd.prog 121 #[.pointer (some ⟨r, 0, none⟩), .int .i64 0, .int .i64 f] w fun e w' => e = PanE (.iface ty pv) ∧ Below w.heap.size w w' := by
  have HC := hidH (data_nil r f w ty pv h)
  clear h
  unfold PanE at HC ⊢
  go_enter Tryd.func121, Tryd.ntmps121
  go_wp2_with fail
  refine HC.out.mono ?_
  rintro e w2 ⟨rfl, hw⟩
  have HR := hidH hw
  clear HC hw
  go_wp2
  exact ⟨rfl, rfl, HR.out⟩
set_option maxRecDepth 100000 in
set_option maxHeartbeats 2000000 in
theorem c0_3 (r : Nat) (f : Int) (w : World) (ty : TypeId) (pv : Value) (h : R0 w r ty pv) :
    Calls Tryd.prog 121 #[.pointer (some ⟨r, 0, none⟩), .int .i64 3, .int .i64 f] w fun e w' => e = PanE (.iface ty pv) ∧ Below w.heap.size w w' := by
  have HC := hidH (sack_nil r f w ty pv h)
  clear h
  unfold PanE at HC ⊢
  go_enter Tryd.func121, Tryd.ntmps121
  go_wp2_with fail
  refine HC.out.mono ?_
  rintro e w2 ⟨rfl, hw⟩
  have HR := hidH hw
  clear HC hw
  go_wp2
  exact ⟨rfl, rfl, HR.out⟩
set_option maxRecDepth 100000 in
set_option maxHeartbeats 2000000 in
theorem c0_1 (r : Nat) (f : Int) (w : World) (ty : TypeId) (pv : Value) (h : R0 w r ty pv) :
    Calls Tryd.prog 121 #[.pointer (some ⟨r, 0, none⟩), .int .i64 1, .int .i64 f] w fun e w' => e = PanE (.iface ty pv) ∧ Below w.heap.size w w' := by
  have HC := hidH (greeting_nil r 1 w ty pv h)
  clear h
  unfold PanE at HC ⊢
  go_enter Tryd.func121, Tryd.ntmps121
  go_wp2_with fail
  refine HC.out.mono ?_
  rintro e w2 ⟨rfl, hw⟩
  have HR := hidH hw
  clear HC hw
  go_wp2
  exact ⟨rfl, rfl, HR.out⟩
set_option maxRecDepth 100000 in
set_option maxHeartbeats 2000000 in
theorem c0_2 (r : Nat) (f : Int) (w : World) (ty : TypeId) (pv : Value) (h : R0 w r ty pv) :
    Calls Tryd.prog 121 #[.pointer (some ⟨r, 0, none⟩), .int .i64 2, .int .i64 f] w fun e w' => e = PanE (.iface ty pv) ∧ Below w.heap.size w w' := by
  have HC := hidH (greeting_nil r 2 w ty pv h)
  clear h
  unfold PanE at HC ⊢
  go_enter Tryd.func121, Tryd.ntmps121
  go_wp2_with fail
  refine HC.out.mono ?_
  rintro e w2 ⟨rfl, hw⟩
  have HR := hidH hw
  clear HC hw
  go_wp2
  exact ⟨rfl, rfl, HR.out⟩
set_option maxRecDepth 100000 in
set_option maxHeartbeats 2000000 in
theorem c0_193 (r : Nat) (f : Int) (w : World) (ty : TypeId) (pv : Value) (h : R0 w r ty pv) :
    Calls Tryd.prog 121 #[.pointer (some ⟨r, 0, none⟩), .int .i64 193, .int .i64 f] w fun e w' => e = PanE (.iface ty pv) ∧ Below w.heap.size w w' := by
  have HC := hidH (asconf_nil r f w ty pv h)
  clear h
  unfold PanE at HC ⊢
  go_enter Tryd.func121, Tryd.ntmps121
  go_wp2_with fail
  refine HC.out.mono ?_
  rintro e w2 ⟨rfl, hw⟩
  have HR := hidH hw
  clear HC hw
  go_wp2
  exact ⟨rfl, rfl, HR.out⟩
set_option maxRecDepth 100000 in
set_option maxHeartbeats 2000000 in
theorem c0_128 (r : Nat) (f : Int) (w : World) (ty : TypeId) (pv : Value) (h : R0 w r ty pv) :
    Calls Tryd.prog 121 #[.pointer (some ⟨r, 0, none⟩), .int .i64 128, .int .i64 f] w fun e w' => e = PanE (.iface ty pv) ∧ Below w.heap.size w w' := by
  have HC := hidH (answer_nil r f w ty pv h)
  clear h
  unfold PanE at HC ⊢
  go_enter Tryd.func121, Tryd.ntmps121
  go_wp2_with fail
  refine HC.out.mono ?_
  rintro e w2 ⟨rfl, hw⟩
  have HR := hidH hw
  clear HC hw
  go_wp2
  exact ⟨rfl, rfl, HR.out⟩
/-- A chunk with no body: the reader panics, whatever the kind. -/
theorem ct_empty (r : Nat) (k f : Int) (w : World) (ty : TypeId) (pv : Value) (h : R0 w r ty pv) :
    Calls Tryd.prog 121 #[.pointer (some ⟨r, 0, none⟩), .int .i64 k, .int .i64 f] w (CtBad r ty pv w) := by
  by_cases h0 : k = 0
  · subst h0; exact (c0_0 r f w ty pv h).mono fun e w' q => ⟨q.1, Win.of_below q.2⟩
  by_cases h3 : k = 3
  · subst h3; exact (c0_3 r f w ty pv h).mono fun e w' q => ⟨q.1, Win.of_below q.2⟩
  by_cases h1 : k = 1
  · subst h1; exact (c0_1 r f w ty pv h).mono fun e w' q => ⟨q.1, Win.of_below q.2⟩
  by_cases h2 : k = 2
  · subst h2; exact (c0_2 r f w ty pv h).mono fun e w' q => ⟨q.1, Win.of_below q.2⟩
  by_cases h193 : k = 193
  · subst h193; exact (c0_193 r f w ty pv h).mono fun e w' q => ⟨q.1, Win.of_below q.2⟩
  by_cases h128 : k = 128
  · subst h128; exact (c0_128 r f w ty pv h).mono fun e w' q => ⟨q.1, Win.of_below q.2⟩
  exact ct_none r k f w ty pv h.e h0 h3 h1 h2 h193 h128
end Go.Proofs.YtgghelpbobbkgaaDoor
