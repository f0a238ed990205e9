import Derived.Test.YtjjileefdjjijaaDoorMa8
import Derived.Test.YtjjileefdjjijaaDoorMa0
import Derived.Deep.WholeRow
import Derived.Great.BuildSlice

/- The program's byteReader: greeting. -/
namespace Go.Proofs.YtjjileefdjjijaaDoor
open Go.RowKit Go.Deep

set_option maxRecDepth 100000 in
set_option maxHeartbeats 8000000 in
theorem greet_bad0 (r : Nat) (k : Int) (l0 l1 l2 l3 l4 l5 : List Int) (w : World) (ty : TypeId) (pv : Value) (h : RE w r ty pv l0) (e1 : l0.drop 4 = l1) (e2 : l1.drop 4 = l2) (e3 : l2.drop 16 = l3) (e4 : l3.drop (1 + cntN l3 0) = l4) (e5 : l4.drop 1 = l5) (hm : l0.length ≤ 4000000)  (g0 : ¬ (4 ≤ l0.length)) :
    Calls Tryd.prog 129 #[.pointer (some ⟨r, 0, none⟩), .int .i64 k] w  fun e w' => e = PanE (.iface ty pv) ∧ Win r (r + 1) w w' := by
  have hun : PanE (.iface ty pv) = .panicked [{ v := .iface ty pv, recovered := false }] := rfl
  rw [hun]
  have HUN := hidH hun
  clear hun
  have K1 := Blk.new w 100 #[.int .i64 0, .int .i64 0, .slice none 0 0, .slice none 0 0, .slice none 0 0, .int .i64 0]
  have B1 := bal (Below.refl w.heap.size w) (.cells #[.int .i64 0, .int .i64 0, .slice none 0 0, .slice none 0 0, .slice none 0 0, .int .i64 0] 100)
  obtain ⟨w0, hw0⟩ : ∃ w0, w.alloc (.cells #[.int .i64 0, .int .i64 0, .slice none 0 0, .slice none 0 0, .slice none 0 0, .int .i64 0] 100) = w0 := ⟨_, rfl⟩
  have hs0 : w0.heap.size = w.heap.size + 1 := by rw [← hw0]; simp
  rw [hw0] at K1 B1
  have HS := hidH (And.intro hs0 h.rd.lt)
  have HT := hidH (And.intro K1 (And.intro (Win.of_below (B := r) (C := r + 1) B1) (h.below B1)))
  have HW0 := hidH hw0
  have HZ0 := hidH (Nat.le_of_eq hs0.symm)
  have m0 := hidH (show l0.length ≤ 4000000 by exact hm)
  have m1 := hidH (show l1.length ≤ 4000000 by rw [← e1]; have := m0.out; simp; omega)
  have m2 := hidH (show l2.length ≤ 4000000 by rw [← e2]; have := m1.out; simp; omega)
  have m3 := hidH (show l3.length ≤ 4000000 by rw [← e3]; have := m2.out; simp; omega)
  have m4 := hidH (show l4.length ≤ 4000000 by rw [← e4]; have := m3.out; simp; omega)
  have m5 := hidH (show l5.length ≤ 4000000 by rw [← e5]; have := m4.out; simp; omega)
  clear h K1 B1 hs0 hw0 hm
  replace g0 := hidH g0
  replace e1 := hidH e1
  replace e2 := hidH e2
  replace e3 := hidH e3
  replace e4 := hidH e4
  replace e5 := hidH e5
  have HC := hidH (word_bad r l0 w0 ty pv HT.out.2.2 (by have := g0.out; omega))
  rw [HUN.out] at HC
  go_enter Tryd.func129, Tryd.ntmps129
  go_wp2_with fail
  rw [HW0.out]
  refine HC.out.mono ?_
  rintro e w9 ⟨rfl, hw⟩
  have HE := hidH (HT.out.2.1.trans hw)
  clear HC HT hw
  go_wp2
  exact ⟨rfl, rfl, HE.out⟩
set_option maxRecDepth 100000 in
set_option maxHeartbeats 8000000 in
theorem greet_bad1 (r : Nat) (k : Int) (l0 l1 l2 l3 l4 l5 : List Int) (w : World) (ty : TypeId) (pv : Value) (h : RE w r ty pv l0) (e1 : l0.drop 4 = l1) (e2 : l1.drop 4 = l2) (e3 : l2.drop 16 = l3) (e4 : l3.drop (1 + cntN l3 0) = l4) (e5 : l4.drop 1 = l5) (hm : l0.length ≤ 4000000) (g0 : 4 ≤ l0.length) (g1 : ¬ (4 ≤ l1.length)) :
    Calls Tryd.prog 129 #[.pointer (some ⟨r, 0, none⟩), .int .i64 k] w  fun e w' => e = PanE (.iface ty pv) ∧ Win r (r + 1) w w' := by
  have hun : PanE (.iface ty pv) = .panicked [{ v := .iface ty pv, recovered := false }] := rfl
  rw [hun]
  have HUN := hidH hun
  clear hun
  have K1 := Blk.new w 100 #[.int .i64 0, .int .i64 0, .slice none 0 0, .slice none 0 0, .slice none 0 0, .int .i64 0]
  have B1 := bal (Below.refl w.heap.size w) (.cells #[.int .i64 0, .int .i64 0, .slice none 0 0, .slice none 0 0, .slice none 0 0, .int .i64 0] 100)
  obtain ⟨w0, hw0⟩ : ∃ w0, w.alloc (.cells #[.int .i64 0, .int .i64 0, .slice none 0 0, .slice none 0 0, .slice none 0 0, .int .i64 0] 100) = w0 := ⟨_, rfl⟩
  have hs0 : w0.heap.size = w.heap.size + 1 := by rw [← hw0]; simp
  rw [hw0] at K1 B1
  have HS := hidH (And.intro hs0 h.rd.lt)
  have HT := hidH (And.intro K1 (And.intro (Win.of_below (B := r) (C := r + 1) B1) (h.below B1)))
  have HW0 := hidH hw0
  have HZ0 := hidH (Nat.le_of_eq hs0.symm)
  have m0 := hidH (show l0.length ≤ 4000000 by exact hm)
  have m1 := hidH (show l1.length ≤ 4000000 by rw [← e1]; have := m0.out; simp; omega)
  have m2 := hidH (show l2.length ≤ 4000000 by rw [← e2]; have := m1.out; simp; omega)
  have m3 := hidH (show l3.length ≤ 4000000 by rw [← e3]; have := m2.out; simp; omega)
  have m4 := hidH (show l4.length ≤ 4000000 by rw [← e4]; have := m3.out; simp; omega)
  have m5 := hidH (show l5.length ≤ 4000000 by rw [← e5]; have := m4.out; simp; omega)
  clear h K1 B1 hs0 hw0 hm
  replace g0 := hidH g0
  replace g1 := hidH g1
  replace e1 := hidH e1
  replace e2 := hidH e2
  replace e3 := hidH e3
  replace e4 := hidH e4
  replace e5 := hidH e5
  have HC := hidH (word_ok r l0 w0 ty pv HT.out.2.2 g0.out)
  go_enter Tryd.func129, Tryd.ntmps129
  go_wp2_with fail
  rw [HW0.out]
  refine HC.out.mono ?_
  rintro e w1 ⟨rfl, h2, hw⟩
  have HZ1 := hidH (Nat.le_trans HZ0.out hw.size)
  rw [e1.out] at h2
  replace HT := hidH (And.intro (hw.blk HT.out.1 (.inr (by have := HS.out; omega))) (And.intro (HT.out.2.1.trans hw) h2))
  obtain ⟨x0, hx0⟩ : ∃ x, atW l0 0 = x := ⟨_, rfl⟩
  have HX0 := hidH hx0
  rw [hx0]
  clear hx0
  clear HC h2 hw
  have HC := hidH (word_bad r l1 w1 ty pv HT.out.2.2 (by have := g1.out; omega))
  rw [HUN.out] at HC
  go_wp2_with fail
  refine HC.out.mono ?_
  rintro e w9 ⟨rfl, hw⟩
  have HE := hidH (HT.out.2.1.trans hw)
  clear HC HT hw
  go_wp2
  exact ⟨rfl, rfl, HE.out⟩
set_option maxRecDepth 100000 in
set_option maxHeartbeats 8000000 in
theorem greet_bad2 (r : Nat) (k : Int) (l0 l1 l2 l3 l4 l5 : List Int) (w : World) (ty : TypeId) (pv : Value) (h : RE w r ty pv l0) (e1 : l0.drop 4 = l1) (e2 : l1.drop 4 = l2) (e3 : l2.drop 16 = l3) (e4 : l3.drop (1 + cntN l3 0) = l4) (e5 : l4.drop 1 = l5) (hm : l0.length ≤ 4000000) (g0 : 4 ≤ l0.length) (g1 : 4 ≤ l1.length) (g2 : ¬ (16 ≤ l2.length)) :
    Calls Tryd.prog 129 #[.pointer (some ⟨r, 0, none⟩), .int .i64 k] w  fun e w' => e = PanE (.iface ty pv) ∧ Win r (r + 1) w w' := by
  have hun : PanE (.iface ty pv) = .panicked [{ v := .iface ty pv, recovered := false }] := rfl
  rw [hun]
  have HUN := hidH hun
  clear hun
  have K1 := Blk.new w 100 #[.int .i64 0, .int .i64 0, .slice none 0 0, .slice none 0 0, .slice none 0 0, .int .i64 0]
  have B1 := bal (Below.refl w.heap.size w) (.cells #[.int .i64 0, .int .i64 0, .slice none 0 0, .slice none 0 0, .slice none 0 0, .int .i64 0] 100)
  obtain ⟨w0, hw0⟩ : ∃ w0, w.alloc (.cells #[.int .i64 0, .int .i64 0, .slice none 0 0, .slice none 0 0, .slice none 0 0, .int .i64 0] 100) = w0 := ⟨_, rfl⟩
  have hs0 : w0.heap.size = w.heap.size + 1 := by rw [← hw0]; simp
  rw [hw0] at K1 B1
  have HS := hidH (And.intro hs0 h.rd.lt)
  have HT := hidH (And.intro K1 (And.intro (Win.of_below (B := r) (C := r + 1) B1) (h.below B1)))
  have HW0 := hidH hw0
  have HZ0 := hidH (Nat.le_of_eq hs0.symm)
  have m0 := hidH (show l0.length ≤ 4000000 by exact hm)
  have m1 := hidH (show l1.length ≤ 4000000 by rw [← e1]; have := m0.out; simp; omega)
  have m2 := hidH (show l2.length ≤ 4000000 by rw [← e2]; have := m1.out; simp; omega)
  have m3 := hidH (show l3.length ≤ 4000000 by rw [← e3]; have := m2.out; simp; omega)
  have m4 := hidH (show l4.length ≤ 4000000 by rw [← e4]; have := m3.out; simp; omega)
  have m5 := hidH (show l5.length ≤ 4000000 by rw [← e5]; have := m4.out; simp; omega)
  clear h K1 B1 hs0 hw0 hm
  replace g0 := hidH g0
  replace g1 := hidH g1
  replace g2 := hidH g2
  replace e1 := hidH e1
  replace e2 := hidH e2
  replace e3 := hidH e3
  replace e4 := hidH e4
  replace e5 := hidH e5
  have HC := hidH (word_ok r l0 w0 ty pv HT.out.2.2 g0.out)
  go_enter Tryd.func129, Tryd.ntmps129
  go_wp2_with fail
  rw [HW0.out]
  refine HC.out.mono ?_
  rintro e w1 ⟨rfl, h2, hw⟩
  have HZ1 := hidH (Nat.le_trans HZ0.out hw.size)
  rw [e1.out] at h2
  replace HT := hidH (And.intro (hw.blk HT.out.1 (.inr (by have := HS.out; omega))) (And.intro (HT.out.2.1.trans hw) h2))
  obtain ⟨x0, hx0⟩ : ∃ x, atW l0 0 = x := ⟨_, rfl⟩
  have HX0 := hidH hx0
  rw [hx0]
  clear hx0
  clear HC h2 hw
  have HC := hidH (word_ok r l1 w1 ty pv HT.out.2.2 g1.out)
  go_wp2_with fail
  refine HC.out.mono ?_
  rintro e w2 ⟨rfl, h2, hw⟩
  have HZ2 := hidH (Nat.le_trans HZ1.out hw.size)
  rw [e2.out] at h2
  replace HT := hidH (And.intro (hw.blk HT.out.1 (.inr (by have := HS.out; omega))) (And.intro (HT.out.2.1.trans hw) h2))
  obtain ⟨x1, hx1⟩ : ∃ x, atW l1 0 = x := ⟨_, rfl⟩
  have HX1 := hidH hx1
  rw [hx1]
  clear hx1
  clear HC h2 hw
  have HC := hidH (copied_bad r 16 l2 w2 ty pv HT.out.2.2 (.inr (by have := g2.out; omega)))
  rw [HUN.out] at HC
  go_wp2_with fail
  refine HC.out.mono ?_
  rintro e w9 ⟨rfl, hw⟩
  have HE := hidH (HT.out.2.1.trans hw)
  clear HC HT hw
  go_wp2
  exact ⟨rfl, rfl, HE.out⟩
set_option maxRecDepth 100000 in
set_option maxHeartbeats 8000000 in
theorem greet_bad3 (r : Nat) (k : Int) (l0 l1 l2 l3 l4 l5 : List Int) (w : World) (ty : TypeId) (pv : Value) (h : RE w r ty pv l0) (e1 : l0.drop 4 = l1) (e2 : l1.drop 4 = l2) (e3 : l2.drop 16 = l3) (e4 : l3.drop (1 + cntN l3 0) = l4) (e5 : l4.drop 1 = l5) (hm : l0.length ≤ 4000000) (g0 : 4 ≤ l0.length) (g1 : 4 ≤ l1.length) (g2 : 16 ≤ l2.length) (g3 : ¬ cntOk l3 0) :
    Calls Tryd.prog 129 #[.pointer (some ⟨r, 0, none⟩), .int .i64 k] w  fun e w' => e = PanE (.iface ty pv) ∧ Win r (r + 1) w w' := by
  have hun : PanE (.iface ty pv) = .panicked [{ v := .iface ty pv, recovered := false }] := rfl
  rw [hun]
  have HUN := hidH hun
  clear hun
  have K1 := Blk.new w 100 #[.int .i64 0, .int .i64 0, .slice none 0 0, .slice none 0 0, .slice none 0 0, .int .i64 0]
  have B1 := bal (Below.refl w.heap.size w) (.cells #[.int .i64 0, .int .i64 0, .slice none 0 0, .slice none 0 0, .slice none 0 0, .int .i64 0] 100)
  obtain ⟨w0, hw0⟩ : ∃ w0, w.alloc (.cells #[.int .i64 0, .int .i64 0, .slice none 0 0, .slice none 0 0, .slice none 0 0, .int .i64 0] 100) = w0 := ⟨_, rfl⟩
  have hs0 : w0.heap.size = w.heap.size + 1 := by rw [← hw0]; simp
  rw [hw0] at K1 B1
  have HS := hidH (And.intro hs0 h.rd.lt)
  have HT := hidH (And.intro K1 (And.intro (Win.of_below (B := r) (C := r + 1) B1) (h.below B1)))
  have HW0 := hidH hw0
  have HZ0 := hidH (Nat.le_of_eq hs0.symm)
  have m0 := hidH (show l0.length ≤ 4000000 by exact hm)
  have m1 := hidH (show l1.length ≤ 4000000 by rw [← e1]; have := m0.out; simp; omega)
  have m2 := hidH (show l2.length ≤ 4000000 by rw [← e2]; have := m1.out; simp; omega)
  have m3 := hidH (show l3.length ≤ 4000000 by rw [← e3]; have := m2.out; simp; omega)
  have m4 := hidH (show l4.length ≤ 4000000 by rw [← e4]; have := m3.out; simp; omega)
  have m5 := hidH (show l5.length ≤ 4000000 by rw [← e5]; have := m4.out; simp; omega)
  clear h K1 B1 hs0 hw0 hm
  replace g0 := hidH g0
  replace g1 := hidH g1
  replace g2 := hidH g2
  replace g3 := hidH g3
  replace e1 := hidH e1
  replace e2 := hidH e2
  replace e3 := hidH e3
  replace e4 := hidH e4
  replace e5 := hidH e5
  have HC := hidH (word_ok r l0 w0 ty pv HT.out.2.2 g0.out)
  go_enter Tryd.func129, Tryd.ntmps129
  go_wp2_with fail
  rw [HW0.out]
  refine HC.out.mono ?_
  rintro e w1 ⟨rfl, h2, hw⟩
  have HZ1 := hidH (Nat.le_trans HZ0.out hw.size)
  rw [e1.out] at h2
  replace HT := hidH (And.intro (hw.blk HT.out.1 (.inr (by have := HS.out; omega))) (And.intro (HT.out.2.1.trans hw) h2))
  obtain ⟨x0, hx0⟩ : ∃ x, atW l0 0 = x := ⟨_, rfl⟩
  have HX0 := hidH hx0
  rw [hx0]
  clear hx0
  clear HC h2 hw
  have HC := hidH (word_ok r l1 w1 ty pv HT.out.2.2 g1.out)
  go_wp2_with fail
  refine HC.out.mono ?_
  rintro e w2 ⟨rfl, h2, hw⟩
  have HZ2 := hidH (Nat.le_trans HZ1.out hw.size)
  rw [e2.out] at h2
  replace HT := hidH (And.intro (hw.blk HT.out.1 (.inr (by have := HS.out; omega))) (And.intro (HT.out.2.1.trans hw) h2))
  obtain ⟨x1, hx1⟩ : ∃ x, atW l1 0 = x := ⟨_, rfl⟩
  have HX1 := hidH hx1
  rw [hx1]
  clear hx1
  clear HC h2 hw
  have HC := hidH (copied_ok r 16 l2 w2 ty pv HT.out.2.2 g2.out (Nat.le_trans m2.out (by omega)))
  go_wp2_with fail
  refine HC.out.mono ?_
  rintro e w3 ⟨A3, c3, rfl, hO, h2, hw⟩
  have HO3 := hidH hO
  clear hO
  have HZ3 := hidH (Nat.le_trans HZ2.out hw.size)
  have HW3 := hidH hw.size
  rw [e3.out] at h2
  replace HT := hidH (And.intro (hw.blk HT.out.1 (.inr (by have := HS.out; omega))) (And.intro (HT.out.2.1.trans hw) h2))
  obtain ⟨P3, hP3⟩ : ∃ P, l2.take 16 = P := ⟨_, rfl⟩
  have HP3 := hidH hP3
  rw [hP3] at HO3
  rw [hP3]
  obtain ⟨n3, hn3⟩ : ∃ n, P3.length = n := ⟨_, rfl⟩
  have HN3 := hidH hn3
  rw [hn3] at HO3
  rw [hn3]
  clear hP3 hn3
  clear HC h2 hw
  have HC := hidH (numbers_bad r l3 w3 ty pv HT.out.2.2 g3.out m3.out)
  rw [HUN.out] at HC
  go_wp2_with fail
  refine HC.out.mono ?_
  rintro e w9 ⟨rfl, hw⟩
  have HE := hidH (HT.out.2.1.trans hw)
  clear HC HT hw
  go_wp2
  exact ⟨rfl, rfl, HE.out⟩
set_option maxRecDepth 100000 in
set_option maxHeartbeats 8000000 in
theorem greet_bad4 (r : Nat) (k : Int) (l0 l1 l2 l3 l4 l5 : List Int) (w : World) (ty : TypeId) (pv : Value) (h : RE w r ty pv l0) (e1 : l0.drop 4 = l1) (e2 : l1.drop 4 = l2) (e3 : l2.drop 16 = l3) (e4 : l3.drop (1 + cntN l3 0) = l4) (e5 : l4.drop 1 = l5) (hm : l0.length ≤ 4000000) (g0 : 4 ≤ l0.length) (g1 : 4 ≤ l1.length) (g2 : 16 ≤ l2.length) (g3 : cntOk l3 0) (g4 : ¬ (1 ≤ l4.length)) :
    Calls Tryd.prog 129 #[.pointer (some ⟨r, 0, none⟩), .int .i64 k] w  fun e w' => e = PanE (.iface ty pv) ∧ Win r (r + 1) w w' := by
  have hun : PanE (.iface ty pv) = .panicked [{ v := .iface ty pv, recovered := false }] := rfl
  rw [hun]
  have HUN := hidH hun
  clear hun
  have K1 := Blk.new w 100 #[.int .i64 0, .int .i64 0, .slice none 0 0, .slice none 0 0, .slice none 0 0, .int .i64 0]
  have B1 := bal (Below.refl w.heap.size w) (.cells #[.int .i64 0, .int .i64 0, .slice none 0 0, .slice none 0 0, .slice none 0 0, .int .i64 0] 100)
  obtain ⟨w0, hw0⟩ : ∃ w0, w.alloc (.cells #[.int .i64 0, .int .i64 0, .slice none 0 0, .slice none 0 0, .slice none 0 0, .int .i64 0] 100) = w0 := ⟨_, rfl⟩
  have hs0 : w0.heap.size = w.heap.size + 1 := by rw [← hw0]; simp
  rw [hw0] at K1 B1
  have HS := hidH (And.intro hs0 h.rd.lt)
  have HT := hidH (And.intro K1 (And.intro (Win.of_below (B := r) (C := r + 1) B1) (h.below B1)))
  have HW0 := hidH hw0
  have HZ0 := hidH (Nat.le_of_eq hs0.symm)
  have m0 := hidH (show l0.length ≤ 4000000 by exact hm)
  have m1 := hidH (show l1.length ≤ 4000000 by rw [← e1]; have := m0.out; simp; omega)
  have m2 := hidH (show l2.length ≤ 4000000 by rw [← e2]; have := m1.out; simp; omega)
  have m3 := hidH (show l3.length ≤ 4000000 by rw [← e3]; have := m2.out; simp; omega)
  have m4 := hidH (show l4.length ≤ 4000000 by rw [← e4]; have := m3.out; simp; omega)
  have m5 := hidH (show l5.length ≤ 4000000 by rw [← e5]; have := m4.out; simp; omega)
  clear h K1 B1 hs0 hw0 hm
  replace g0 := hidH g0
  replace g1 := hidH g1
  replace g2 := hidH g2
  replace g3 := hidH g3
  replace g4 := hidH g4
  replace e1 := hidH e1
  replace e2 := hidH e2
  replace e3 := hidH e3
  replace e4 := hidH e4
  replace e5 := hidH e5
  have HC := hidH (word_ok r l0 w0 ty pv HT.out.2.2 g0.out)
  go_enter Tryd.func129, Tryd.ntmps129
  go_wp2_with fail
  rw [HW0.out]
  refine HC.out.mono ?_
  rintro e w1 ⟨rfl, h2, hw⟩
  have HZ1 := hidH (Nat.le_trans HZ0.out hw.size)
  rw [e1.out] at h2
  replace HT := hidH (And.intro (hw.blk HT.out.1 (.inr (by have := HS.out; omega))) (And.intro (HT.out.2.1.trans hw) h2))
  obtain ⟨x0, hx0⟩ : ∃ x, atW l0 0 = x := ⟨_, rfl⟩
  have HX0 := hidH hx0
  rw [hx0]
  clear hx0
  clear HC h2 hw
  have HC := hidH (word_ok r l1 w1 ty pv HT.out.2.2 g1.out)
  go_wp2_with fail
  refine HC.out.mono ?_
  rintro e w2 ⟨rfl, h2, hw⟩
  have HZ2 := hidH (Nat.le_trans HZ1.out hw.size)
  rw [e2.out] at h2
  replace HT := hidH (And.intro (hw.blk HT.out.1 (.inr (by have := HS.out; omega))) (And.intro (HT.out.2.1.trans hw) h2))
  obtain ⟨x1, hx1⟩ : ∃ x, atW l1 0 = x := ⟨_, rfl⟩
  have HX1 := hidH hx1
  rw [hx1]
  clear hx1
  clear HC h2 hw
  have HC := hidH (copied_ok r 16 l2 w2 ty pv HT.out.2.2 g2.out (Nat.le_trans m2.out (by omega)))
  go_wp2_with fail
  refine HC.out.mono ?_
  rintro e w3 ⟨A3, c3, rfl, hO, h2, hw⟩
  have HO3 := hidH hO
  clear hO
  have HZ3 := hidH (Nat.le_trans HZ2.out hw.size)
  have HW3 := hidH hw.size
  rw [e3.out] at h2
  replace HT := hidH (And.intro (hw.blk HT.out.1 (.inr (by have := HS.out; omega))) (And.intro (HT.out.2.1.trans hw) h2))
  obtain ⟨P3, hP3⟩ : ∃ P, l2.take 16 = P := ⟨_, rfl⟩
  have HP3 := hidH hP3
  rw [hP3] at HO3
  rw [hP3]
  obtain ⟨n3, hn3⟩ : ∃ n, P3.length = n := ⟨_, rfl⟩
  have HN3 := hidH hn3
  rw [hn3] at HO3
  rw [hn3]
  clear hP3 hn3
  clear HC h2 hw
  have HC := hidH (numbers_ok r l3 w3 ty pv HT.out.2.2 g3.out m3.out)
  go_wp2_with fail
  refine HC.out.mono ?_
  rintro e w4 ⟨A4, c4, rfl, hO, h2, hw⟩
  replace HO3 := hidH (OwV.win HO3.out hw (.inr (by have := HS.out; have := HZ2.out; omega)))
  have HO4 := hidH hO
  clear hO
  have HZ4 := hidH (Nat.le_trans HZ3.out hw.size)
  have HW4 := hidH hw.size
  rw [e4.out] at h2
  replace HT := hidH (And.intro (hw.blk HT.out.1 (.inr (by have := HS.out; omega))) (And.intro (HT.out.2.1.trans hw) h2))
  obtain ⟨P4, hP4⟩ : ∃ P, cntL l3 0 = P := ⟨_, rfl⟩
  have HP4 := hidH hP4
  rw [hP4] at HO4
  rw [hP4]
  obtain ⟨n4, hn4⟩ : ∃ n, P4.length = n := ⟨_, rfl⟩
  have HN4 := hidH hn4
  rw [hn4] at HO4
  rw [hn4]
  clear hP4 hn4
  clear HC h2 hw
  have hl4 : l4 = [] := List.eq_nil_of_length_eq_zero (by have := g4.out; omega)
  subst hl4
  have HC := hidH (number_bad r w4 ty pv HT.out.2.2)
  rw [HUN.out] at HC
  go_wp2_with fail
  refine HC.out.mono ?_
  rintro e w9 ⟨rfl, rfl⟩
  have HE := hidH (HT.out.2.1)
  clear HC HT
  go_wp2
  exact ⟨rfl, rfl, HE.out⟩
set_option maxRecDepth 100000 in
set_option maxHeartbeats 8000000 in
theorem greet_bad5 (r : Nat) (k : Int) (l0 l1 l2 l3 l4 l5 : List Int) (w : World) (ty : TypeId) (pv : Value) (h : RE w r ty pv l0) (e1 : l0.drop 4 = l1) (e2 : l1.drop 4 = l2) (e3 : l2.drop 16 = l3) (e4 : l3.drop (1 + cntN l3 0) = l4) (e5 : l4.drop 1 = l5) (hm : l0.length ≤ 4000000) (g0 : 4 ≤ l0.length) (g1 : 4 ≤ l1.length) (g2 : 16 ≤ l2.length) (g3 : cntOk l3 0) (g4 : 1 ≤ l4.length) (g5 : ¬ (cntN l4 0 ≤ l5.length)) :
    Calls Tryd.prog 129 #[.pointer (some ⟨r, 0, none⟩), .int .i64 k] w  fun e w' => e = PanE (.iface ty pv) ∧ Win r (r + 1) w w' := by
  have hun : PanE (.iface ty pv) = .panicked [{ v := .iface ty pv, recovered := false }] := rfl
  rw [hun]
  have HUN := hidH hun
  clear hun
  have K1 := Blk.new w 100 #[.int .i64 0, .int .i64 0, .slice none 0 0, .slice none 0 0, .slice none 0 0, .int .i64 0]
  have B1 := bal (Below.refl w.heap.size w) (.cells #[.int .i64 0, .int .i64 0, .slice none 0 0, .slice none 0 0, .slice none 0 0, .int .i64 0] 100)
  obtain ⟨w0, hw0⟩ : ∃ w0, w.alloc (.cells #[.int .i64 0, .int .i64 0, .slice none 0 0, .slice none 0 0, .slice none 0 0, .int .i64 0] 100) = w0 := ⟨_, rfl⟩
  have hs0 : w0.heap.size = w.heap.size + 1 := by rw [← hw0]; simp
  rw [hw0] at K1 B1
  have HS := hidH (And.intro hs0 h.rd.lt)
  have HT := hidH (And.intro K1 (And.intro (Win.of_below (B := r) (C := r + 1) B1) (h.below B1)))
  have HW0 := hidH hw0
  have HZ0 := hidH (Nat.le_of_eq hs0.symm)
  have m0 := hidH (show l0.length ≤ 4000000 by exact hm)
  have m1 := hidH (show l1.length ≤ 4000000 by rw [← e1]; have := m0.out; simp; omega)
  have m2 := hidH (show l2.length ≤ 4000000 by rw [← e2]; have := m1.out; simp; omega)
  have m3 := hidH (show l3.length ≤ 4000000 by rw [← e3]; have := m2.out; simp; omega)
  have m4 := hidH (show l4.length ≤ 4000000 by rw [← e4]; have := m3.out; simp; omega)
  have m5 := hidH (show l5.length ≤ 4000000 by rw [← e5]; have := m4.out; simp; omega)
  clear h K1 B1 hs0 hw0 hm
  replace g0 := hidH g0
  replace g1 := hidH g1
  replace g2 := hidH g2
  replace g3 := hidH g3
  replace g4 := hidH g4
  replace g5 := hidH g5
  replace e1 := hidH e1
  replace e2 := hidH e2
  replace e3 := hidH e3
  replace e4 := hidH e4
  replace e5 := hidH e5
  have HC := hidH (word_ok r l0 w0 ty pv HT.out.2.2 g0.out)
  go_enter Tryd.func129, Tryd.ntmps129
  go_wp2_with fail
  rw [HW0.out]
  refine HC.out.mono ?_
  rintro e w1 ⟨rfl, h2, hw⟩
  have HZ1 := hidH (Nat.le_trans HZ0.out hw.size)
  rw [e1.out] at h2
  replace HT := hidH (And.intro (hw.blk HT.out.1 (.inr (by have := HS.out; omega))) (And.intro (HT.out.2.1.trans hw) h2))
  obtain ⟨x0, hx0⟩ : ∃ x, atW l0 0 = x := ⟨_, rfl⟩
  have HX0 := hidH hx0
  rw [hx0]
  clear hx0
  clear HC h2 hw
  have HC := hidH (word_ok r l1 w1 ty pv HT.out.2.2 g1.out)
  go_wp2_with fail
  refine HC.out.mono ?_
  rintro e w2 ⟨rfl, h2, hw⟩
  have HZ2 := hidH (Nat.le_trans HZ1.out hw.size)
  rw [e2.out] at h2
  replace HT := hidH (And.intro (hw.blk HT.out.1 (.inr (by have := HS.out; omega))) (And.intro (HT.out.2.1.trans hw) h2))
  obtain ⟨x1, hx1⟩ : ∃ x, atW l1 0 = x := ⟨_, rfl⟩
  have HX1 := hidH hx1
  rw [hx1]
  clear hx1
  clear HC h2 hw
  have HC := hidH (copied_ok r 16 l2 w2 ty pv HT.out.2.2 g2.out (Nat.le_trans m2.out (by omega)))
  go_wp2_with fail
  refine HC.out.mono ?_
  rintro e w3 ⟨A3, c3, rfl, hO, h2, hw⟩
  have HO3 := hidH hO
  clear hO
  have HZ3 := hidH (Nat.le_trans HZ2.out hw.size)
  have HW3 := hidH hw.size
  rw [e3.out] at h2
  replace HT := hidH (And.intro (hw.blk HT.out.1 (.inr (by have := HS.out; omega))) (And.intro (HT.out.2.1.trans hw) h2))
  obtain ⟨P3, hP3⟩ : ∃ P, l2.take 16 = P := ⟨_, rfl⟩
  have HP3 := hidH hP3
  rw [hP3] at HO3
  rw [hP3]
  obtain ⟨n3, hn3⟩ : ∃ n, P3.length = n := ⟨_, rfl⟩
  have HN3 := hidH hn3
  rw [hn3] at HO3
  rw [hn3]
  clear hP3 hn3
  clear HC h2 hw
  have HC := hidH (numbers_ok r l3 w3 ty pv HT.out.2.2 g3.out m3.out)
  go_wp2_with fail
  refine HC.out.mono ?_
  rintro e w4 ⟨A4, c4, rfl, hO, h2, hw⟩
  replace HO3 := hidH (OwV.win HO3.out hw (.inr (by have := HS.out; have := HZ2.out; omega)))
  have HO4 := hidH hO
  clear hO
  have HZ4 := hidH (Nat.le_trans HZ3.out hw.size)
  have HW4 := hidH hw.size
  rw [e4.out] at h2
  replace HT := hidH (And.intro (hw.blk HT.out.1 (.inr (by have := HS.out; omega))) (And.intro (HT.out.2.1.trans hw) h2))
  obtain ⟨P4, hP4⟩ : ∃ P, cntL l3 0 = P := ⟨_, rfl⟩
  have HP4 := hidH hP4
  rw [hP4] at HO4
  rw [hP4]
  obtain ⟨n4, hn4⟩ : ∃ n, P4.length = n := ⟨_, rfl⟩
  have HN4 := hidH hn4
  rw [hn4] at HO4
  rw [hn4]
  clear hP4 hn4
  clear HC h2 hw
  have hx4 := hidH (show l4.getD 0 0 = ((cntN l4 0 : Nat) : Int) by have := HT.out.2.2.by_.get 0; unfold cntN; omega)
  have HC := hidH (number_ok' r l4 w4 ty pv HT.out.2.2 g4.out)
  rw [hx4.out] at HC
  go_wp2_with fail
  refine HC.out.mono ?_
  rintro e w5 ⟨rfl, h2, hw, _⟩
  replace HO3 := hidH (OwV.win HO3.out hw (.inr (by have := HS.out; have := HZ2.out; omega)))
  replace HO4 := hidH (OwV.win HO4.out hw (.inr (by have := HS.out; have := HZ3.out; omega)))
  have HZ5 := hidH (Nat.le_trans HZ4.out hw.size)
  have HW5 := hidH hw.size
  rw [e5.out] at h2
  replace HT := hidH (And.intro (hw.blk HT.out.1 (.inr (by have := HS.out; omega))) (And.intro (HT.out.2.1.trans hw) h2))
  clear HC h2 hw
  have HC := hidH (copied_bad r ((cntN l4 0 : Nat) : Int) l5 w5 ty pv HT.out.2.2 (.inr (by have := g5.out; omega)))
  rw [HUN.out] at HC
  go_wp2_with fail
  refine HC.out.mono ?_
  rintro e w9 ⟨rfl, hw⟩
  have HE := hidH (HT.out.2.1.trans hw)
  clear HC HT hw
  go_wp2
  exact ⟨rfl, rfl, HE.out⟩
set_option maxRecDepth 100000 in
set_option maxHeartbeats 8000000 in
theorem greet_ok (r : Nat) (k : Int) (l0 l1 l2 l3 l4 l5 : List Int) (w : World) (ty : TypeId) (pv : Value) (h : RE w r ty pv l0) (e1 : l0.drop 4 = l1) (e2 : l1.drop 4 = l2) (e3 : l2.drop 16 = l3) (e4 : l3.drop (1 + cntN l3 0) = l4) (e5 : l4.drop 1 = l5) (hm : l0.length ≤ 4000000) (g0 : 4 ≤ l0.length) (g1 : 4 ≤ l1.length) (g2 : 16 ≤ l2.length) (g3 : cntOk l3 0) (g4 : 1 ≤ l4.length) (g5 : cntN l4 0 ≤ l5.length) :
    Calls Tryd.prog 129 #[.pointer (some ⟨r, 0, none⟩), .int .i64 k] w  (StRes r [.int (atW l0 0), .int (atW l1 0), .bs (l2.take 16), .is (cntL l3 0), .bs (l5.take (cntN l4 0)), .int k] w) := by
  have K1 := Blk.new w 100 #[.int .i64 0, .int .i64 0, .slice none 0 0, .slice none 0 0, .slice none 0 0, .int .i64 0]
  have B1 := bal (Below.refl w.heap.size w) (.cells #[.int .i64 0, .int .i64 0, .slice none 0 0, .slice none 0 0, .slice none 0 0, .int .i64 0] 100)
  obtain ⟨w0, hw0⟩ : ∃ w0, w.alloc (.cells #[.int .i64 0, .int .i64 0, .slice none 0 0, .slice none 0 0, .slice none 0 0, .int .i64 0] 100) = w0 := ⟨_, rfl⟩
  have hs0 : w0.heap.size = w.heap.size + 1 := by rw [← hw0]; simp
  rw [hw0] at K1 B1
  have HS := hidH (And.intro hs0 h.rd.lt)
  have HT := hidH (And.intro K1 (And.intro (Win.of_below (B := r) (C := r + 1) B1) (h.below B1)))
  have HW0 := hidH hw0
  have HZ0 := hidH (Nat.le_of_eq hs0.symm)
  have m0 := hidH (show l0.length ≤ 4000000 by exact hm)
  have m1 := hidH (show l1.length ≤ 4000000 by rw [← e1]; have := m0.out; simp; omega)
  have m2 := hidH (show l2.length ≤ 4000000 by rw [← e2]; have := m1.out; simp; omega)
  have m3 := hidH (show l3.length ≤ 4000000 by rw [← e3]; have := m2.out; simp; omega)
  have m4 := hidH (show l4.length ≤ 4000000 by rw [← e4]; have := m3.out; simp; omega)
  have m5 := hidH (show l5.length ≤ 4000000 by rw [← e5]; have := m4.out; simp; omega)
  clear h K1 B1 hs0 hw0 hm
  replace g0 := hidH g0
  replace g1 := hidH g1
  replace g2 := hidH g2
  replace g3 := hidH g3
  replace g4 := hidH g4
  replace g5 := hidH g5
  replace e1 := hidH e1
  replace e2 := hidH e2
  replace e3 := hidH e3
  replace e4 := hidH e4
  replace e5 := hidH e5
  have HC := hidH (word_ok r l0 w0 ty pv HT.out.2.2 g0.out)
  go_enter Tryd.func129, Tryd.ntmps129
  go_wp2_with fail
  rw [HW0.out]
  refine HC.out.mono ?_
  rintro e w1 ⟨rfl, h2, hw⟩
  have HZ1 := hidH (Nat.le_trans HZ0.out hw.size)
  rw [e1.out] at h2
  replace HT := hidH (And.intro (hw.blk HT.out.1 (.inr (by have := HS.out; omega))) (And.intro (HT.out.2.1.trans hw) h2))
  obtain ⟨x0, hx0⟩ : ∃ x, atW l0 0 = x := ⟨_, rfl⟩
  have HX0 := hidH hx0
  rw [hx0]
  clear hx0
  clear HC h2 hw
  have HC := hidH (word_ok r l1 w1 ty pv HT.out.2.2 g1.out)
  go_wp2_with fail
  refine HC.out.mono ?_
  rintro e w2 ⟨rfl, h2, hw⟩
  have HZ2 := hidH (Nat.le_trans HZ1.out hw.size)
  rw [e2.out] at h2
  replace HT := hidH (And.intro (hw.blk HT.out.1 (.inr (by have := HS.out; omega))) (And.intro (HT.out.2.1.trans hw) h2))
  obtain ⟨x1, hx1⟩ : ∃ x, atW l1 0 = x := ⟨_, rfl⟩
  have HX1 := hidH hx1
  rw [hx1]
  clear hx1
  clear HC h2 hw
  have HC := hidH (copied_ok r 16 l2 w2 ty pv HT.out.2.2 g2.out (Nat.le_trans m2.out (by omega)))
  go_wp2_with fail
  refine HC.out.mono ?_
  rintro e w3 ⟨A3, c3, rfl, hO, h2, hw⟩
  have HO3 := hidH hO
  clear hO
  have HZ3 := hidH (Nat.le_trans HZ2.out hw.size)
  have HW3 := hidH hw.size
  rw [e3.out] at h2
  replace HT := hidH (And.intro (hw.blk HT.out.1 (.inr (by have := HS.out; omega))) (And.intro (HT.out.2.1.trans hw) h2))
  obtain ⟨P3, hP3⟩ : ∃ P, l2.take 16 = P := ⟨_, rfl⟩
  have HP3 := hidH hP3
  rw [hP3] at HO3
  rw [hP3]
  obtain ⟨n3, hn3⟩ : ∃ n, P3.length = n := ⟨_, rfl⟩
  have HN3 := hidH hn3
  rw [hn3] at HO3
  rw [hn3]
  clear hP3 hn3
  clear HC h2 hw
  have HC := hidH (numbers_ok r l3 w3 ty pv HT.out.2.2 g3.out m3.out)
  go_wp2_with fail
  refine HC.out.mono ?_
  rintro e w4 ⟨A4, c4, rfl, hO, h2, hw⟩
  replace HO3 := hidH (OwV.win HO3.out hw (.inr (by have := HS.out; have := HZ2.out; omega)))
  have HO4 := hidH hO
  clear hO
  have HZ4 := hidH (Nat.le_trans HZ3.out hw.size)
  have HW4 := hidH hw.size
  rw [e4.out] at h2
  replace HT := hidH (And.intro (hw.blk HT.out.1 (.inr (by have := HS.out; omega))) (And.intro (HT.out.2.1.trans hw) h2))
  obtain ⟨P4, hP4⟩ : ∃ P, cntL l3 0 = P := ⟨_, rfl⟩
  have HP4 := hidH hP4
  rw [hP4] at HO4
  rw [hP4]
  obtain ⟨n4, hn4⟩ : ∃ n, P4.length = n := ⟨_, rfl⟩
  have HN4 := hidH hn4
  rw [hn4] at HO4
  rw [hn4]
  clear hP4 hn4
  clear HC h2 hw
  have hx4 := hidH (show l4.getD 0 0 = ((cntN l4 0 : Nat) : Int) by have := HT.out.2.2.by_.get 0; unfold cntN; omega)
  have HC := hidH (number_ok' r l4 w4 ty pv HT.out.2.2 g4.out)
  rw [hx4.out] at HC
  go_wp2_with fail
  refine HC.out.mono ?_
  rintro e w5 ⟨rfl, h2, hw, _⟩
  replace HO3 := hidH (OwV.win HO3.out hw (.inr (by have := HS.out; have := HZ2.out; omega)))
  replace HO4 := hidH (OwV.win HO4.out hw (.inr (by have := HS.out; have := HZ3.out; omega)))
  have HZ5 := hidH (Nat.le_trans HZ4.out hw.size)
  have HW5 := hidH hw.size
  rw [e5.out] at h2
  replace HT := hidH (And.intro (hw.blk HT.out.1 (.inr (by have := HS.out; omega))) (And.intro (HT.out.2.1.trans hw) h2))
  clear HC h2 hw
  have HC := hidH (copied_ok r (cntN l4 0) l5 w5 ty pv HT.out.2.2 g5.out (Nat.le_trans m5.out (by omega)))
  go_wp2_with fail
  refine HC.out.mono ?_
  rintro e w6 ⟨A6, c6, rfl, hO, h2, hw⟩
  replace HO3 := hidH (OwV.win HO3.out hw (.inr (by have := HS.out; have := HZ2.out; omega)))
  replace HO4 := hidH (OwV.win HO4.out hw (.inr (by have := HS.out; have := HZ3.out; omega)))
  have HO6 := hidH hO
  clear hO
  have HZ6 := hidH (Nat.le_trans HZ5.out hw.size)
  have HW6 := hidH hw.size
  replace HT := hidH (And.intro (hw.blk HT.out.1 (.inr (by have := HS.out; omega))) (And.intro (HT.out.2.1.trans hw) h2))
  obtain ⟨P6, hP6⟩ : ∃ P, l5.take (cntN l4 0) = P := ⟨_, rfl⟩
  have HP6 := hidH hP6
  rw [hP6] at HO6
  rw [hP6]
  obtain ⟨n6, hn6⟩ : ∃ n, P6.length = n := ⟨_, rfl⟩
  have HN6 := hidH hn6
  rw [hn6] at HO6
  rw [hn6]
  clear hP6 hn6
  clear HC h2 hw
  have B7 := bal (Below.refl w6.heap.size w6) (.cells #[.int .i64 x0, .int .i64 x1, .slice A3 n3 c3, .slice A4 n4 c4, .slice A6 n6 c6] 39)
  have K7 := Blk.new w6 39 #[.int .i64 x0, .int .i64 x1, .slice A3 n3 c3, .slice A4 n4 c4, .slice A6 n6 c6]
  have K5 := HT.out.1.below B7
  have HOA := hidH (And.intro (HO3.out.below B7) (And.intro (HO4.out.below B7) (HO6.out.below B7)))
  have HW7 := hidH (HT.out.2.1.trans (Win.of_below B7))
  have hne : w.heap.size ≠ w6.heap.size := by have := HT.out.1.lt; omega
  have y0 := K5.cell 0
  have y1 := K5.cell 1
  have y2 := K5.cell 2
  have y3 := K5.cell 3
  have y4 := K5.cell 4
  have y5 := K5.cell 5
  have f0 := K5.frozen 0
  have f1 := K5.frozen 1
  have f2 := K5.frozen 2
  have f3 := K5.frozen 3
  have f4 := K5.frozen 4
  have f5 := K5.frozen 5
  simp only [List.getElem?_toArray, List.getElem?_cons_succ, List.getElem?_cons_zero] at y0 y1 y2 y3 y4 y5
  have z0 := K7.cell 0
  have z1 := K7.cell 1
  have z2 := K7.cell 2
  have z3 := K7.cell 3
  have z4 := K7.cell 4
  have i0 := K7.frozen 0
  have i1 := K7.frozen 1
  have i2 := K7.frozen 2
  have i3 := K7.frozen 3
  have i4 := K7.frozen 4
  simp only [List.getElem?_toArray, List.getElem?_cons_succ, List.getElem?_cons_zero] at z0 z1 z2 z3 z4
  have hr5 := K5.lt
  have hr7 := K7.lt
  obtain ⟨w7, hw7⟩ : ∃ w7, w6.alloc (.cells #[.int .i64 x0, .int .i64 x1, .slice A3 n3 c3, .slice A4 n4 c4, .slice A6 n6 c6] 39) = w7 := ⟨_, rfl⟩
  rw [hw7] at HOA HW7 hr5 hr7 y0 y1 y2 y3 y4 y5 f0 f1 f2 f3 f4 f5 z0 z1 z2 z3 z4 i0 i1 i2 i3 i4
  have HS7 := hidH (show w7.heap.size = w6.heap.size + 1 by rw [← hw7]; simp)
  clear B7 K7 K5 HT
  go_wp2
  have hz2 := HZ2.out
  have hz3 := HW3.out
  have hz4 := HW4.out
  have hz5 := HW5.out
  have hz6 := HW6.out
  exact bodyPost_ret (v := .agg #[.int .i64 x0, .int .i64 x1, .slice A3 n3 c3, .slice A4 n4 c4, .slice A6 n6 c6, .int .i64 k]) (by simp [results, Tryd.results129, go_sem, y0, y1, y2, y3, y4, y5]) rfl ⟨_, rfl, by
    rw [HX0.out, HX1.out, HP3.out, HP4.out, HP6.out]
    refine OwN.int x0 (OwN.int x1 ((OwN.cons (B := w2.heap.size) (C := w3.heap.size) (D := w6.heap.size) ?_ (OwN.cons (B := w3.heap.size) (C := w4.heap.size) (D := w6.heap.size) ?_ (OwN.mono (B := w5.heap.size) (C := w6.heap.size) (OwN.cons (B := w5.heap.size) (C := w6.heap.size) (D := w6.heap.size) ?_ (OwN.int k (OwN.nil (by simp [World.setCell]; have := HS7.out; omega))) hz6 (Nat.le_refl _)) hz5 (Nat.le_refl _) (by simp [World.setCell]; have := HS7.out; omega)) hz4 (by omega)) hz3 (by omega)).mono (by omega) (by simp [World.setCell]; have := HS7.out; omega) (Nat.le_refl _)))
    · iterate 6 (refine OwV.win (B' := w.heap.size) (C' := w.heap.size + 1) ?_ (set_win _ _ _ _) (.inr (by omega)))
      exact HOA.out.1
    · iterate 6 (refine OwV.win (B' := w.heap.size) (C' := w.heap.size + 1) ?_ (set_win _ _ _ _) (.inr (by omega)))
      exact HOA.out.2.1
    · iterate 6 (refine OwV.win (B' := w.heap.size) (C' := w.heap.size + 1) ?_ (set_win _ _ _ _) (.inr (by omega)))
      exact HOA.out.2.2, by
    refine HW7.out.andBelow5 ?_
    iterate 6 (refine bsc ?_ (Nat.le_refl _) _)
    repeat (refine bsc ?_ (show w.heap.size ≤ w6.heap.size by omega) _)
    exact Below.refl _ _⟩
end Go.Proofs.YtjjileefdjjijaaDoor

/- Single operations of a region that draws its order. -/
namespace Go.Proofs.YtjjileefdjjijaaDoor
open Go.RowKit Go.Deep

theorem wp_allocRow {P : Program} {o : Oper} {a : Act} {w : World} {K : Act → World → Prop} {Q : Exit → Act → World → Prop} (t : TypeId) (ho : o.op = .alloc t) (dst : Option Tmp) (hd : o.dst = dst)
    (cs : Array Value) (hz : (P.info? t).bind (·.zero) = some (.agg cs))
    (h : K (a.put dst (.pointer (some ⟨w.heap.size, 0, none⟩))) (w.alloc (.cells cs t))) : o.wp P a w K Q := by
  subst hd
  unfold Oper.wp execOp
  cases hi : P.info? t with
  | none => simp [hi] at hz
  | some i =>
    simp [hi] at hz
    have hzr : ∀ u : World, (zeroValue t).run P u = .ok (.agg cs) u := (zero_of_info (n := i.size) (by simp [hi, hz])).1
    simp only [ho, Instr.alloc, hzr, newVar, newRow, Value.cells, Sem.run_bind, run_newObj_alloc, Sem.run_pure, Result.andThen_ok]
    exact h
/-- A call by its contract, as one operation. -/
theorem wp_callOp {P : Program} {o : Oper} {a : Act} {w : World} {K : Act → World → Prop} {Q : Exit → Act → World → Prop} (f : FuncId) (fn : Func) (hf : P.funcs[f]? = some fn) (hname : (fn.name == "runtime.NumGoroutine") = false) (hb : fn.body.isNone = false) (args : Array Value)
    (xs : Array Operand) (ts : Array TypeId) (ho : o.op = .call { callee := .value (.func f), args := xs, argTypes := ts }) (hx : xs.map a.eval = args) (dst : Option Tmp) (hd : o.dst = dst) (v : Value) (R : World → Prop) (hc : Calls P f args w fun e w' => e = .returned v ∧ R w')
    (h : ∀ w', R w' → K (a.put dst v) w') : o.wp P a w K Q := by
  subst hd
  have hrun : (execOp a.eval o).run P w = .ok (.enter f args) w := by
    subst hx
    have hn : ¬ fn.name = "runtime.NumGoroutine" := by simpa using hname
    have hb2 : ¬ fn.body = none := fun h => by rw [h] at hb; simp at hb
    simp [execOp, ho, resolve, invoke, Act.eval, Deferred.ofValue, callFunc, hf, hn, hb2]
  unfold Oper.wp
  rw [hrun, Oper.upon_enter]
  refine hc.mono fun e w'' hh => ?_
  obtain ⟨rfl, hr⟩ := hh
  exact h _ hr
/-- An operation that only reckons. -/
theorem wp_valueOp {P : Program} {o : Oper} {a : Act} {w : World} {K : Act → World → Prop} {Q : Exit → Act → World → Prop} (v : Value) (hrun : (execOp a.eval o).run P w = .ok (.value v) w) (dst : Option Tmp) (hd : o.dst = dst)
    (h : K (a.put dst v) w) : o.wp P a w K Q := by
  subst hd
  unfold Oper.wp
  rw [hrun]
  exact h
theorem op_parts {ops : Array Oper} {i : Nat} {op : Op} {dst : Option Tmp} (h : (ops[i]?).map (fun o => (o.op, o.dst, o.guard)) = some (op, dst, none)) :
    ∃ o, ops[i]? = some o ∧ o.op = op ∧ o.dst = dst ∧ o.guard = none := by
  obtain ⟨o, h1, h2⟩ := Option.map_eq_some_iff.1 h
  simp only [Prod.mk.injEq] at h2
  exact ⟨o, h1, h2.1, h2.2.1, h2.2.2⟩
/-- One operation of a region that draws, none of them guarded. -/
theorem wpOp_plain {P : Program} {ops : Array Oper} {Q : Exit → Act → World → Prop} {i : Nat} {o : Oper} {K : Act → World → Prop} {a : Act} {w : World} (ho : ops[i]? = some o) (hg : o.guard = none)
    (h : o.wp P a w K Q) : wpOp P ops Q i K a w := by
  refine wpOp_step ho (fun K' hK => ?_)
  rw [if_pos (by simp [Region.wanted, hg])]
  exact Oper.wp_mono hK h
def cnt (b : Bool) : Nat := if b then 0 else 1
end Go.Proofs.YtjjileefdjjijaaDoor
