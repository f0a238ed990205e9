/- The laws' helpers for chunks: szByteS, szChunk, toChunk, eqChunk, markChunk. -/
import Derived.Test.YtepcikghhnfacaaChL
import Derived.Test.YtepcikghhnfacaaLawKit0
namespace Go.Proofs.Ytepcikghhnfacaa
open Go.RowKit Go.Deep

theorem Blk.three {w : World} {g : Nat} {t : TypeId} {a b c : Value} (h : Blk w g t #[a, b, c]) : w.cell? ⟨g, 0, none⟩ = some a ∧ w.cell? ⟨g, 1, none⟩ = some b ∧ w.cell? ⟨g, 2, none⟩ = some c ∧ g < w.heap.size := ⟨h.cell 0, h.cell 1, h.cell 2, h.lt⟩
theorem chM_le (k f : Int) (b : List Int) : ((chM k f b).length : Int) ≤ 100000 := by
  unfold chM
  split
  · next h =>
    have := chF_zero h
    rw [chL_len]; unfold chPad; omega
  · simp
theorem three_of {α : Type} {cs : Array α} (h : cs.size = 3) : ∃ a b c, cs = #[a, b, c] := by
  obtain ⟨l⟩ := cs
  rcases l with _ | ⟨a, _ | ⟨b, _ | ⟨c, _ | ⟨d, r⟩⟩⟩⟩ <;> simp at h
  exact ⟨a, b, c, rfl⟩
def szL (left : Int) (n : Nat) : Int := if left - (n : Int) < 0 then -1 else left - (n : Int)
set_option maxHeartbeats 400000 in
theorem szB_any (A : Option Addr) (n c : Nat) (left : Int) (w : World) (h0 : 0 ≤ left) (h1 : left ≤ 1048576) (hn : (n : Int) ≤ 9223372036854775807) :
    Calls Try.prog 45 #[.slice A n c, .int .i64 left] w fun e w' => e = .returned (.int .i64 (szL left n)) ∧ w = w' := by
  by_cases h : left - (n : Int) < 0
  · rw [szL, if_pos h]
    go_enter Try.func45, Try.ntmps45
    go_wp2
    go_ret
    exact ⟨rfl, rfl⟩
  · have h2 : 0 ≤ left - (n : Int) := by omega
    rw [szL, if_neg h]
    clear h
    go_enter Try.func45, Try.ntmps45
    go_wp2
    go_ret
    exact ⟨rfl, rfl⟩
theorem szL_le (left : Int) (n : Nat) (h1 : left ≤ 1048576) : -1 ≤ szL left n ∧ szL left n ≤ 1048576 := by unfold szL; split <;> omega
set_option maxHeartbeats 400000 in
theorem szCh_any (k f : Int) (A : Option Addr) (n c : Nat) (left : Int) (w : World) (h0 : 0 ≤ left) (h1 : left ≤ 1048576) (hn : (n : Int) ≤ 9223372036854775807) :
    Calls Try.prog 19 #[ckV k f A n c, .int .i64 left] w fun e w' => e = .returned (.int .i64 (szL left n)) ∧ Below w.heap.size w w' := by
  have hz := szL_le left n h1
  have HS := hidH (fun u => szB_any A n c left u h0 h1 hn)
  obtain ⟨z, hzz⟩ : ∃ z, szL left n = z := ⟨_, rfl⟩
  rw [hzz] at hz HS ⊢
  have HZ := hidH (show z < 0 → z = -1 by omega)
  unfold ckV
  clear hzz
  by_cases h : z < 0
  · have e := HZ.out h
    subst e
    clear h hz
    go_enter Try.func19, Try.ntmps19
    go_wp2_with fail
    refine (HS.out _).mono ?_
    rintro e w' ⟨rfl, rfl⟩
    go_wp2
    go_ret
    exact ⟨rfl, bal (Below.refl _ _) _⟩
  · have h2 : 0 ≤ z := by omega
    clear h
    go_enter Try.func19, Try.ntmps19
    go_wp2_with fail
    refine (HS.out _).mono ?_
    rintro e w' ⟨rfl, rfl⟩
    go_wp2
    go_ret
    exact ⟨rfl, bal (Below.refl _ _) _⟩
set_option maxHeartbeats 1000000 in
theorem toCh_any (k f : Int) (A : Option Addr) (b : List Int) (c : Nat) (w : World) (hA : Bs w A b) (hm : b.length ≤ 281474976710656) :
    Calls Try.prog 20 #[ckV k f A b.length c] w fun e w' => ∃ A', e = .returned (ckV k f A' b.length b.length) ∧ Ob w.heap.size w'.heap.size w' A' b ∧ Below w.heap.size w w' := by
  have HA := hidH hA
  unfold ckV
  clear hA
  go_enter Try.func20, Try.ntmps20
  go_wp2_with fail
  have B3 := bal (bal (bal (Below.refl w.heap.size w) (.cells #[.int .i64 k, .int .i64 f, .slice A b.length c] 36)) (.cells #[.int .i64 0, .int .i64 0, .slice none 0 0] 25)) (.cells #[.int .i64 k, .int .i64 f, .slice none 0 0] 25)
  have R3 := (Blk.new (w.alloc (.cells #[.int .i64 k, .int .i64 f, .slice A b.length c] 36)) 25 #[.int .i64 0, .int .i64 0, .slice none 0 0]).alloc (.cells #[.int .i64 k, .int .i64 f, .slice none 0 0] 25)
  have V3 := Blk.new ((w.alloc (.cells #[.int .i64 k, .int .i64 f, .slice A b.length c] 36)).alloc (.cells #[.int .i64 0, .int .i64 0, .slice none 0 0] 25)) 25 #[.int .i64 k, .int .i64 f, .slice none 0 0]
  simp only [World.size_alloc] at R3 V3
  generalize ((w.alloc (.cells #[.int .i64 k, .int .i64 f, .slice A b.length c] 36)).alloc (.cells #[.int .i64 0, .int .i64 0, .slice none 0 0] 25)).alloc (.cells #[.int .i64 k, .int .i64 f, .slice none 0 0] 25) = w3 at *
  have hv := V3.lt
  refine (toB' A b c w3 (bs_below HA.out (B3.mono (Nat.le_refl _))) hm).mono ?_
  rintro e w4 ⟨A4, rfl, O4, b4⟩
  have R4 := R3.below b4
  have V4 := V3.below b4
  have x0 := R4.cell 0
  have x1 := R4.cell 1
  have x2 := R4.cell 2
  have y0 := V4.cell 0
  have y1 := V4.cell 1
  have y2 := V4.cell 2
  have f0 := R4.frozen 0
  have f1 := R4.frozen 1
  have f2 := R4.frozen 2
  have g2 := V4.frozen 2
  simp only [List.getElem?_toArray, List.getElem?_cons_succ, List.getElem?_cons_zero] at x0 x1 x2 y0 y1 y2
  have HO := hidH (O4.mono (B' := w.heap.size + 1 + 1 + 1) (by omega))
  have HB := hidH (btr B3 b4)
  have hv4 := V4.lt
  clear B3 R3 V3 R4 V4 O4 b4 hm
  go_wp2
  have O5 := (((HO.out.setCell (p := ⟨w.heap.size + 1 + 1, 2, none⟩) (Nat.lt_succ_self _) (.slice A4 b.length b.length)).setCell (p := ⟨w.heap.size + 1, 0, none⟩) (by simp) (.int .i64 k)).setCell (p := ⟨w.heap.size + 1, 1, none⟩) (by simp) (.int .i64 f)).setCell (p := ⟨w.heap.size + 1, 2, none⟩) (by simp) (.slice A4 b.length b.length)
  have B5 := bst (bst (bst (bst HB.out (show w.heap.size ≤ (⟨w.heap.size + 1 + 1, 2, none⟩ : Addr).block by simp; omega) (.slice A4 b.length b.length)) (show w.heap.size ≤ (⟨w.heap.size + 1, 0, none⟩ : Addr).block by simp) (.int .i64 k)) (show w.heap.size ≤ (⟨w.heap.size + 1, 1, none⟩ : Addr).block by simp) (.int .i64 f)) (show w.heap.size ≤ (⟨w.heap.size + 1, 2, none⟩ : Addr).block by simp) (.slice A4 b.length b.length)
  have es : ∀ (u : World) (p : Addr) (v : Value), (u.setCell p v).heap.size = u.heap.size := fun u p v => by simp [World.setCell]
  have O6 := O5.mono (B' := w.heap.size) (by omega)
  exact bodyPost_ret (v := .agg #[.int .i64 k, .int .i64 f, .slice A4 b.length b.length]) (by simp [results, Try.results20, go_sem, x0, x1, x2]) rfl ⟨A4, rfl, by simp only [es]; exact O6, B5⟩
set_option maxHeartbeats 1000000 in
theorem eqCh_same (k f : Int) (A B : Option Addr) (b : List Int) (c d : Nat) (w : World) (hA : Bs w A b) (hB : Bs w B b) (hm : (b.length : Int) ≤ 9223372036854775807) :
    Calls Try.prog 21 #[ckV k f A b.length c, ckV k f B b.length d] w fun e w' => e = .returned (.bool true) ∧ Below w.heap.size w w' := by
  have B2 := bal (bal (Below.refl w.heap.size w) (.cells #[.int .i64 k, .int .i64 f, .slice A b.length c] 25)) (.cells #[.int .i64 k, .int .i64 f, .slice B b.length d] 25)
  have HS := hidH (eqB_same A B b c d _ (bs_below hA B2) (bs_below hB B2) hm)
  have HB := hidH B2
  unfold ckV
  clear hA hB B2
  go_enter Try.func21, Try.ntmps21
  go_wp2_with fail
  refine HS.out.mono ?_
  rintro e w' ⟨rfl, dd, rfl⟩
  go_wp2
  go_ret
  exact ⟨rfl, below_drewN HB.out _⟩
set_option maxHeartbeats 1000000 in
theorem markCh_any (B C : Nat) (k f : Int) (A : Option Addr) (b : List Int) (c m : Nat) (w : World) (hA : Ob B C w A b) (hm : (b.length : Int) ≤ 9223372036854775807) (hk : (m : Int) + b.length ≤ 9223372036854775807) :
    Calls Try.prog 24 #[ckV k f A b.length c, .int .i64 m] w fun e w' => e = .returned (.int .i64 ((m + b.length : Nat) : Int)) ∧ Win B C w w' ∧ Bs w' A (marks m b.length) := by
  have B1 := bal (Below.refl w.heap.size w) (.cells #[.int .i64 k, .int .i64 f, .slice A b.length c] 25)
  have HS := hidH (markB_any B C A b c m _ (hA.below B1) hm hk)
  have HB := hidH B1
  unfold ckV
  clear hA B1
  go_enter Try.func24, Try.ntmps24
  go_wp2_with fail
  refine HS.out.mono ?_
  rintro e w' ⟨rfl, hw, hb⟩
  have HW := hidH ((Win.of_below HB.out).trans hw)
  have HBB := hidH hb
  clear hw hb
  go_wp2
  go_ret
  exact ⟨rfl, HW.out, HBB.out⟩
/-- What an exact law over a chunk keeps while it compares: the argument in its block, the copy in its, both bodies. -/
structure EC (w0 : World) (g x : Nat) (k f : Int) (A : Option Addr) (l : List Int) (c : Nat) (X : Option Addr) (W : World) : Prop where
  arg : Blk W g 36 #[.int .i64 k, .int .i64 f, .slice A l.length c]
  cpy : Blk W x 25 #[.int .i64 k, .int .i64 f, .slice X l.length l.length]
  ba : Bs W A l
  bx : Bs W X l
  old : Below w0.heap.size w0 W
theorem EC.below {w0 : World} {g x : Nat} {k f : Int} {A : Option Addr} {l : List Int} {c : Nat} {X : Option Addr} {u v : World} (h : EC w0 g x k f A l c X u) (hb : Below u.heap.size u v) : EC w0 g x k f A l c X v :=
  ⟨h.arg.below hb, h.cpy.below hb, bs_below h.ba hb, bs_below h.bx hb, btr h.old hb⟩
end Go.Proofs.Ytepcikghhnfacaa
