/- The laws' markChunkS, markPacket, heldChunkS, heldPacket. -/
import Derived.Test.YtepcikghhnfacaaDoorPkT
namespace Go.Proofs.YtepcikghhnfacaaDoor
open Go.RowKit Go.Deep

/-- The count ahead of chunk j, counted from k on. -/
def kAt (k : Nat) (cs : List Chk) (j : Nat) : Nat := k + 2 * j + totB (cs.take j)
theorem kAt_zero (k : Nat) (cs : List Chk) : kAt k cs 0 = k := by simp [kAt, totB]
theorem kAt_succ (k : Nat) (cs : List Chk) (j : Nat) (hj : j < cs.length) : kAt k cs (j + 1) = kAt k cs j + 2 + cs[j].body.length := by
  rw [kAt, kAt, totB_take cs j hj]; omega
theorem totB_take_le (cs : List Chk) (j : Nat) : totB (cs.take j) ≤ totB cs := by
  have h : totB cs = totB (cs.take j) + totB (cs.drop j) := by
    have e : totB (cs.take j ++ cs.drop j) = totB (cs.take j) + totB (cs.drop j) := by
      unfold totB
      rw [List.map_append, List.sum_append]
    rw [List.take_append_drop] at e
    exact e
  omega
theorem kAt_le (k : Nat) (cs : List Chk) (j : Nat) (hj : j ≤ cs.length) : kAt k cs j ≤ k + 2 * cs.length + totB cs := by
  have := totB_take_le cs j
  unfold kAt; omega
/-- What is read behind the marks. -/
def markCs (k : Nat) (cs : List Chk) : List Chk := cs.mapIdx fun j x => ⟨((kAt k cs j : Nat) : Int), ((kAt k cs j + 1 : Nat) : Int), marks (kAt k cs j + 2) x.body.length⟩
theorem markCs_len (k : Nat) (cs : List Chk) : (markCs k cs).length = cs.length := by simp [markCs]
theorem Ob.remark {B C : Nat} {w w' : World} {A : Option Addr} {l m : List Int} (h : Ob B C w A l) (hw : Win B C w w') (hb : Bs w' A m) (hl : m.length = l.length) : Ob B C w' A m := by
  rcases h with h | ⟨b, off, h1, h2, h3, h4, h5⟩
  · rw [h] at hl; exact .inl (List.eq_nil_of_length_eq_zero hl)
  · rcases hb with hb | ⟨b', off', q1, q2, q3⟩
    · exact .inl hb
    · rw [h1] at q1
      simp only [Option.some.injEq, Addr.mk.injEq, and_true] at q1
      obtain ⟨rfl, rfl⟩ := q1
      exact .inr ⟨b, off, h1, h2, h3, Nat.le_trans h4 hw.size, fun j hj => ⟨q3 j hj, (hw.frozen ⟨b, off + j, none⟩ (by show b < _; omega)).trans (h5 j (by omega)).2⟩⟩
/-- The list while it is marked: j chunks are. -/
structure MarkC (w0 : World) (B C g o k : Nat) (cs : List Chk) (lo hi : Nat → Nat) (j : Nat) (W : World) : Prop where
  win : Win B C w0 W
  fz : ∀ t, W.frozen? ⟨g, t, none⟩ = false
  at_ : ∀ i (hl : i < cs.length), ∃ A c, (∃ v, W.cell? ⟨g, o + i * 3, none⟩ = some v) ∧ (∃ v, W.cell? ⟨g, o + i * 3 + 1, none⟩ = some v) ∧ W.cell? ⟨g, o + i * 3 + 2, none⟩ = some (.slice A cs[i].body.length c) ∧
    (j ≤ i → Ob (lo i) (hi i) W A cs[i].body) ∧ (i < j → W.cell? ⟨g, o + i * 3, none⟩ = some (.int .i64 ((kAt k cs i : Nat) : Int)) ∧ W.cell? ⟨g, o + i * 3 + 1, none⟩ = some (.int .i64 ((kAt k cs i + 1 : Nat) : Int)) ∧ Ob (lo i) (hi i) W A (marks (kAt k cs i + 2) cs[i].body.length))
theorem MarkC.cs {w0 W : World} {B C g o k : Nat} {cs : List Chk} {lo hi : Nat → Nat} (h : MarkC w0 B C g o k cs lo hi cs.length W) (hg : g < w0.heap.size) : Cs W (some ⟨g, o, none⟩) (markCs k cs) := by
  refine .inr ⟨g, o, rfl, Nat.lt_of_lt_of_le hg h.win.size, fun j hj => ?_⟩
  have hj' : j < cs.length := by rw [markCs_len] at hj; exact hj
  obtain ⟨A, c, _, _, c2, _, hd⟩ := h.at_ j hj'
  obtain ⟨c0, c1, ob⟩ := hd hj'
  refine ⟨A, c, Nat.lt_of_lt_of_le hg h.win.size, ?_, ?_, ?_, ?_⟩
  · rw [c0]; simp [markCs]
  · rw [c1]; simp [markCs]
  · rw [c2]; simp [markCs, marks_len]
  · simp only [markCs, List.getElem_mapIdx]; exact ob.bs
theorem MarkC.step {w0 W W3 : World} {B C g o k j : Nat} {cs : List Chk} {lo hi : Nat → Nat} (h : MarkC w0 B C g o k cs lo hi j W) (hj : j < cs.length) (hgB : B ≤ g) (hgC : g < C) (hC : C ≤ w0.heap.size)
    (hord : ∀ i j, i < j → j < cs.length → hi i ≤ lo j) (hbd : ∀ j, j < cs.length → B ≤ lo j ∧ hi j ≤ C ∧ (g < lo j ∨ hi j ≤ g))
    {A : Option Addr} {c : Nat} (hA : W.cell? ⟨g, o + j * 3 + 2, none⟩ = some (.slice A cs[j].body.length c)) (hO : Ob (lo j) (hi j) W A cs[j].body)
    (hw : Win (lo j) (hi j) ((W.setCell ⟨g, o + j * 3, none⟩ (.int .i64 ((kAt k cs j : Nat) : Int))).setCell ⟨g, o + j * 3 + 1, none⟩ (.int .i64 ((kAt k cs j + 1 : Nat) : Int))) W3)
    (hb : Bs W3 A (marks (kAt k cs j + 2) cs[j].body.length)) : MarkC w0 B C g o k cs lo hi (j + 1) W3 := by
  have e1 := win_set W g (o + j * 3) (.int .i64 ((kAt k cs j : Nat) : Int))
  have e2 := win_set (W.setCell ⟨g, o + j * 3, none⟩ (.int .i64 ((kAt k cs j : Nat) : Int))) g (o + j * 3 + 1) (.int .i64 ((kAt k cs j + 1 : Nat) : Int))
  obtain ⟨b1, b2, b3⟩ := hbd j hj
  have hs0 := h.win.size
  have hs1 := e1.size
  have hs2 := e2.size
  -- block g behind all
  have hc : ∀ x, W3.cell? ⟨g, x, none⟩ = ((W.setCell ⟨g, o + j * 3, none⟩ (.int .i64 ((kAt k cs j : Nat) : Int))).setCell ⟨g, o + j * 3 + 1, none⟩ (.int .i64 ((kAt k cs j + 1 : Nat) : Int))).cell? ⟨g, x, none⟩ := fun x => hw.cell (p := ⟨g, x, none⟩) (by show g < _; omega) b3
  have ho : ∀ x, x ≠ o + j * 3 → x ≠ o + j * 3 + 1 → W3.cell? ⟨g, x, none⟩ = W.cell? ⟨g, x, none⟩ := fun x h1 h2 => by
    rw [hc, World.cell?_setCell_other _ _ _ _ (fun e => by injection e with _ e2; omega), World.cell?_setCell_other _ _ _ _ (fun e => by injection e with _ e2; omega)]
  obtain ⟨_, _, ⟨v0, k0⟩, ⟨v1, k1⟩, _⟩ := h.at_ j hj
  have d0 : W3.cell? ⟨g, o + j * 3, none⟩ = some (.int .i64 ((kAt k cs j : Nat) : Int)) := by
    rw [hc, World.cell?_setCell_other _ _ _ _ (fun e => by injection e with _ e2; omega)]
    exact World.cell?_setCell_same _ _ _ k0
  have d1 : W3.cell? ⟨g, o + j * 3 + 1, none⟩ = some (.int .i64 ((kAt k cs j + 1 : Nat) : Int)) := by
    rw [hc]
    exact World.cell?_setCell_same _ _ _ ((World.cell?_setCell_other _ _ _ _ (fun e => by injection e with _ e2; omega)).trans k1)
  have up : ∀ {lo' hi' : Nat} {X : Option Addr} {l : List Int}, (g < lo' ∨ hi' ≤ g) → (hi' ≤ lo j ∨ hi j ≤ lo') → Ob lo' hi' W X l → Ob lo' hi' W3 X l := fun q1 q2 q3 =>
    ((q3.win e1 (by omega)).win e2 (by omega)).win hw (by omega)
  refine ⟨?_, fun t => ?_, fun i hi' => ?_⟩
  · refine h.win.trans ⟨hw.os, hw.tape, hw.output, Nat.le_trans (Nat.le_trans hs1 hs2) hw.size, fun x hx ho' => ?_, fun q hq => ?_⟩
    · rw [hw.block x (by omega) (by omega), e2.block x (by omega) (by omega), e1.block x hx (by omega)]
    · rw [hw.frozen q (by omega), e2.frozen q (by omega), e1.frozen q hq]
  · rw [hw.frozen ⟨g, t, none⟩ (by show g < _; omega), e2.frozen ⟨g, t, none⟩ (by show g < _; omega), e1.frozen ⟨g, t, none⟩ (by show g < _; omega)]
    exact h.fz t
  · by_cases e : i = j
    · subst e
      refine ⟨A, c, ⟨_, d0⟩, ⟨_, d1⟩, ?_, fun h' => by omega, fun _ => ⟨d0, d1, ?_⟩⟩
      · rw [ho _ (by omega) (by omega)]; exact hA
      · exact ((hO.win e1 (by omega)).win e2 (by omega)).remark hw hb (by rw [marks_len])
    · obtain ⟨A', c', ⟨v, q0⟩, ⟨v', q1⟩, q2, q3, q4⟩ := h.at_ i hi'
      obtain ⟨r1, r2, r3⟩ := hbd i hi'
      have hdis : hi i ≤ lo j ∨ hi j ≤ lo i := by
        rcases Nat.lt_or_ge i j with hlt | hge
        · exact .inl (hord i j hlt hj)
        · exact .inr (hord j i (by omega) hi')
      refine ⟨A', c', ⟨v, ?_⟩, ⟨v', ?_⟩, ?_, fun h' => up r3 hdis (q3 (by omega)), fun h' => ?_⟩
      · rw [ho _ (by omega) (by omega)]; exact q0
      · rw [ho _ (by omega) (by omega)]; exact q1
      · rw [ho _ (by omega) (by omega)]; exact q2
      · obtain ⟨s0, s1, s2⟩ := q4 (by omega)
        refine ⟨?_, ?_, up r3 hdis s2⟩
        · rw [ho _ (by omega) (by omega)]; exact s0
        · rw [ho _ (by omega) (by omega)]; exact s1
set_option maxRecDepth 100000 in
set_option maxHeartbeats 2000000 in
theorem markCs_any (B C : Nat) (P : Option Addr) (cs : List Chk) (c k : Nat) (w : World) (hP : OCs B C w P cs) (hn : (cs.length : Int) ≤ 2000000) (ht : (totB cs : Int) ≤ 2000000) (hk : k ≤ 2000000) :
    Calls Tryd.prog 72 #[.slice P cs.length c, .int .i64 k] w fun e w' => e = .returned (.int .i64 ((kAt k cs cs.length : Nat) : Int)) ∧ Win B C w w' ∧ Cs w' P (markCs k cs) := by
  have hP' : cs = [] ∨ 0 < cs.length ∧ OCs B C w P cs := by
    by_cases h0 : cs = []
    · exact .inl h0
    · exact .inr ⟨List.length_pos_iff.2 h0, hP⟩
  clear hP
  rcases hP' with rfl | ⟨hpos, h | ⟨g, o, lo, hi, rfl, h2, h3, h4, h5, h6⟩⟩
  · go_enter Tryd.func72, Tryd.ntmps72
    go_wp2
    go_loopw [1, 5] (fun v i wr => v = .int .i64 k ∧ i = .int .i64 0 ∧ wr = w) (fun _ _ _ => 0)
    case atStart => exact ⟨rfl, rfl, rfl⟩
    case round =>
      obtain ⟨rfl, rfl, rfl⟩ := hrel
      go_wp2
      go_ret
      exact ⟨by simp [kAt_zero], Win.refl _ _ _, .inl rfl⟩
  · rw [h] at hpos; simp at hpos
  · have M0 : MarkC w B C g o k cs lo hi 0 w := by
      refine ⟨Win.refl _ _ _, fun t => ?_, fun i hi' => ?_⟩
      · obtain ⟨_, _, _, _, _, _, _, _, fz, _⟩ := h6 0 hpos
        exact fz t
      · obtain ⟨_, _, _, A, c', c0, c1, c2, _, ob⟩ := h6 i hi'
        exact ⟨A, c', ⟨_, c0⟩, ⟨_, c1⟩, c2, fun _ => ob, fun h => by omega⟩
    have HM0 := hidH M0
    have HBD := hidH (fun j (hj : j < cs.length) => show B ≤ lo j ∧ hi j ≤ C ∧ (g < lo j ∨ hi j ≤ g) from ⟨(h6 j hj).1, (h6 j hj).2.1, (h6 j hj).2.2.1⟩)
    have HORD := hidH h5
    have HGB := hidH (And.intro h2 (And.intro h3 h4))
    have HKS := hidH (kAt_succ k cs)
    have HKL := hidH (kAt_le k cs)
    have hgw : g < w.heap.size := by omega
    clear h6 h5 M0 h2 h3 h4
    go_enter Tryd.func72, Tryd.ntmps72
    go_wp2
    go_loopw [1, 5] (fun v i wr => ∃ j : Nat, j ≤ cs.length ∧ v = .int .i64 ((kAt k cs j : Nat) : Int) ∧ i = .int .i64 j ∧ MarkC w B C g o k cs lo hi j wr) (fun _ i _ => cs.length - (intOf i).toNat)
    case atStart => exact ⟨0, Nat.zero_le _, by rw [kAt_zero], rfl, HM0.out⟩
    case round =>
      obtain ⟨j, hj, rfl, rfl, hM⟩ := hrel
      have hkl := HKL.out j hj
      by_cases hlt : j < cs.length
      · have hj0 : (0 : Int) ≤ (j : Int) := by omega
        have hj1 : (j : Int) < (cs.length : Int) := by omega
        obtain ⟨A, cA, ⟨v0, c0⟩, ⟨v1, c1⟩, c2, hO, _⟩ := hM.at_ j hlt
        have HO := hidH (hO (Nat.le_refl _))
        have f0 := hM.fz (o + j * 3)
        have f1 := hM.fz (o + j * 3 + 1)
        have HM := hidH hM
        have HC2 := hidH c2
        have hbl := totB_le cs cs[j] (List.getElem_mem hlt)
        have HS := hidH (HKS.out j hlt)
        have hgr : g < wr.heap.size := Nat.lt_of_lt_of_le hgw hM.win.size
        have HST := hidH (fun (W3 : World) hw hb => hM.step (W3 := W3) hlt HGB.out.1 HGB.out.2.1 HGB.out.2.2 HORD.out HBD.out c2 HO.out hw hb)
        have HBJ := hidH (HBD.out j hlt)
        obtain ⟨y, hy⟩ : ∃ y, kAt k cs j = y := ⟨_, rfl⟩
        rw [hy] at hkl HST HS ⊢
        have hy0 : (y : Int) ≤ 20000000 := by omega
        have hO2 := hidH (fun (a b : Value) => (HO.out.win (win_set wr g (o + j * 3) a) (by have := HBJ.out; omega)).win (win_set _ g (o + j * 3 + 1) b) (by have := HBJ.out; omega))
        have HBL := hidH hbl
        clear hM hO hbl hkl hy
        go_wp2_with fail
        rw [show ((y : Int) + 1 + 1) = ((y + 2 : Nat) : Int) by omega]
        refine (markB_any (lo j) (hi j) A cs[j].body cA (y + 2) _ (hO2.out _ _) (by have := HBL.out; omega) (by have := HBL.out; omega)).mono ?_
        rintro e w3 ⟨rfl, hw3, hb3⟩
        have HM3 := hidH (HST.out w3 hw3 hb3)
        clear hw3 hb3 HST c0 c1 c2 f0 f1 hO2
        rw [show y + 2 + cs[j].body.length = kAt k cs (j + 1) from HS.out.symm]
        go_wp2
        go_roundw
        case rel => exact ⟨j + 1, by omega, rfl, by go_num, HM3.out⟩
        case measure => simp [intOf]; omega
      · obtain rfl : j = cs.length := by omega
        have HM := hidH hM.win
        have HD := hidH (hM.cs hgw)
        clear hM hlt hj hkl
        go_wp2
        go_ret
        exact ⟨rfl, HM.out, HD.out⟩
set_option maxHeartbeats 1000000 in
theorem markPk_any (B C : Nat) (tag : Int) (P : Option Addr) (cs : List Chk) (c k : Nat) (w : World) (hP : OCs B C w P cs) (hn : (cs.length : Int) ≤ 2000000) (ht : (totB cs : Int) ≤ 2000000) (hk : k ≤ 2000000) :
    Calls Tryd.prog 53 #[pkV tag P cs.length c, .int .i64 k] w fun e w' => e = .returned (.int .i64 ((kAt k cs cs.length : Nat) : Int)) ∧ Win B C w w' ∧ Cs w' P (markCs k cs) := by
  have B1 := bal (Below.refl w.heap.size w) (.cells #[.int .i64 tag, .slice P cs.length c] 26)
  have HS := hidH (markCs_any B C P cs c k _ (hP.below B1) hn ht hk)
  have HB := hidH B1
  unfold pkV
  clear hP B1
  go_enter Tryd.func53, Tryd.ntmps53
  go_wp2_with fail
  refine HS.out.mono ?_
  rintro e w' ⟨rfl, hw, hc⟩
  have HW := hidH ((Win.of_below HB.out).trans hw)
  have HC := hidH hc
  clear hw hc
  go_wp2
  go_ret
  exact ⟨rfl, HW.out, HC.out⟩
end Go.Proofs.YtepcikghhnfacaaDoor
