/- Chapter 8: the program's wordAfter, follows, areWhole. (WRITTEN BY tools/joini8.py) -/
import Derived.Test.YtbfbfimmhpijfaaS8J
import Derived.Test.YtbfbfimmhpijfaaS8AR
namespace Go.Proofs.Ytbfbfimmhpijfaa
open Go.RowKit Go.Deep Go.BigFrame

set_option maxHeartbeats 400000 in
theorem wa_any (n : Int) (w : World) (h1 : 0 ≤ n) (h2 : n ≤ 4294967295) : Calls Try.prog 47 #[.int .i64 n] w fun e w' => e = .returned (.int .i64 ((n + 1) % 4294967296)) ∧ w' = w := by
  go_enter Try.func47, Try.ntmps47
  go_wp2
  go_ret
  exact ⟨rfl, rfl⟩
def foll (x y : DataM) : Prop := x.Tsn = (y.Tsn + 1) % 4294967296 ∧ x.Stream = y.Stream ∧ x.Seq = y.Seq ∧ x.Unordered = y.Unordered
def EqP (P : Prop) (w : World) (e : Ending) (w' : World) : Prop := ∃ b : Bool, e = .returned (.bool b) ∧ (b = true ↔ P) ∧ Below w.heap.size w w'
open Classical in
noncomputable def propB (P : Prop) : Bool := decide P
theorem propB_iff (P : Prop) : propB P = true ↔ P := by simp [propB]
theorem EqP.bol {P : Prop} {w : World} {e : Ending} {w' : World} (h : EqP P w e w') : e = .returned (.bool (propB P)) ∧ Below w.heap.size w w' := by
  obtain ⟨b, rfl, h1, h2⟩ := h
  refine ⟨?_, h2⟩
  rw [show b = propB P by rw [Bool.eq_iff_iff, h1, propB_iff]]
set_option maxRecDepth 100000 in
set_option maxHeartbeats 4000000 in
theorem foll_any (x y : DataM) (A B : Option Addr) (ca cb : Nat) (w : World) (t0 : 0 ≤ y.Tsn) (t1 : y.Tsn ≤ 4294967295) :
    Calls Try.prog 86 #[.agg #[.int .i64 x.Tsn, .int .i64 x.Stream, .int .i64 x.Seq, .bool x.First, .bool x.Last, .bool x.Unordered, .slice A x.Piece.length ca], .agg #[.int .i64 y.Tsn, .int .i64 y.Stream, .int .i64 y.Seq, .bool y.First, .bool y.Last, .bool y.Unordered, .slice B y.Piece.length cb]] w (EqP (foll x y) w) := by
  have HAD := hidH (fun (u : World) => wa_any y.Tsn u t0 t1)
  have B2 := hidH (bal (bal (Below.refl w.heap.size w) (.cells #[.int .i64 x.Tsn, .int .i64 x.Stream, .int .i64 x.Seq, .bool x.First, .bool x.Last, .bool x.Unordered, .slice A x.Piece.length ca] 38)) (.cells #[.int .i64 y.Tsn, .int .i64 y.Stream, .int .i64 y.Seq, .bool y.First, .bool y.Last, .bool y.Unordered, .slice B y.Piece.length cb] 38))
  have HN := hidH (fun (h : ¬ (x.Tsn = (y.Tsn + 1) % 4294967296 ∧ x.Stream = y.Stream ∧ x.Seq = y.Seq ∧ x.Unordered = y.Unordered)) => show ¬ foll x y from h)
  clear t0 t1
  go_enter Try.func86, Try.ntmps86
  go_wp2_with fail
  try simp only [List.append]
  refine wp_region_quiet_lit (by kernel_rfl) (by kernel_rfl) ?_
  by_cases e0 : x.Tsn = (y.Tsn + 1) % 4294967296
  case neg =>
    have HXY := hidH (HN.out (fun h => e0 h.1))
    have f0 : (x.Tsn == (y.Tsn + 1) % 4294967296) = false := by rw [beq_eq_false_iff_ne]; exact e0
    clear HN e0
    repeat (go_big_quiet_step ((go_at_call 47; exact Calls.quiet_of_same (HAD.out _))))
    refine wpQuiet_nil ?_
    intro _ hw'
    obtain ⟨nq, hw''⟩ := hw'
    subst hw''
    go_wp2
    go_ret
    exact ⟨false, rfl, ⟨(fun h => by cases h), fun h => absurd h HXY.out⟩, below_drewN B2.out _⟩
  have f0 : (x.Tsn == (y.Tsn + 1) % 4294967296) = true := by rw [beq_iff_eq]; exact e0
  by_cases e1 : x.Stream = y.Stream
  case neg =>
    have HXY := hidH (HN.out (fun h => e1 h.2.1))
    have f1 : (x.Stream == y.Stream) = false := by rw [beq_eq_false_iff_ne]; exact e1
    clear HN e0 e1
    repeat (go_big_quiet_step ((go_at_call 47; exact Calls.quiet_of_same (HAD.out _))))
    refine wpQuiet_nil ?_
    intro _ hw'
    obtain ⟨nq, hw''⟩ := hw'
    subst hw''
    go_wp2
    go_ret
    exact ⟨false, rfl, ⟨(fun h => by cases h), fun h => absurd h HXY.out⟩, below_drewN B2.out _⟩
  have f1 : (x.Stream == y.Stream) = true := by rw [beq_iff_eq]; exact e1
  by_cases e2 : x.Seq = y.Seq
  case neg =>
    have HXY := hidH (HN.out (fun h => e2 h.2.2.1))
    have f2 : (x.Seq == y.Seq) = false := by rw [beq_eq_false_iff_ne]; exact e2
    clear HN e0 e1 e2
    repeat (go_big_quiet_step ((go_at_call 47; exact Calls.quiet_of_same (HAD.out _))))
    refine wpQuiet_nil ?_
    intro _ hw'
    obtain ⟨nq, hw''⟩ := hw'
    subst hw''
    go_wp2
    go_ret
    exact ⟨false, rfl, ⟨(fun h => by cases h), fun h => absurd h HXY.out⟩, below_drewN B2.out _⟩
  have f2 : (x.Seq == y.Seq) = true := by rw [beq_iff_eq]; exact e2
  have HXY := hidH (fun (h : x.Unordered = y.Unordered) => show foll x y from ⟨e0, e1, e2, h⟩)
  have HNY := hidH (fun (h : ¬ x.Unordered = y.Unordered) => HN.out (fun z => h z.2.2.2))
  clear HN e0 e1 e2
  obtain ⟨p, hp⟩ : ∃ p, x.Unordered = p := ⟨_, rfl⟩
  obtain ⟨z, hz⟩ : ∃ z, y.Unordered = z := ⟨_, rfl⟩
  simp only [hp, hz] at HXY HNY B2 ⊢
  have HP := hidH hp
  clear hp hz
  cases p <;> cases z
  · repeat (go_big_quiet_step ((go_at_call 47; exact Calls.quiet_of_same (HAD.out _))))
    refine wpQuiet_nil ?_
    intro _ hw'
    obtain ⟨nq, hw''⟩ := hw'
    subst hw''
    go_wp2
    go_ret
    exact ⟨true, rfl, ⟨fun _ => HXY.out (by simp), fun _ => rfl⟩, below_drewN B2.out _⟩
  · repeat (go_big_quiet_step ((go_at_call 47; exact Calls.quiet_of_same (HAD.out _))))
    refine wpQuiet_nil ?_
    intro _ hw'
    obtain ⟨nq, hw''⟩ := hw'
    subst hw''
    go_wp2
    go_ret
    exact ⟨false, rfl, ⟨(fun h => by cases h), fun h => absurd h (HNY.out (by simp))⟩, below_drewN B2.out _⟩
  · repeat (go_big_quiet_step ((go_at_call 47; exact Calls.quiet_of_same (HAD.out _))))
    refine wpQuiet_nil ?_
    intro _ hw'
    obtain ⟨nq, hw''⟩ := hw'
    subst hw''
    go_wp2
    go_ret
    exact ⟨false, rfl, ⟨(fun h => by cases h), fun h => absurd h (HNY.out (by simp))⟩, below_drewN B2.out _⟩
  · repeat (go_big_quiet_step ((go_at_call 47; exact Calls.quiet_of_same (HAD.out _))))
    refine wpQuiet_nil ?_
    intro _ hw'
    obtain ⟨nq, hw''⟩ := hw'
    subst hw''
    go_wp2
    go_ret
    exact ⟨true, rfl, ⟨fun _ => HXY.out (by simp), fun _ => rfl⟩, below_drewN B2.out _⟩
/-- What areWhole looks at, piece by piece. -/
def okAt (r : List DataM) (k j : Nat) : Prop := (r.getD j dat0).First = decide (j = 0) ∧ (r.getD j dat0).Last = decide (j = k) ∧ (0 < j → foll (r.getD j dat0) (r.getD (j - 1) dat0))
theorem whole_ok {r : List DataM} {k : Nat} (hk : r.length = k + 1) : whole r ↔ ∀ j, j < k + 1 → okAt r k j := by
  constructor
  · rintro ⟨h0, h1, h2⟩ j hj
    rw [hk, Nat.add_sub_cancel] at h1
    refine ⟨?_, ?_, fun hp => ?_⟩
    · by_cases e : j = 0
      · subst e; simpa using h0
      · obtain ⟨i, rfl⟩ : ∃ i, j = i + 1 := ⟨j - 1, by omega⟩
        rw [(h2 i (by omega)).2.1]; simp
    · by_cases e : j = k
      · subst e; simpa using h1
      · rw [(h2 j (by omega)).1]; simp [e]
    · obtain ⟨i, rfl⟩ : ∃ i, j = i + 1 := ⟨j - 1, by omega⟩
      obtain ⟨_, _, a, b, c, d⟩ := h2 i (by omega)
      rw [Nat.add_sub_cancel]
      exact ⟨d, a.symm, b.symm, c.symm⟩
  · intro h
    refine ⟨by simpa using (h 0 (by omega)).1, by rw [hk, Nat.add_sub_cancel]; simpa using (h k (by omega)).2.1, fun i hi => ?_⟩
    have h1 := h i (by omega)
    have h2 := h (i + 1) (by omega)
    obtain ⟨d, a, b, c⟩ := h2.2.2 (by omega)
    rw [Nat.add_sub_cancel] at d a b c
    refine ⟨?_, by simpa using h2.1, a.symm, b.symm, c.symm, d⟩
    have e : ¬ i = k := by omega
    rw [h1.2.1]; simp [e]
set_option maxRecDepth 100000 in
set_option maxHeartbeats 8000000 in
theorem areWhole_any (r : List DataM) (k : Nat) (v : Value) (u : World) (h : Rd u (st_Data r) v) (hk : r.length = k + 1) (hkm : k ≤ 100) (hall : ∀ x ∈ r, pdF x = 0) : Calls Try.prog 82 #[v] u (EqP (whole r) u) := by
  obtain ⟨ga, oa, c, e, hga, E0⟩ := el_Data h (j := 0) (by omega)
  rw [hk] at e
  subst e
  have HEL := hidH (fun (j : Nat) (hj : j < r.length) (W : World) (hW : Below u.heap.size u W) => show ∃ x : DataM, r.getD j dat0 = x ∧ 0 ≤ x.Tsn ∧ x.Tsn ≤ 4294967295 ∧ ∃ A cA, W.cell? ⟨ga, oa + j * 7, none⟩ = some (.int .i64 x.Tsn) ∧ W.cell? ⟨ga, oa + j * 7 + 1, none⟩ = some (.int .i64 x.Stream) ∧ W.cell? ⟨ga, oa + j * 7 + 2, none⟩ = some (.int .i64 x.Seq) ∧ W.cell? ⟨ga, oa + j * 7 + 3, none⟩ = some (.bool x.First) ∧ W.cell? ⟨ga, oa + j * 7 + 4, none⟩ = some (.bool x.Last) ∧ W.cell? ⟨ga, oa + j * 7 + 5, none⟩ = some (.bool x.Unordered) ∧ W.cell? ⟨ga, oa + j * 7 + 6, none⟩ = some (.slice A x.Piece.length cA) by
    obtain ⟨g', o', c', e, _, E⟩ := el_Data h hj
    injection e with e1 e2 e3
    injection e1 with e1
    injection e1 with e1 e4
    subst e1 e4
    obtain ⟨A, cA, z0, z1, z2, z3, z4, z5, z6, _⟩ := mem_Data (RdL.below hW _ hga E)
    have z := (pdF_zero (hall r[j] (List.getElem_mem hj))).1
    exact ⟨r[j], getD_at hj, z.1, z.2, A, cA, z0, z1, z2, z3, z4, z5, z6⟩)
  have HWO := hidH (whole_ok hk)
  have HK := hidH hk
  clear h E0 hall hk
  go_enter Try.func82, Try.ntmps82
  go_wp2
  go_loopw [7] (fun i wr => ∃ j : Nat, j ≤ k + 1 ∧ i = .int .i64 j ∧ (∀ t, t < j → okAt r k t) ∧ Below u.heap.size u wr) (fun i _ => k + 1 - (intOf i).toNat)
  case atStart => exact ⟨0, by omega, rfl, fun t ht => by omega, Below.refl _ _⟩
  case round =>
    obtain ⟨j, hj, rfl, hOk, hB⟩ := hrel
    by_cases hlt : j < k + 1
    case neg =>
      obtain rfl : j = k + 1 := by omega
      have HW := hidH (HWO.out.2 hOk)
      have HB := hidH hB
      clear hOk hB hlt hj
      go_wp2
      go_ret
      exact ⟨true, rfl, ⟨fun _ => HW.out, fun _ => rfl⟩, HB.out⟩
    have hj0 : (0 : Int) ≤ (j : Int) := by omega
    have hj1 : (j : Int) < (k : Int) + 1 := by omega
    obtain ⟨x, hx, _, _, A, cA, c0, c1, c2, c3, c4, c5, c6⟩ := HEL.out j (by have := HK.out; omega) wr hB
    have HOK := hidH (fun (t : okAt r k j) => show ∀ t, t < j + 1 → okAt r k t from fun i hi => by
      by_cases e : i = j
      · subst e; exact t
      · exact hOk i (by omega))
    have HNO := hidH (fun (t : ¬ okAt r k j) => show ¬ whole r from fun hw => t (HWO.out.1 hw j hlt))
    have HDEF := hidH (show okAt r k j ↔ x.First = decide (j = 0) ∧ x.Last = decide (j = k) ∧ (0 < j → foll x (r.getD (j - 1) dat0)) by rw [← hx]; exact Iff.rfl)
    have B1 := hidH (btr hB (bal (Below.refl wr.heap.size wr) (.cells #[.int .i64 x.Tsn, .int .i64 x.Stream, .int .i64 x.Seq, .bool x.First, .bool x.Last, .bool x.Unordered, .slice A x.Piece.length cA] 38)))
    clear hOk hx
    obtain ⟨p, hp⟩ : ∃ p, x.First = p := ⟨_, rfl⟩
    obtain ⟨z, hz⟩ : ∃ z, x.Last = z := ⟨_, rfl⟩
    have HPZ := hidH (And.intro hp hz)
    rw [hp] at c3
    rw [hz] at c4
    by_cases hj00 : j = 0
    · subst hj00
      simp only [hp, hz] at B1
      simp only [Nat.zero_mul, Nat.add_zero] at c0 c1 c2 c3 c4 c5 c6
      have HNF := hidH (fun (t : p = false) => HNO.out (fun o => by have := (HDEF.out.1 o).1; rw [HPZ.out.1, t] at this; simp at this))
      cases p
      case false =>
        have HX := hidH (HNF.out rfl)
        clear hp hz HNO HOK HDEF HPZ
        go_wp2
        go_ret
        exact ⟨false, rfl, ⟨(fun h => by cases h), fun h => absurd h HX.out⟩, B1.out⟩
      by_cases hkk : (0 : Nat) = k
      · have hq : ((0 : Int) == (k : Int)) = true := by rw [beq_iff_eq]; omega
        cases z
        case false =>
          have HX := hidH (HNO.out (fun o => by have := (HDEF.out.1 o).2.1; rw [HPZ.out.2] at this; simp at this; omega))
          clear hp hz HNO HOK HDEF HPZ HNF hkk
          go_wp2
          go_ret
          exact ⟨false, rfl, ⟨(fun h => by cases h), fun h => absurd h HX.out⟩, B1.out⟩
        have HQ := hidH (show (0 : Nat) = k from hkk)
        clear hkk
        have HY := hidH (HOK.out (HDEF.out.2 ⟨by rw [HPZ.out.1]; simp, by rw [HPZ.out.2]; simp [HQ.out], fun h => by omega⟩))
        clear hp hz HNO HOK HDEF HPZ HNF
        go_wp2
        go_quiet (fail)
        go_wp2
        exact ⟨⟨1, by omega, by go_num, HY.out, below_drewN B1.out _⟩, by simp [intOf]⟩
      · have hq : ((0 : Int) == (k : Int)) = false := by rw [beq_eq_false_iff_ne]; omega
        cases z
        case true =>
          have HX := hidH (HNO.out (fun o => by have := (HDEF.out.1 o).2.1; rw [HPZ.out.2] at this; simp at this; omega))
          clear hp hz HNO HOK HDEF HPZ HNF hkk
          go_wp2
          go_ret
          exact ⟨false, rfl, ⟨(fun h => by cases h), fun h => absurd h HX.out⟩, B1.out⟩
        have HQ := hidH (show ¬ (0 : Nat) = k from hkk)
        clear hkk
        have HY := hidH (HOK.out (HDEF.out.2 ⟨by rw [HPZ.out.1]; simp, by rw [HPZ.out.2]; simp [HQ.out], fun h => by omega⟩))
        clear hp hz HNO HOK HDEF HPZ HNF
        go_wp2
        go_quiet (fail)
        go_wp2
        exact ⟨⟨1, by omega, by go_num, HY.out, below_drewN B1.out _⟩, by simp [intOf]⟩
    · obtain ⟨i, rfl⟩ : ∃ i, j = i + 1 := ⟨j - 1, by omega⟩
      simp only [hp, hz] at B1
      rw [show ((i + 1 : Nat) : Int) = (i : Int) + 1 by omega] at hj0 hj1 ⊢
      have hi0 : (0 : Int) ≤ (i : Int) := by omega
      have hi1 : (i : Int) < (k : Int) + 1 := by omega
      have hgt : (0 : Int) < (i : Int) + 1 := by omega
      have hp0 : ((i : Int) + 1 == 0) = false := by rw [beq_eq_false_iff_ne]; omega
      have hne0 : ¬ (i + 1 = 0) := by omega
      cases p
      case true =>
        have HX := hidH (HNO.out (fun o => by have := (HDEF.out.1 o).1; rw [HPZ.out.1] at this; simp at this))
        clear hp hz HNO HOK HDEF HPZ
        go_wp2
        go_ret
        exact ⟨false, rfl, ⟨(fun h => by cases h), fun h => absurd h HX.out⟩, B1.out⟩
      by_cases hkk : i + 1 = k
      · have hq : ((i : Int) + 1 == (k : Int)) = true := by rw [beq_iff_eq]; omega
        cases z
        case false =>
          have HX := hidH (HNO.out (fun o => by have := (HDEF.out.1 o).2.1; rw [HPZ.out.2] at this; simp [hkk] at this))
          clear hp hz HNO HOK HDEF HPZ hkk
          go_wp2
          go_ret
          exact ⟨false, rfl, ⟨(fun h => by cases h), fun h => absurd h HX.out⟩, B1.out⟩
        have HQ := hidH hkk
        obtain ⟨y, hy, t0, t1, B, cB, d0, d1, d2, d3, d4, d5, d6⟩ := HEL.out i (by have := HK.out; omega) _ B1.out
        have HFD := hidH (fun (o : okAt r k (i + 1)) => show foll x y by have := (HDEF.out.1 o).2.2 (by omega); rwa [Nat.add_sub_cancel, hy] at this)
        have HFU := hidH (fun (o : foll x y) => HDEF.out.2 ⟨by rw [HPZ.out.1]; simp, by rw [HPZ.out.2]; simp [HQ.out], fun _ => by rw [Nat.add_sub_cancel, hy]; exact o⟩)
        have HF := hidH (fun W => (foll_any x y A B cA cB W t0 t1).mono (fun _ _ h => h.bol))
        rw [HPZ.out.1, HPZ.out.2] at HF
        clear hy t0 t1 hp hz
        clear hkk
        have KG := Blk.new wr 38 #[.int .i64 x.Tsn, .int .i64 x.Stream, .int .i64 x.Seq, .bool false, .bool true, .bool x.Unordered, .slice A x.Piece.length cA]
        have hga2 : ga < (wr.alloc (.cells #[.int .i64 x.Tsn, .int .i64 x.Stream, .int .i64 x.Seq, .bool false, .bool true, .bool x.Unordered, .slice A x.Piece.length cA] 38)).heap.size := by have := hB.size; rw [World.size_alloc]; omega
        have HKG := hidH KG
        have him : (i : Int) ≤ 1000 := by omega
        clear KG
        go_wp2_with fail
        refine wp_region_any (by kernel_rfl) ?_
        refine regAW _ _ _ _ _ _ _ _ _ _ _ _ _ _ _ _ _ _ _ _ _ _ _ _ _ _ _ _ _ _ _ _ _ _ _ _ _ _ x y false true (propB (foll x y)) A B cA cB wr.heap.size ga oa k i c hga2 d0 d1 d2 d3 d4 d5 d6 hi0 hi1 hgt him HF.out (by kernel_rfl) (by kernel_rfl) (by kernel_rfl) rfl (HKG.out.below (Below.refl _ _).drew) (Below.refl _ _).drew ?_
        intros
        rename_i w5 b5
        have HBB := hidH (btr B1.out b5)
        obtain ⟨b, hb⟩ : ∃ b, propB (foll x y) = b := ⟨_, rfl⟩
        have HV := hidH (propB_iff (foll x y))
        simp only [hb] at HV ⊢
        clear hb b5 hga2
        cases b
        · have HX := hidH (HNO.out (fun o => by have := HV.out.2 (HFD.out o); cases this))
          clear HNO HOK HDEF HPZ HV HFD
          go_wp2
          go_ret
          exact ⟨false, rfl, ⟨(fun h => by cases h), fun h => absurd h HX.out⟩, HBB.out⟩
        · have HY := hidH (HOK.out (HFU.out (HV.out.1 rfl)))
          clear HNO HOK HDEF HPZ HV HFD HFU
          go_wp2
          go_roundw
          case rel => exact ⟨i + 1 + 1, by omega, by go_num, HY.out, HBB.out⟩
          case measure => simp [intOf]; omega
      · have hq : ((i : Int) + 1 == (k : Int)) = false := by rw [beq_eq_false_iff_ne]; omega
        cases z
        case true =>
          have HX := hidH (HNO.out (fun o => by have := (HDEF.out.1 o).2.1; rw [HPZ.out.2] at this; simp [hkk] at this))
          clear hp hz HNO HOK HDEF HPZ hkk
          go_wp2
          go_ret
          exact ⟨false, rfl, ⟨(fun h => by cases h), fun h => absurd h HX.out⟩, B1.out⟩
        have HQ := hidH hkk
        obtain ⟨y, hy, t0, t1, B, cB, d0, d1, d2, d3, d4, d5, d6⟩ := HEL.out i (by have := HK.out; omega) _ B1.out
        have HFD := hidH (fun (o : okAt r k (i + 1)) => show foll x y by have := (HDEF.out.1 o).2.2 (by omega); rwa [Nat.add_sub_cancel, hy] at this)
        have HFU := hidH (fun (o : foll x y) => HDEF.out.2 ⟨by rw [HPZ.out.1]; simp, by rw [HPZ.out.2]; simp [HQ.out], fun _ => by rw [Nat.add_sub_cancel, hy]; exact o⟩)
        have HF := hidH (fun W => (foll_any x y A B cA cB W t0 t1).mono (fun _ _ h => h.bol))
        rw [HPZ.out.1, HPZ.out.2] at HF
        clear hy t0 t1 hp hz
        clear hkk
        have KG := Blk.new wr 38 #[.int .i64 x.Tsn, .int .i64 x.Stream, .int .i64 x.Seq, .bool false, .bool false, .bool x.Unordered, .slice A x.Piece.length cA]
        have hga2 : ga < (wr.alloc (.cells #[.int .i64 x.Tsn, .int .i64 x.Stream, .int .i64 x.Seq, .bool false, .bool false, .bool x.Unordered, .slice A x.Piece.length cA] 38)).heap.size := by have := hB.size; rw [World.size_alloc]; omega
        have HKG := hidH KG
        have him : (i : Int) ≤ 1000 := by omega
        clear KG
        go_wp2_with fail
        refine wp_region_any (by kernel_rfl) ?_
        refine regAW _ _ _ _ _ _ _ _ _ _ _ _ _ _ _ _ _ _ _ _ _ _ _ _ _ _ _ _ _ _ _ _ _ _ _ _ _ _ x y false false (propB (foll x y)) A B cA cB wr.heap.size ga oa k i c hga2 d0 d1 d2 d3 d4 d5 d6 hi0 hi1 hgt him HF.out (by kernel_rfl) (by kernel_rfl) (by kernel_rfl) rfl (HKG.out.below (Below.refl _ _).drew) (Below.refl _ _).drew ?_
        intros
        rename_i w5 b5
        have HBB := hidH (btr B1.out b5)
        obtain ⟨b, hb⟩ : ∃ b, propB (foll x y) = b := ⟨_, rfl⟩
        have HV := hidH (propB_iff (foll x y))
        simp only [hb] at HV ⊢
        clear hb b5 hga2
        cases b
        · have HX := hidH (HNO.out (fun o => by have := HV.out.2 (HFD.out o); cases this))
          clear HNO HOK HDEF HPZ HV HFD
          go_wp2
          go_ret
          exact ⟨false, rfl, ⟨(fun h => by cases h), fun h => absurd h HX.out⟩, HBB.out⟩
        · have HY := hidH (HOK.out (HFU.out (HV.out.1 rfl)))
          clear HNO HOK HDEF HPZ HV HFD HFU
          go_wp2
          go_roundw
          case rel => exact ⟨i + 1 + 1, by omega, by go_num, HY.out, HBB.out⟩
          case measure => simp [intOf]; omega
end Go.Proofs.Ytbfbfimmhpijfaa
