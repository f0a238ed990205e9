/- Chapter 8: the model's l8Fits. (WRITTEN BY tools/fits8.py) -/
import Derived.Test.YthljdikcpdokdaaNa5
import Derived.Test.YthljdikcpdokdaaNb1
import Derived.BigQuiet
namespace Go.Proofs.Ythljdikcpdokdaa
open Go.RowKit Go.Deep Go.BigFrame

theorem RdL.of_at {w : World} : ∀ {xs : List V} {g o : Nat}, (∀ k x, xs[k]? = some x → ∃ u, w.cell? ⟨g, o + k, none⟩ = some u ∧ Rd w x u) → RdL w xs g o
  | [], _, _, _ => by unfold RdL; trivial
  | x :: xs, g, o, h => by
    unfold RdL
    refine ⟨by simpa using h 0 x rfl, RdL.of_at (fun k y hy => ?_)⟩
    have := h (k + 1) y (by simpa using hy)
    rwa [show o + (k + 1) = o + 1 + k by omega] at this
theorem el_Data {w : World} {r : List DataM} {v : Value} (h : Rd w (st_Data r) v) {j : Nat} (hj : j < r.length) :
    ∃ g o c, v = .slice (some ⟨g, o, none⟩) r.length c ∧ g < w.heap.size ∧ RdL w r[j].vs g (o + j * 7) := by
  obtain ⟨g, o, c, e, hg, R⟩ := Rd.row (f := DataM.vs) (W := 7) (fun _ => rfl) h hj
  exact ⟨g, o, c, e, hg, RdL.of_at R⟩
open Classical in
noncomputable def fitsB (x y : DataM) : Bool := decide (fits x y)
theorem fitsB_yes {x y : DataM} (h : fits x y) : fitsB x y = true := by simp [fitsB, h]
theorem fitsB_no {x y : DataM} (h : ¬ fits x y) : fitsB x y = false := by simp [fitsB, h]
theorem fitsB_iff {x y : DataM} : fitsB x y = true ↔ fits x y := by simp [fitsB]
set_option maxRecDepth 100000 in
set_option maxHeartbeats 4000000 in
theorem fits_any (x y : DataM) (gx ox gy oy : Nat) (w : World) (hx : RdL w x.vs gx ox) (hy : RdL w y.vs gy oy) (t0 : 0 ≤ x.Tsn) (t1 : x.Tsn ≤ 4294967295) :
    Calls Try.prog 192 #[.pointer (some ⟨gx, ox, none⟩), .pointer (some ⟨gy, oy, none⟩)] w fun e w' => e = .returned (.bool (fitsB x y)) ∧ ∃ m, w' = w.drewN m := by
  obtain ⟨A, ca, c0, c1, c2, c3, c4, c5, c6, hA⟩ := mem_Data hx
  obtain ⟨B, cb, d0, d1, d2, d3, d4, d5, d6, hB⟩ := mem_Data hy
  have HN := hidH (fun (h : ¬ (x.Last = false ∧ y.First = false ∧ x.Stream = y.Stream ∧ x.Seq = y.Seq ∧ x.Unordered = y.Unordered ∧ y.Tsn = (x.Tsn + 1) % 4294967296)) => fitsB_no (x := x) (y := y) h)
  have HY := hidH (fun (h : x.Last = false ∧ y.First = false ∧ x.Stream = y.Stream ∧ x.Seq = y.Seq ∧ x.Unordered = y.Unordered ∧ y.Tsn = (x.Tsn + 1) % 4294967296) => fitsB_yes (x := x) (y := y) h)
  have HAD := hidH (fun (u : World) => (l1Add_any x.Tsn 1 u t0 t1 (by omega) (by omega)).mono (fun e w' h => And.intro h.1 (show w' = u from h.2.symm)))
  clear hx hy hA hB t0 t1 c3 c6 d4 d6
  go_enter Try.func192, Try.ntmps192
  go_wp2_with fail
  try simp only [List.append]
  refine wp_region_quiet_lit (by kernel_rfl) (by kernel_rfl) ?_
  by_cases e0 : x.Last = false
  case neg =>
    have HXY := hidH (HN.out (fun h => e0 h.1))
    rw [show x.Last = true by simpa using e0] at c4
    clear HN HY e0
    repeat (go_big_quiet_step ((go_at_call 69; exact Calls.quiet_of_same (HAD.out _))))
    refine wpQuiet_nil ?_
    intro _ hw'
    obtain ⟨nq, hw''⟩ := hw'
    subst hw''
    go_wp2
    go_ret
    exact ⟨by rw [HXY.out]; rfl, _, rfl⟩
  rw [e0] at c4
  by_cases e1 : y.First = false
  case neg =>
    have HXY := hidH (HN.out (fun h => e1 h.2.1))
    rw [show y.First = true by simpa using e1] at d3
    clear HN HY e0 e1
    repeat (go_big_quiet_step ((go_at_call 69; exact Calls.quiet_of_same (HAD.out _))))
    refine wpQuiet_nil ?_
    intro _ hw'
    obtain ⟨nq, hw''⟩ := hw'
    subst hw''
    go_wp2
    go_ret
    exact ⟨by rw [HXY.out]; rfl, _, rfl⟩
  rw [e1] at d3
  by_cases e2 : x.Stream = y.Stream
  case neg =>
    have HXY := hidH (HN.out (fun h => e2 h.2.2.1))
    have f2 : (x.Stream == y.Stream) = false := by rw [beq_eq_false_iff_ne]; exact e2
    clear HN HY e0 e1 e2
    repeat (go_big_quiet_step ((go_at_call 69; exact Calls.quiet_of_same (HAD.out _))))
    refine wpQuiet_nil ?_
    intro _ hw'
    obtain ⟨nq, hw''⟩ := hw'
    subst hw''
    go_wp2
    go_ret
    exact ⟨by rw [HXY.out]; rfl, _, rfl⟩
  have f2 : (x.Stream == y.Stream) = true := by rw [beq_iff_eq]; exact e2
  by_cases e3 : x.Seq = y.Seq
  case neg =>
    have HXY := hidH (HN.out (fun h => e3 h.2.2.2.1))
    have f3 : (x.Seq == y.Seq) = false := by rw [beq_eq_false_iff_ne]; exact e3
    clear HN HY e0 e1 e2 e3
    repeat (go_big_quiet_step ((go_at_call 69; exact Calls.quiet_of_same (HAD.out _))))
    refine wpQuiet_nil ?_
    intro _ hw'
    obtain ⟨nq, hw''⟩ := hw'
    subst hw''
    go_wp2
    go_ret
    exact ⟨by rw [HXY.out]; rfl, _, rfl⟩
  have f3 : (x.Seq == y.Seq) = true := by rw [beq_iff_eq]; exact e3
  by_cases e4 : x.Unordered = y.Unordered
  case neg =>
    have HXY := hidH (HN.out (fun h => e4 h.2.2.2.2.1))
    obtain ⟨p, hp⟩ : ∃ p, y.Unordered = p := ⟨_, rfl⟩
    have hq : x.Unordered = !p := by rw [hp] at e4; revert e4; cases x.Unordered <;> cases p <;> simp
    rw [hp] at d5
    rw [hq] at c5
    clear HN HY hp hq e0 e1 e2 e3 e4
    cases p
    all_goals
      repeat (go_big_quiet_step ((go_at_call 69; exact Calls.quiet_of_same (HAD.out _))))
      refine wpQuiet_nil ?_
      intro _ hw'
      obtain ⟨nq, hw''⟩ := hw'
      subst hw''
      go_wp2
      go_ret
      exact ⟨by rw [HXY.out]; rfl, _, rfl⟩
  rw [e4] at c5
  by_cases e5 : y.Tsn = (x.Tsn + 1) % 4294967296
  · have HXY := hidH (HY.out ⟨e0, e1, e2, e3, e4, e5⟩)
    have f5 : (y.Tsn == (x.Tsn + 1) % 4294967296) = true := by rw [beq_iff_eq]; exact e5
    clear HN HY e0 e1 e2 e3 e4 e5
    repeat (go_big_quiet_step ((go_at_call 69; exact Calls.quiet_of_same (HAD.out _))))
    refine wpQuiet_nil ?_
    intro _ hw'
    obtain ⟨nq, hw''⟩ := hw'
    subst hw''
    go_wp2
    go_ret
    exact ⟨by rw [HXY.out]; rfl, _, rfl⟩
  · have HXY := hidH (HN.out (fun h => e5 h.2.2.2.2.2))
    have f5 : (y.Tsn == (x.Tsn + 1) % 4294967296) = false := by rw [beq_eq_false_iff_ne]; exact e5
    clear HN HY e0 e1 e2 e3 e4 e5
    repeat (go_big_quiet_step ((go_at_call 69; exact Calls.quiet_of_same (HAD.out _))))
    refine wpQuiet_nil ?_
    intro _ hw'
    obtain ⟨nq, hw''⟩ := hw'
    subst hw''
    go_wp2
    go_ret
    exact ⟨by rw [HXY.out]; rfl, _, rfl⟩
end Go.Proofs.Ythljdikcpdokdaa
