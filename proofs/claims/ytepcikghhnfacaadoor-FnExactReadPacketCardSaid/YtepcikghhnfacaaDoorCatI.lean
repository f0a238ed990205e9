/- slices.Grow and slices.Concat at bytes, however many slices. -/
import Derived.Test.YtepcikghhnfacaaDoorApp
import Derived.Test.YtepcikghhnfacaaDoorDrawAt
import Derived.Test.YtepcikghhnfacaaDoorOpLaws
import Derived.Lib.AppendZeros
namespace Go.Proofs.YtepcikghhnfacaaDoor
open Go.RowKit Go.Deep

theorem wpList_append_run {w : World} {ops : Array Oper} {rest : List Oper} {o : Oper} {a : Act} {Q : Exit → Act → World → Prop} (hgd : o.guard = none) (s x : Operand) (ts : Array TypeId)
    (ho : o.op = .call { callee := .builtin .append, args := #[s, x], argTypes := ts }) (sv xv : Value) (hs : a.eval s = sv) (hx : a.eval x = xv) (d : Option Tmp) (hd : o.dst = d)
    (v : Value) (w1 : World) (hrun : ∀ ty, (Builtin.append_ ts ty #[sv, xv]).run Tryd.prog w = .ok v w1) (h : wpList Tryd.prog ops Q rest (a.put d v) w1) : wpList Tryd.prog ops Q (o :: rest) a w := by
  subst hd
  refine wpList_plain hgd fun K hK => ?_
  unfold Oper.wp
  simp [execOp, ho, resolve, invoke, builtin, hs, hx, hrun, Result.andThen]
  exact hK _ _ h
set_option maxHeartbeats 1000000 in
theorem grow_any (n : Nat) (w : World) (h : n ≤ 100000) : Calls Tryd.prog 57 #[.slice none 0 0, .int .i64 n] w fun e w' => ∃ v, e = .returned v ∧ w'.ownsRow w.heap.size 5 1 v 0 [] ∧ Below w.heap.size w w' := by
  by_cases h0 : n = 0
  · subst h0
    rw [show ((0 : Nat) : Int) = 0 from rfl]
    go_enter Tryd.func57, Tryd.ntmps57
    go_wp2
    go_ret
    exact ⟨_, rfl, ⟨rfl, .inl ⟨rfl, rfl⟩⟩, Below.refl _ _⟩
  · obtain ⟨i0, hi, hz0, hz1, hz2⟩ := info_parts infoU8
    have hnI : (0 : Int) < (n : Int) := by omega
    have hnJ : (n : Int) ≤ 100000 := by omega
    have hap : ∀ ty, (Builtin.append_ #[22, 3] ty #[.slice none 0 0, .int .i64 n]).run Tryd.prog w = .ok (.slice (some ⟨w.heap.size, 0, none⟩) n (grownCap w n 0 5)) (w.drew.alloc (.cells (Builtin.zeroCells #[.int .u8 0] n ++ Builtin.zeroCells #[.int .u8 0] (grownCap w n 0 5 - n)) 5)) := fun ty =>
      Lib.run_append_nil_zeros w 22 3 ty 5 i0 (.int .u8 0) .i64 .i64 Tryd.underlying22 (by kernel_rfl) hi hz0 n (by omega) (by rw [hz1]; omega) (by omega) (by rw [hz2]; omega)
    have hge := grownCap_ge w n 0 5
    have hle := grownCap_le_maxLen w n 0 5 (by unfold maxLen; omega)
    generalize grownCap w n 0 5 = c at *
    have hsz : (Builtin.zeroCells #[Value.int .u8 0] n ++ Builtin.zeroCells #[Value.int .u8 0] (c - n)).size = c * 1 := by
      rw [Array.size_append, size_zeroCells, size_zeroCells]; simp; omega
    generalize Builtin.zeroCells #[Value.int .u8 0] n ++ Builtin.zeroCells #[Value.int .u8 0] (c - n) = cs at *
    have HC := hidH (And.intro hge (And.intro hle hsz))
    have hc : (0 : Int) ≤ (c : Int) := by omega
    have HAP := hidH hap
    clear hi hz0 hz1 hz2 hge hle hsz h0 hap
    go_enter Tryd.func57, Tryd.ntmps57
    go_wp2_with (at_builtin; refine wpList_append_run rfl _ _ _ rfl (.slice none 0 0) (.int .i64 n) rfl rfl _ rfl _ _ HAP.out ?_)
    go_ret
    refine ⟨_, rfl, ⟨rfl, .inr ⟨w.heap.size, c, cs, rfl, Nat.le_refl _, ?_, by omega, HC.out.2.1, HC.out.2.2, by simp⟩⟩, bal (Below.refl _ _).drew _⟩
    exact heap_alloc_new w.drew _
/-- Slices of bytes in a row of their own. -/
def Parts (w : World) (g : Nat) (ps : List (List Int)) : Prop :=
  g < w.heap.size ∧ ∀ i (hi : i < ps.length), ∃ A c, w.cell? ⟨g, i, none⟩ = some (.slice A ps[i].length c) ∧ Bs w A ps[i]
theorem Parts.below {w w' : World} {g : Nat} {ps : List (List Int)} (h : Parts w g ps) (hb : Below w.heap.size w w') : Parts w' g ps :=
  ⟨Nat.lt_of_lt_of_le h.1 hb.size, fun i hi => by
    obtain ⟨A, c, h1, h2⟩ := h.2 i hi
    exact ⟨A, c, (hb.cell (p := ⟨g, i, none⟩) h.1).trans h1, bs_below h2 hb⟩⟩
def catP (ps : List (List Int)) (k : Nat) : List Int := (ps.take k).flatten
theorem catP_succ (ps : List (List Int)) (k : Nat) (hk : k < ps.length) : catP ps (k + 1) = catP ps k ++ ps[k] := by
  rw [catP, catP, List.take_add_one, List.getElem?_eq_getElem hk, Option.toList_some, List.flatten_append]
  simp
theorem catP_le (ps : List (List Int)) (k : Nat) : (catP ps k).length ≤ ps.flatten.length := by
  have h : ps.flatten = catP ps k ++ (ps.drop k).flatten := by rw [catP, ← List.flatten_append, List.take_append_drop]
  rw [h, List.length_append]
  omega
set_option maxRecDepth 100000 in
set_option maxHeartbeats 1000000 in
theorem concat_all (g c : Nat) (ps : List (List Int)) (w : World) (hg : Parts w g ps) (hn : ps.length ≤ 100) (ht : ps.flatten.length ≤ 40000) :
    Calls Tryd.prog 26 #[.slice (some ⟨g, 0, none⟩) ps.length c] w (OwnB w ps.flatten) := by
  have HG := hidH hg
  have HT := hidH ht
  have HLE := hidH (catP_le ps)
  have HS := hidH (catP_succ ps)
  have HZ := hidH (show catP ps ps.length = ps.flatten by rw [catP, List.take_length])
  have hnI : (ps.length : Int) ≤ 100 := by omega
  clear hg ht
  go_enter Tryd.func26, Tryd.ntmps26
  go_wp2
  go_loopw [3, 11] (fun s i wr => ∃ k : Nat, k ≤ ps.length ∧ i = .int .i64 k ∧ s = .int .i64 ((catP ps k).length : Nat) ∧ w = wr) (fun _ i _ => ps.length - (intOf i).toNat)
  case atStart => exact ⟨0, by omega, rfl, rfl, rfl⟩
  case round =>
    obtain ⟨k, hk, rfl, rfl, rfl⟩ := hrel
    by_cases hlt : k < ps.length
    · obtain ⟨A, cA, e1, _⟩ := HG.out.2 k hlt
      have hk0 : (0 : Int) ≤ (k : Int) := by omega
      have hk1 : (k : Int) < (ps.length : Int) := by omega
      have h1 := HLE.out k
      have h2 := HLE.out (k + 1)
      have h3 := HS.out k hlt
      have h4 : (catP ps (k + 1)).length = (catP ps k).length + ps[k].length := by rw [h3, List.length_append]
      have h5 : ((catP ps k).length : Int) ≤ 40000 := by have := HT.out; omega
      have h6 : (ps[k].length : Int) ≤ 40000 := by have := HT.out; omega
      obtain ⟨x, hx⟩ : ∃ x, (catP ps k).length = x := ⟨_, rfl⟩
      obtain ⟨y, hy⟩ : ∃ y, ps[k].length = y := ⟨_, rfl⟩
      rw [hx] at h5 h4
      rw [hy] at h6 h4 e1
      rw [hx]
      have H4 := hidH h4
      clear h1 h2 h3 h4 hx hy
      go_wp2
      go_round
      case rel => exact ⟨k + 1, by omega, by go_num, by rw [H4.out]; go_num, trivial⟩
      case measure => simp [intOf]; omega
    · obtain rfl : k = ps.length := by omega
      have hgr := grow_any ps.flatten.length w (by have := HT.out; omega)
      rw [HZ.out]
      have HGR := hidH hgr
      obtain ⟨x, hx⟩ : ∃ x, ps.flatten.length = x := ⟨_, rfl⟩
      rw [hx] at HGR ⊢
      clear hgr hlt hk hx
      go_wp2_with fail
      refine HGR.out.mono ?_
      rintro e w1 ⟨v, rfl, o1, b1⟩
      have O1 := hidH o1
      have B1 := hidH b1
      clear o1 b1 HGR
      go_wp2
      go_loopw [6, 27] (fun v i wr => ∃ k : Nat, k ≤ ps.length ∧ i = .int .i64 k ∧ wr.ownsRow w.heap.size 5 1 v (catP ps k).length ((catP ps k).map (Value.int .u8)) ∧ Below w.heap.size w wr) (fun _ i _ => ps.length - (intOf i).toNat)
      case atStart => exact ⟨0, by omega, rfl, O1.out, B1.out⟩
      case round =>
        obtain ⟨k, hk, rfl, ho, hbw⟩ := hrel
        by_cases hlt : k < ps.length
        · obtain ⟨A, cA, e1, s1⟩ := (HG.out.below hbw).2 k hlt
          have hk0 : (0 : Int) ≤ (k : Int) := by omega
          have hk1 : (k : Int) < (ps.length : Int) := by omega
          have hsz := hbw.size
          have HLN := hidH (show (catP ps k).length + ps[k].length ≤ 100000 by
            have h2 := HLE.out (k + 1)
            have h3 := HS.out k hlt
            have := HT.out
            rw [h3, List.length_append] at h2
            omega)
          have HS1 := hidH s1
          have HO := hidH ho
          have HW := hidH hbw
          clear ho hbw s1
          go_wp2_with (at_builtin; refine wpList_append_bs rfl _ _ rfl w.heap.size _ _ _ rfl HO.out A ps[k] cA rfl HS1.out HLN.out hsz ?_)
          intro v' w2 o2 g2
          have B2 := hidH (HW.out.grown g2 hsz (fun k hk => (HO.out.lt k hk).1))
          have O2 := hidH (show w2.ownsRow w.heap.size 5 1 v' (catP ps (k + 1)).length ((catP ps (k + 1)).map (Value.int .u8)) from by rw [HS.out k hlt]; simpa using o2)
          clear o2 g2 HO HW HS1 e1 HLN
          go_wp2
          go_roundw
          case rel => exact ⟨k + 1, by omega, by go_num, O2.out, B2.out⟩
          case measure => simp [intOf]; omega
        · obtain rfl : k = ps.length := by omega
          rw [HZ.out] at ho
          have HO := hidH ho
          have HW := hidH hbw
          clear ho hbw hlt hk
          go_wp2
          go_ret
          exact ⟨_, rfl, HO.out, HW.out⟩
end Go.Proofs.YtepcikghhnfacaaDoor
