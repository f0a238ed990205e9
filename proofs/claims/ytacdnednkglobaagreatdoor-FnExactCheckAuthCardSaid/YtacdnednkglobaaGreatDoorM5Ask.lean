/- Chapter 5 on numbers: requests and acknowledgements; the model's l5Addr, l5AsconfFault, l5SackFault. -/
import Derived.Test.YtacdnednkglobaaGreatDoorTySack
import Derived.Test.YtacdnednkglobaaGreatDoorM5Data
namespace Go.Proofs.YtacdnednkglobaaGreatDoor
open Go.RowKit Go.Deep

def okOp (x : AddrOpM) : Bool := inB x.Kind 1 3 && inB x.Addr 1 255
def qaF (y : AsconfM) : Int := if wB y.Serial then (if 1 ≤ y.Ops.length ∧ y.Ops.length ≤ 4 then (if y.Ops.all okOp then 0 else 3) else 2) else 3
def opL (x : AddrOpM) : List Int := [x.Kind, x.Addr]
def qaC (y : AsconfM) : ChunkM := ⟨193, 0, pk y.Serial ++ ((y.Ops.length : Int) :: y.Ops.flatMap opL)⟩
def qaR (y : AsconfM) : ChunkResultM := crOf (qaF y) (qaC y)
/-- The gaps behind a number, each one behind the other with a number between. -/
def okGaps : Int → List GapM → Bool
  | _, [] => true
  | a, x :: r => inB x.From 2 x.To && inB x.To 2 65535 && decide (a + 1 < x.From) && okGaps x.To r
theorem okGaps_cons (a : Int) (x : GapM) (r : List GapM) : okGaps a (x :: r) = (inB x.From 2 x.To && inB x.To 2 65535 && decide (a + 1 < x.From) && okGaps x.To r) := rfl
def ksF (y : SackM) : Int := if wB y.Cum then (if y.Gaps.length ≤ 20 then (if okGaps 0 y.Gaps then 0 else 1) else 2) else 3
def gapL (x : GapM) : List Int := pairL x.From ++ pairL x.To
def ksC (y : SackM) : ChunkM := ⟨3, 0, pk y.Cum ++ ((y.Gaps.length : Int) :: y.Gaps.flatMap gapL)⟩
def ksR (y : SackM) : ChunkResultM := crOf (ksF y) (ksC y)
theorem qaF_zero {y : AsconfM} (h : qaF y = 0) : (0 ≤ y.Serial ∧ y.Serial ≤ 4294967295) ∧ (1 ≤ y.Ops.length ∧ y.Ops.length ≤ 4) ∧ y.Ops.all okOp = true := by
  unfold qaF wB inB at h
  split at h
  · next h1 =>
    simp only [Bool.and_eq_true, decide_eq_true_eq] at h1
    split at h
    · next h2 =>
      split at h
      · next h3 => exact ⟨h1, h2, h3⟩
      · cases h
    · cases h
  · cases h
theorem ksF_zero {y : SackM} (h : ksF y = 0) : (0 ≤ y.Cum ∧ y.Cum ≤ 4294967295) ∧ y.Gaps.length ≤ 20 ∧ okGaps 0 y.Gaps = true := by
  unfold ksF wB inB at h
  split at h
  · next h1 =>
    simp only [Bool.and_eq_true, decide_eq_true_eq] at h1
    split at h
    · next h2 =>
      split at h
      · next h3 => exact ⟨h1, h2, h3⟩
      · cases h
    · cases h
  · cases h
set_option maxHeartbeats 400000 in
theorem l5Addr_any (a : Int) (w : World) : Calls Tryz.prog 138 #[.int .i64 a] w fun e w' => e = .returned (.bool (inB a 1 255)) ∧ w = w' := by
  go_enter Tryz.func138, Tryz.ntmps138
  go_wp2_with (go_at_call 104; refine (in_any _ _ _ _).mono ?_; rintro e w' ⟨rfl, rfl⟩)
  go_ret
  exact ⟨rfl, rfl⟩
theorem all_take {α : Type} {f : α → Bool} {l : List α} {j : Nat} (hj : j < l.length) (h : (l.take j).all f = true) (k : f l[j] = true) : (l.take (j + 1)).all f = true := by
  rw [List.take_add_one, List.getElem?_eq_getElem hj, Option.toList_some, List.all_append, h]
  simp [k]
theorem all_not {α : Type} {f : α → Bool} {l : List α} {j : Nat} (hj : j < l.length) (k : f l[j] = false) : ¬ l.all f = true := by
  intro h
  rw [List.all_eq_true] at h
  have := h _ (List.getElem_mem hj)
  rw [k] at this
  cases this
set_option maxRecDepth 100000 in
set_option maxHeartbeats 4000000 in
theorem qaF_any (g o : Nat) (y : AsconfM) (w : World) (h : RdL w y.vs g o) :
    Calls Tryz.prog 109 #[.pointer (some ⟨g, o, none⟩)] w fun e w' => e = .returned (.int .i64 (qaF y)) ∧ Below w.heap.size w w' := by
  obtain ⟨A, c, q0, q1, hA⟩ := mem_Asconf h
  have hm : (y.Ops.length : Int) ≤ 9223372036854775807 := Rd.st_len hA
  have HI := hidH hA
  clear h hA
  by_cases h1 : wB y.Serial = true
  · by_cases h4 : y.Ops.length < 1
    · have e : qaF y = 2 := by simp only [qaF, h1, if_true]; rw [if_neg (by omega)]
      have h4' : (y.Ops.length : Int) < 1 := by omega
      rw [e]
      clear e h4
      go_enter Tryz.func109, Tryz.ntmps109
      go_wp2_with (first | (go_at_call 136; refine (word32_any _ _).mono ?_; rintro e w' ⟨rfl, rfl⟩))
      go_ret
      exact ⟨rfl, Below.refl _ _⟩
    · by_cases h5 : 4 < y.Ops.length
      · have e : qaF y = 2 := by simp only [qaF, h1, if_true]; rw [if_neg (by omega)]
        have h4' : ¬ (y.Ops.length : Int) < 1 := by omega
        have h5' : (4 : Int) < (y.Ops.length : Int) := by omega
        rw [e]
        clear e h4 h5
        go_enter Tryz.func109, Tryz.ntmps109
        go_wp2_with (first | (go_at_call 136; refine (word32_any _ _).mono ?_; rintro e w' ⟨rfl, rfl⟩))
        go_ret
        exact ⟨rfl, Below.refl _ _⟩
      · have h4' : ¬ (y.Ops.length : Int) < 1 := by omega
        have h5' : ¬ (4 : Int) < (y.Ops.length : Int) := by omega
        have e0 : qaF y = if y.Ops.all okOp then 0 else 3 := by simp only [qaF, h1, if_true]; rw [if_pos (by omega)]
        have HE := hidH e0
        clear e0 h4 h5
        go_enter Tryz.func109, Tryz.ntmps109
        go_wp2_with (first | (go_at_call 136; refine (word32_any _ _).mono ?_; rintro e w' ⟨rfl, rfl⟩))
        go_loopw [3] (fun i wr => ∃ j : Nat, j ≤ y.Ops.length ∧ i = .int .i64 j ∧ wr = w ∧ (y.Ops.take j).all okOp = true) (fun i _ => y.Ops.length - (intOf i).toNat)
        case atStart => exact ⟨0, by omega, rfl, rfl, by simp⟩
        case round =>
          obtain ⟨j, hj, rfl, rfl, hk⟩ := hrel
          by_cases hlt : j < y.Ops.length
          · have hj0 : (0 : Int) ≤ (j : Int) := by omega
            have hj1 : (j : Int) < (y.Ops.length : Int) := by omega
            obtain ⟨gb, ob, cb, eb, hgb, RB⟩ := Rd.row (f := AddrOpM.vs) (W := 2) (fun _ => rfl) HI.out hlt
            injection eb with eb1 eb2 eb3
            subst eb1 eb3
            obtain ⟨u0, p0, t0⟩ := RB 0 (.int y.Ops[j].Kind) rfl
            obtain ⟨u1, p1, t1⟩ := RB 1 (.int y.Ops[j].Addr) rfl
            have e0 := t0.int_out
            have e1 := t1.int_out
            subst e0 e1
            rw [Nat.add_zero] at p0
            have HT := hidH (all_take hlt hk)
            have HN := hidH (fun h => all_not (f := okOp) hlt h)
            obtain ⟨k, hkk⟩ : ∃ k, y.Ops[j].Kind = k := ⟨_, rfl⟩
            obtain ⟨a, haa⟩ : ∃ a, y.Ops[j].Addr = a := ⟨_, rfl⟩
            have HO := hidH (show okOp y.Ops[j] = (inB k 1 3 && inB a 1 255) by rw [okOp, hkk, haa])
            rw [hkk] at p0
            rw [haa] at p1
            clear RB t0 t1 hk hkk haa
            by_cases hv : inB k 1 3 = true
            · by_cases hu : inB a 1 255 = true
              · have HY := hidH (HT.out (by rw [HO.out, hv, hu]; rfl))
                go_wp2_with (first | (go_at_call 104; refine (in_any _ _ _ _).mono ?_; rintro e w' ⟨rfl, rfl⟩) | (go_at_call 138; refine (l5Addr_any _ _).mono ?_; rintro e w' ⟨rfl, rfl⟩))
                go_roundw
                case rel => exact ⟨j + 1, by omega, by go_num, trivial, HY.out⟩
                case measure => simp [intOf]; omega
              · have hu : inB a 1 255 = false := by simpa using hu
                have HNO := hidH (show qaF y = 3 by rw [HE.out, if_neg (HN.out (by rw [HO.out, hv, hu]; rfl))])
                go_wp2_with (first | (go_at_call 104; refine (in_any _ _ _ _).mono ?_; rintro e w' ⟨rfl, rfl⟩) | (go_at_call 138; refine (l5Addr_any _ _).mono ?_; rintro e w' ⟨rfl, rfl⟩))
                go_ret
                exact ⟨ret_int HNO.out.symm, Below.refl _ _⟩
            · have hv : inB k 1 3 = false := by simpa using hv
              have HNO := hidH (show qaF y = 3 by rw [HE.out, if_neg (HN.out (by rw [HO.out, hv]; rfl))])
              go_wp2_with (first | (go_at_call 104; refine (in_any _ _ _ _).mono ?_; rintro e w' ⟨rfl, rfl⟩) | (go_at_call 138; refine (l5Addr_any _ _).mono ?_; rintro e w' ⟨rfl, rfl⟩))
              go_ret
              exact ⟨ret_int HNO.out.symm, Below.refl _ _⟩
          · obtain rfl : j = y.Ops.length := by omega
            rw [List.take_length] at hk
            have HY := hidH (show qaF y = 0 by rw [HE.out, if_pos hk])
            clear hk hlt hj
            go_wp2
            go_ret
            exact ⟨ret_int HY.out.symm, Below.refl _ _⟩
  · have h1 : wB y.Serial = false := by simpa using h1
    have e : qaF y = 3 := by simp [qaF, h1]
    rw [e]
    clear e
    go_enter Tryz.func109, Tryz.ntmps109
    go_wp2_with (first | (go_at_call 136; refine (word32_any _ _).mono ?_; rintro e w' ⟨rfl, rfl⟩))
    go_ret
    exact ⟨rfl, Below.refl _ _⟩
end Go.Proofs.YtacdnednkglobaaGreatDoor
