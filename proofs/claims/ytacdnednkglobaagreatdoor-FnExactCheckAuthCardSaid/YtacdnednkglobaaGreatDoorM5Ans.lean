/- Chapter 5 on numbers: answers; the model's l5AnswerFault, l5Bytes. -/
import Derived.Test.YtacdnednkglobaaGreatDoorTyInit
import Derived.Test.YtacdnednkglobaaGreatDoorM5Data
import Derived.Deep.LoopGhost
namespace Go.Proofs.YtacdnednkglobaaGreatDoor
open Go.RowKit Go.Deep

def okCs (l : List Int) : Prop := ∀ j, j < l.length → inB (l.getD j 0) 0 20 = true
instance (l : List Int) : Decidable (okCs l) := by unfold okCs; exact Nat.decidableBallLT l.length (fun j _ => inB (l.getD j 0) 0 20 = true)
def paF (y : AnswerM) : Int := if wB y.Serial then (if 1 ≤ y.Codes.length ∧ y.Codes.length ≤ 4 then (if okCs y.Codes then 0 else 3) else 2) else 3
def paC (y : AnswerM) : ChunkM := ⟨128, 0, pk y.Serial ++ ((y.Codes.length : Int) :: y.Codes)⟩
def paR (y : AnswerM) : ChunkResultM := crOf (paF y) (paC y)
theorem paR_len (y : AnswerM) (_ : WfA y.vs) (h : tot.totL y.vs ≤ 1048576) : vcA (paR y).vs ≤ 1000000000 := by
  simp only [AnswerM.vs, tot.totL, tot] at h
  unfold paR crOf
  split
  · simp [ChunkResultM.vs, vcA, vc, cc, paC, pk]; omega
  · simp [ChunkResultM.vs, vcA, vc, cc]
theorem paF_zero {y : AnswerM} (h : paF y = 0) : (0 ≤ y.Serial ∧ y.Serial ≤ 4294967295) ∧ (1 ≤ y.Codes.length ∧ y.Codes.length ≤ 4) ∧ okCs y.Codes := by
  unfold paF wB inB at h
  split at h
  · next h1 =>
    simp at h1
    split at h
    · next h2 =>
      split at h
      · next h3 => exact ⟨h1, h2, h3⟩
      · cases h
    · cases h
  · cases h
theorem isOf {w : World} {l : List Int} {A : Option Addr} {n c : Nat} (h : Rd w (.is l) (.slice A n c)) : Is w A l := by
  obtain ⟨A', c', e, _, hb⟩ := h.is_out
  injection e with e1 e2 e3
  subst e1
  exact hb
set_option maxRecDepth 100000 in
set_option maxHeartbeats 2000000 in
theorem paF_any (g o : Nat) (y : AnswerM) (w : World) (h : RdL w y.vs g o) :
    Calls Tryz.prog 110 #[.pointer (some ⟨g, o, none⟩)] w fun e w' => e = .returned (.int .i64 (paF y)) ∧ Below w.heap.size w w' := by
  obtain ⟨A, c, q0, q1, hA⟩ := mem_Answer h
  have hm := (hA.is_out).choose_spec.choose_spec.2.1.len
  have HI := hidH (isOf hA)
  clear h hA
  by_cases h1 : wB y.Serial = true
  · by_cases h4 : y.Codes.length < 1
    · have e : paF y = 2 := by simp only [paF, h1, if_true]; rw [if_neg (by omega)]
      have h4' : (y.Codes.length : Int) < 1 := by omega
      rw [e]
      clear e h4
      go_enter Tryz.func110, Tryz.ntmps110
      go_wp2_with (first | (go_at_call 136; refine (word32_any _ _).mono ?_; rintro e w' ⟨rfl, rfl⟩))
      go_ret
      exact ⟨rfl, Below.refl _ _⟩
    · by_cases h5 : 4 < y.Codes.length
      · have e : paF y = 2 := by simp only [paF, h1, if_true]; rw [if_neg (by omega)]
        have h4' : ¬ (y.Codes.length : Int) < 1 := by omega
        have h5' : (4 : Int) < (y.Codes.length : Int) := by omega
        rw [e]
        clear e h4 h5
        go_enter Tryz.func110, Tryz.ntmps110
        go_wp2_with (first | (go_at_call 136; refine (word32_any _ _).mono ?_; rintro e w' ⟨rfl, rfl⟩))
        go_ret
        exact ⟨rfl, Below.refl _ _⟩
      · have h4' : ¬ (y.Codes.length : Int) < 1 := by omega
        have h5' : ¬ (4 : Int) < (y.Codes.length : Int) := by omega
        have e0 : paF y = if okCs y.Codes then 0 else 3 := by simp only [paF, h1, if_true]; rw [if_pos (by omega)]
        have HE := hidH e0
        have HL := hidH (show y.Codes.length ≤ 4 by omega)
        clear e0 h4 h5
        go_enter Tryz.func110, Tryz.ntmps110
        go_wp2_with (first | (go_at_call 136; refine (word32_any _ _).mono ?_; rintro e w' ⟨rfl, rfl⟩))
        go_loopw [3] (fun i wr => ∃ j : Nat, j ≤ y.Codes.length ∧ i = .int .i64 j ∧ wr = w ∧ ∀ k, k < j → inB (y.Codes.getD k 0) 0 20 = true) (fun i _ => y.Codes.length - (intOf i).toNat)
        case atStart => exact ⟨0, by omega, rfl, rfl, fun k hk => by omega⟩
        case round =>
          obtain ⟨j, hj, rfl, rfl, hk⟩ := hrel
          by_cases hlt : j < y.Codes.length
          · have hj0 : (0 : Int) ≤ (j : Int) := by omega
            have hj1 : (j : Int) < (y.Codes.length : Int) := by omega
            obtain ⟨b, off, rfl, hcell⟩ : ∃ b off, A = some ⟨b, off, none⟩ ∧ wr.cell? ⟨b, off + j, none⟩ = some (.int .i64 (y.Codes.getD j 0)) := by
              rcases HI.out with h | ⟨b, off, e, _, h⟩
              · rw [h] at hlt; simp at hlt
              · exact ⟨b, off, e, h j hlt⟩
            have HK := hidH hk
            obtain ⟨x, hx⟩ : ∃ x, y.Codes.getD j 0 = x := ⟨_, rfl⟩
            rw [hx] at hcell
            have HX := hidH hx
            clear hk hx
            by_cases hv : inB x 0 20 = true
            · have HN := hidH (show ∀ k, k < j + 1 → inB (y.Codes.getD k 0) 0 20 = true from fun k hk => by
                by_cases e : k = j
                · subst e; rw [HX.out]; exact hv
                · exact HK.out k (by omega))
              go_wp2_with (first | (go_at_call 104; refine (in_any _ _ _ _).mono ?_; rintro e w' ⟨rfl, rfl⟩))
              go_roundw
              case rel => exact ⟨j + 1, by omega, by go_num, trivial, HN.out⟩
              case measure => simp [intOf]; omega
            · have hv : inB x 0 20 = false := by simpa using hv
              have hno : paF y = 3 := by
                rw [HE.out, if_neg]
                intro h
                have := h j hlt
                rw [HX.out, hv] at this
                cases this
              have HNO := hidH hno
              clear hno
              go_wp2_with (first | (go_at_call 104; refine (in_any _ _ _ _).mono ?_; rintro e w' ⟨rfl, rfl⟩))
              go_ret
              exact ⟨ret_int HNO.out.symm, Below.refl _ _⟩
          · obtain rfl : j = y.Codes.length := by omega
            have HY := hidH (show paF y = 0 by rw [HE.out, if_pos (show okCs y.Codes from hk)])
            clear hk hlt hj
            go_wp2
            go_ret
            exact ⟨ret_int HY.out.symm, Below.refl _ _⟩
  · have h1 : wB y.Serial = false := by simpa using h1
    have e : paF y = 3 := by simp [paF, h1]
    rw [e]
    clear e
    go_enter Tryz.func110, Tryz.ntmps110
    go_wp2_with (first | (go_at_call 136; refine (word32_any _ _).mono ?_; rintro e w' ⟨rfl, rfl⟩))
    go_ret
    exact ⟨rfl, Below.refl _ _⟩
set_option maxRecDepth 100000 in
set_option maxHeartbeats 2000000 in
theorem l5Bytes_any (A : Option Addr) (l : List Int) (c : Nat) (w : World) (hA : Is w A l) (hl : ∀ j, j < l.length → 0 ≤ l.getD j 0 ∧ l.getD j 0 ≤ 255) (hn : l.length ≤ 200) :
    Calls Tryz.prog 99 #[.slice A l.length c] w (OwnB w ((l.length : Int) :: l)) := by
  have HA := hidH hA
  have HL := hidH hl
  have hnI : (l.length : Int) ≤ 200 := by omega
  have O1 := hidH (show (w.alloc (.cells #[.int .u8 (l.length : Int)] 5)).ownsRow w.heap.size 5 1 (.slice (some ⟨w.heap.size, 0, none⟩) 1 1) (1 + 0) ((((l.length : Int) :: l.take 0)).map (Value.int .u8)) from
    World.ownsRow_lit w #[.int .u8 (l.length : Int)] 1 (Nat.le_refl _) (by unfold maxLen; omega) rfl)
  have B1 := hidH (bal (Below.refl w.heap.size w) (.cells #[.int .u8 (l.length : Int)] 5))
  clear hA hl
  go_enter Tryz.func99, Tryz.ntmps99
  go_wp2
  go_loopw [3, 4] (fun v i wr => ∃ j : Nat, j ≤ l.length ∧ i = .int .i64 j ∧ wr.ownsRow w.heap.size 5 1 v (1 + j) (((l.length : Int) :: l.take j).map (Value.int .u8)) ∧ Below w.heap.size w wr) (fun _ i _ => l.length - (intOf i).toNat)
  case atStart => exact ⟨0, by omega, rfl, O1.out, B1.out⟩
  case round =>
    obtain ⟨j, hj, rfl, hown, hB⟩ := hrel
    have hsz := hB.size
    by_cases hlt : j < l.length
    · have hj0 : (0 : Int) ≤ (j : Int) := by omega
      have hj1 : (j : Int) < (l.length : Int) := by omega
      obtain ⟨b, off, rfl, hcell⟩ : ∃ b off, A = some ⟨b, off, none⟩ ∧ wr.cell? ⟨b, off + j, none⟩ = some (.int .i64 (l.getD j 0)) := by
        rcases HA.out with h | ⟨b, off, e, hb, h⟩
        · rw [h] at hlt; simp at hlt
        · exact ⟨b, off, e, (hB.cell (p := ⟨b, off + j, none⟩) hb).trans (h j hlt)⟩
      obtain ⟨x0, x1⟩ := HL.out j hlt
      obtain ⟨x, hx⟩ : ∃ x, l.getD j 0 = x := ⟨_, rfl⟩
      rw [hx] at hcell x0 x1
      have P1 := hidH (lit_bs wr 5 [x])
      have OH := hidH hown
      have HB := hidH hB
      have ht : l.take (j + 1) = l.take j ++ [x] := by
        rw [List.take_add_one, List.getElem?_eq_getElem hlt, Option.toList_some]
        rw [List.getD_eq_getElem?_getD, List.getElem?_eq_getElem hlt] at hx
        rw [← hx]
        simp
      have HT := hidH ht
      clear hown hB ht hx
      go_wp2_with (at_builtin; refine wpList_append_bs rfl _ _ rfl w.heap.size _ _ _ rfl (OH.out.alloc _) (some ⟨wr.heap.size, 0, none⟩) [x] 1 rfl P1.out (by simp; omega) (by simp; omega) ?_)
      intro v3 w3 o3 g3
      have B3 := hidH (own_grow (m := 0) HB.out OH.out g3)
      have O3 := hidH (show w3.ownsRow w.heap.size 5 1 v3 (1 + (j + 1)) (((l.length : Int) :: l.take (j + 1)).map (Value.int .u8)) by rw [HT.out, show 1 + (j + 1) = 1 + j + 1 by omega]; simpa using o3)
      clear o3 g3
      go_wp2
      go_roundw
      case rel => exact ⟨j + 1, by omega, by go_num, O3.out, B3.out⟩
      case measure => simp [intOf]; omega
    · obtain rfl : j = l.length := by omega
      rw [List.take_length] at hown
      have OH := hidH (show wr.ownsRow w.heap.size 5 1 _ ((l.length : Int) :: l).length (((l.length : Int) :: l).map (Value.int .u8)) by rw [List.length_cons, Nat.add_comm]; exact hown)
      have HB := hidH hB
      clear hown hB hlt hj
      go_wp2
      go_ret
      exact ⟨_, rfl, OH.out, HB.out⟩
end Go.Proofs.YtacdnednkglobaaGreatDoor
