/- Chapter 6: SecretsFault, the model's and the program's. -/
import Derived.Test.YtjjileefdjjijaaS6F
namespace Go.Proofs.Ytjjileefdjjijaa
open Go.RowKit Go.Deep

/-- The state of a loop that looks at the order. -/
theorem up_zero (r : List SecretM) : secsUp r 0 := fun i _ h => by omega
theorem up_succ {r : List SecretM} {j : Nat} (h : secsUp r j) (hj : j + 1 < r.length) (k : r[j].Id < r[j + 1].Id) : secsUp r (j + 1) := fun i hi hle => by
  by_cases e : i = j
  · subst e
    rw [List.getD_eq_getElem?_getD, List.getD_eq_getElem?_getD, List.getElem?_eq_getElem (by omega), List.getElem?_eq_getElem hj]
    exact k
  · exact h i hi (by omega)
theorem ord_no {r : List SecretM} {j : Nat} (hj : j + 1 < r.length) (k : r[j + 1].Id ≤ r[j].Id) : secsO r = false := secsO_no hj (by
  rw [List.getD_eq_getElem?_getD, List.getD_eq_getElem?_getD, List.getElem?_eq_getElem hj, List.getElem?_eq_getElem (show j < r.length by omega)]
  exact k)
set_option maxRecDepth 100000 in
set_option maxHeartbeats 4000000 in
theorem ss_spec (r : List SecretM) (v : Value) (u : World) (h : Rd u (st_Secret r) v) (_ : WfV (st_Secret r)) (_ : tot (st_Secret r) ≤ 1048576) : Calls Try.prog 10 #[v] u (IntR (ssF r) u) := by
  obtain ⟨A, c, rfl⟩ := st_Secret_sh h
  have hm : (r.length : Int) ≤ 9223372036854775807 := Rd.st_len h
  have HI := hidH (fun (w : World) (hb : Below u.heap.size u w) => Rd.below hb _ h)
  clear h
  by_cases h4 : 4 < r.length
  · rw [ssF_many h4]
    have h4' : (4 : Int) < (r.length : Int) := by omega
    clear h4
    go_enter Try.func10, Try.ntmps10
    go_wp2
    go_ret
    exact ⟨rfl, Below.refl _ _⟩
  · have h4' : ¬ (4 : Int) < (r.length : Int) := by omega
    have H4 := hidH (show r.length ≤ 4 by omega)
    clear h4
    go_enter Try.func10, Try.ntmps10
    go_wp2
    go_loopw [3] (fun i wr => ∃ j : Nat, j ≤ r.length ∧ i = .int .i64 j ∧ wr = u ∧ secsF (r.take j) = 0) (fun i _ => r.length - (intOf i).toNat)
    case atStart => exact ⟨0, by omega, rfl, rfl, by simp [secsF]⟩
    case round =>
      obtain ⟨j, hj, rfl, rfl, hk⟩ := hrel
      by_cases hlt : j < r.length
      · have hj0 : (0 : Int) ≤ (j : Int) := by omega
        have hj1 : (j : Int) < (r.length : Int) := by omega
        obtain ⟨g, o, c', B, cB, e, hg, p0, p1, _⟩ := sec_at (HI.out _ (Below.refl _ _)) hlt
        injection e with e1 e2 e3
        subst e1 e3
        have HT := hidH (secsF_take r j hlt hk)
        have HF := hidH (l6Fault_any g (o + j * 2) r[j] B cB wr p0 p1)
        obtain ⟨f, hf⟩ : ∃ f, secF r[j] = f := ⟨_, rfl⟩
        have HN := hidH (fun (q : f ≠ 0) => show ssF r = f by rw [ssF_first H4.out (by rw [secsF_first r j hlt hk (by rw [hf]; exact q), hf]; exact q), secsF_first r j hlt hk (by rw [hf]; exact q), hf])
        rw [hf] at HT HF
        clear hk p0 p1 hf
        by_cases hz : f = 0
        · have q : (f != 0) = false := by rw [bne_eq_false_iff_eq]; exact hz
          have HZ := hidH (HT.out.trans hz)
          clear hz HN HT
          go_wp2_with fail
          refine HF.out.mono ?_
          rintro e w' ⟨rfl, rfl⟩
          go_wp2
          go_roundw
          case rel => exact ⟨j + 1, by omega, by go_num, trivial, HZ.out⟩
          case measure => simp [intOf]; omega
        · have q : (f != 0) = true := by rw [bne_iff_ne]; exact hz
          have HZ := hidH (HN.out hz)
          clear hz HN HT
          go_wp2_with fail
          refine HF.out.mono ?_
          rintro e w' ⟨rfl, rfl⟩
          go_wp2
          go_ret
          exact ⟨ret_int HZ.out.symm, Below.refl _ _⟩
      · obtain rfl : j = r.length := by omega
        rw [List.take_length] at hk
        have HS := hidH (ssF_order H4.out hk)
        clear hk hlt hj
        go_wp2
        go_loopw [5] (fun i wr' => ∃ j : Nat, (j + 1 ≤ r.length ∨ j = 0) ∧ i = .int .i64 ((j : Int) + 1) ∧ Below wr.heap.size wr wr' ∧ secsUp r j) (fun i _ => r.length - (intOf i).toNat)
        case atStart => exact ⟨0, .inr rfl, rfl, Below.refl _ _, up_zero r⟩
        case round =>
          rename_i wq
          obtain ⟨j, hj2, rfl, hB, hk⟩ := hrel
          by_cases hlt : j + 1 < r.length
          · have hj0 : (0 : Int) ≤ (j : Int) + 1 := by omega
            have hj1 : (j : Int) + 1 < (r.length : Int) := by omega
            have hi0 : (0 : Int) ≤ (j : Int) := by omega
            have hi1 : (j : Int) < (r.length : Int) := by omega
            obtain ⟨g, o, c', B, cB, e, hg, p0, _, _⟩ := sec_at (HI.out _ hB) hlt
            injection e with e1 e2 e3
            subst e1 e3
            obtain ⟨g', o', c', B', cB', e, _, q0, _, _⟩ := sec_at (HI.out _ hB) (show j < r.length by omega)
            injection e with e1 e2 e3
            injection e1 with e1
            injection e1 with e1 e4
            subst e1 e3 e4
            have HY := hidH (fun q => up_succ hk hlt q)
            have HN := hidH (fun q => show ssF r = 1 by rw [HS.out, ord_no hlt q]; rfl)
            obtain ⟨a, ha⟩ : ∃ a, r[j + 1].Id = a := ⟨_, rfl⟩
            obtain ⟨b, hb⟩ : ∃ b, r[j].Id = b := ⟨_, rfl⟩
            rw [ha] at p0 HY HN
            rw [hb] at q0 HY HN
            have HBD := hidH (fun m => below_drewN hB m)
            have s1 : ((j : Int) + 1).toNat = j + 1 := by omega
            have s2 : IntKind.i64.wrap ((j : Int) + 1 - 1) = (j : Int) := by rw [show (j : Int) + 1 - 1 = j by omega]; exact IntWalk.i64_in _ (by omega)
            clear hk hB ha hb hj2
            by_cases hab : a ≤ b
            · have HZ := hidH (HN.out hab)
              clear HN HY
              go_wp2
              go_quiet (fail)
              go_wp2
              go_ret
              exact ⟨ret_int HZ.out.symm, HBD.out _⟩
            · have HZ := hidH (HY.out (by omega))
              clear HN HY
              go_wp2
              go_quiet (fail)
              clear s1 s2
              go_wp2
              go_roundw
              case rel => exact ⟨j + 1, by omega, by go_num, HBD.out _, HZ.out⟩
              case measure => simp [intOf]; omega
          · have HZ := hidH (show ssF r = 0 by
              rw [HS.out, secsO_up (fun i hi _ => hk i hi (by omega))]; rfl)
            have HBB := hidH hB
            have hj1 : ¬ (j : Int) + 1 < (r.length : Int) := by omega
            clear hk hB hj2
            go_wp2
            go_ret
            exact ⟨ret_int HZ.out.symm, HBB.out⟩
set_option maxRecDepth 100000 in
set_option maxHeartbeats 4000000 in
theorem ss_impl (r : List SecretM) (v : Value) (u : World) (h : Rd u (st_Secret r) v) (_ : WfV (st_Secret r)) (_ : tot (st_Secret r) ≤ 1048576) : Calls Try.prog 12 #[v] u (IntR (ssF r) u) := by
  obtain ⟨A, c, rfl⟩ := st_Secret_sh h
  have hm : (r.length : Int) ≤ 9223372036854775807 := Rd.st_len h
  have HI := hidH (fun (w : World) (hb : Below u.heap.size u w) => Rd.below hb _ h)
  clear h
  by_cases h4 : 4 < r.length
  · rw [ssF_many h4]
    have h4' : (4 : Int) < (r.length : Int) := by omega
    clear h4
    go_enter Try.func12, Try.ntmps12
    go_wp2
    go_ret
    exact ⟨rfl, Below.refl _ _⟩
  · have h4' : ¬ (4 : Int) < (r.length : Int) := by omega
    have H4 := hidH (show r.length ≤ 4 by omega)
    clear h4
    go_enter Try.func12, Try.ntmps12
    go_wp2
    go_loopw [12] (fun i wr => ∃ j : Nat, j ≤ r.length ∧ i = .int .i64 j ∧ Below u.heap.size u wr ∧ secsF (r.take j) = 0) (fun i _ => r.length - (intOf i).toNat)
    case atStart => exact ⟨0, by omega, rfl, Below.refl _ _, by simp [secsF]⟩
    case round =>
      obtain ⟨j, hj, rfl, hB, hk⟩ := hrel
      by_cases hlt : j < r.length
      · have hj0 : (0 : Int) ≤ (j : Int) := by omega
        have hj1 : (j : Int) < (r.length : Int) := by omega
        obtain ⟨g, o, c', B, cB, e, hg, p0, p1, _⟩ := sec_at (HI.out _ hB) hlt
        injection e with e1 e2 e3
        subst e1 e3
        have HT := hidH (secsF_take r j hlt hk)
        have HF := hidH (fun w => secretFault_any r[j] B cB w)
        obtain ⟨f, hf⟩ : ∃ f, secF r[j] = f := ⟨_, rfl⟩
        have HN := hidH (fun (q : f ≠ 0) => show ssF r = f by rw [ssF_first H4.out (by rw [secsF_first r j hlt hk (by rw [hf]; exact q), hf]; exact q), secsF_first r j hlt hk (by rw [hf]; exact q), hf])
        rw [hf] at HT HF
        have HBB := hidH (bal hB (.cells #[.int .i64 r[j].Id, .slice B r[j].Bytes.length cB] 58))
        obtain ⟨x0, hx0⟩ : ∃ x, r[j].Id = x := ⟨_, rfl⟩
        obtain ⟨x1, hx1⟩ : ∃ x, r[j].Bytes.length = x := ⟨_, rfl⟩
        rw [hx0, hx1] at HF HBB
        rw [hx0] at p0
        rw [hx1] at p1
        clear hk hf hB hx0 hx1
        by_cases hz : f = 0
        · have q : (f != 0) = false := by rw [bne_eq_false_iff_eq]; exact hz
          have HZ := hidH (HT.out.trans hz)
          clear hz HN HT
          go_wp2_with fail
          refine (HF.out _).mono ?_
          rintro e w' ⟨rfl, hb⟩
          have HB2 := hidH (btr HBB.out hb)
          clear hb
          go_wp2
          go_roundw
          case rel => exact ⟨j + 1, by omega, by go_num, HB2.out, HZ.out⟩
          case measure => simp [intOf]; omega
        · have q : (f != 0) = true := by rw [bne_iff_ne]; exact hz
          have HZ := hidH (HN.out hz)
          clear hz HN HT
          go_wp2_with fail
          refine (HF.out _).mono ?_
          rintro e w' ⟨rfl, hb⟩
          have HB2 := hidH (btr HBB.out hb)
          clear hb
          go_wp2
          go_ret
          exact ⟨ret_int HZ.out.symm, HB2.out⟩
      · obtain rfl : j = r.length := by omega
        rw [List.take_length] at hk
        have HS := hidH (ssF_order H4.out hk)
        have HB0 := hidH hB
        clear hk hlt hj hB
        go_wp2
        go_loopw [6] (fun i wr' => ∃ j : Nat, (j + 1 ≤ r.length ∨ j = 0) ∧ i = .int .i64 ((j : Int) + 1) ∧ Below u.heap.size u wr' ∧ secsUp r j) (fun i _ => r.length - (intOf i).toNat)
        case atStart => exact ⟨0, .inr rfl, rfl, HB0.out, up_zero r⟩
        case round =>
          rename_i wq
          obtain ⟨j, hj2, rfl, hB, hk⟩ := hrel
          by_cases hlt : j + 1 < r.length
          · have hj0 : (0 : Int) ≤ (j : Int) + 1 := by omega
            have hj1 : (j : Int) + 1 < (r.length : Int) := by omega
            have hi0 : (0 : Int) ≤ (j : Int) := by omega
            have hi1 : (j : Int) < (r.length : Int) := by omega
            obtain ⟨g, o, c', B, cB, e, hg, p0, _, _⟩ := sec_at (HI.out _ hB) hlt
            injection e with e1 e2 e3
            subst e1 e3
            obtain ⟨g', o', c', B', cB', e, _, q0, _, _⟩ := sec_at (HI.out _ hB) (show j < r.length by omega)
            injection e with e1 e2 e3
            injection e1 with e1
            injection e1 with e1 e4
            subst e1 e3 e4
            have HY := hidH (fun q => up_succ hk hlt q)
            have HN := hidH (fun q => show ssF r = 1 by rw [HS.out, ord_no hlt q]; rfl)
            obtain ⟨a, ha⟩ : ∃ a, r[j + 1].Id = a := ⟨_, rfl⟩
            obtain ⟨b, hb⟩ : ∃ b, r[j].Id = b := ⟨_, rfl⟩
            rw [ha] at p0 HY HN
            rw [hb] at q0 HY HN
            have HBD := hidH (fun m => below_drewN hB m)
            have s1 : ((j : Int) + 1).toNat = j + 1 := by omega
            have s2 : IntKind.i64.wrap ((j : Int) + 1 - 1) = (j : Int) := by rw [show (j : Int) + 1 - 1 = j by omega]; exact IntWalk.i64_in _ (by omega)
            clear hk hB ha hb hj2
            by_cases hab : a ≤ b
            · have HZ := hidH (HN.out hab)
              clear HN HY
              go_wp2
              go_quiet (fail)
              go_wp2
              go_ret
              exact ⟨ret_int HZ.out.symm, HBD.out _⟩
            · have HZ := hidH (HY.out (by omega))
              clear HN HY
              go_wp2
              go_quiet (fail)
              clear s1 s2
              go_wp2
              go_roundw
              case rel => exact ⟨j + 1, by omega, by go_num, HBD.out _, HZ.out⟩
              case measure => simp [intOf]; omega
          · have HZ := hidH (show ssF r = 0 by
              rw [HS.out, secsO_up (fun i hi _ => hk i hi (by omega))]; rfl)
            have HBB := hidH hB
            have hj1 : ¬ (j : Int) + 1 < (r.length : Int) := by omega
            clear hk hB hj2
            go_wp2
            go_ret
            exact ⟨ret_int HZ.out.symm, HBB.out⟩
end Go.Proofs.Ytjjileefdjjijaa
