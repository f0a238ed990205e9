/- The model's chapter 5: l5InitFault. -/
import Derived.Test.YtjjileefdjjijaaDoorMb3
namespace Go.Proofs.YtjjileefdjjijaaDoor
open Go.RowKit Go.Deep

theorem inF_range' {y : InitM} (h : ¬ (inB y.Tag 1 4294967295 && wB y.Tsn) = true) : inF y = 3 := by rw [inF, if_neg h]
theorem inF_two {y : InitM} (h : (inB y.Tag 1 4294967295 && wB y.Tsn) = true) (h2 : ¬ (y.Random.length = 16 ∧ 1 ≤ y.Addrs.length ∧ y.Addrs.length ≤ 5)) : inF y = 2 := by rw [inF, if_pos h, if_neg h2]
theorem inF_addr' {y : InitM} (h : (inB y.Tag 1 4294967295 && wB y.Tsn) = true) (h2 : y.Random.length = 16 ∧ 1 ≤ y.Addrs.length ∧ y.Addrs.length ≤ 5) (h3 : adF [] y.Addrs ≠ 0) : inF y = adF [] y.Addrs := by rw [inF, if_pos h, if_pos h2, if_neg h3]
theorem inF_last' {y : InitM} (h : (inB y.Tag 1 4294967295 && wB y.Tsn) = true) (h2 : y.Random.length = 16 ∧ 1 ≤ y.Addrs.length ∧ y.Addrs.length ≤ 5) (h3 : adF [] y.Addrs = 0) : inF y = if y.Cookie.length ≤ 100 then 0 else 2 := by rw [inF, if_pos h, if_pos h2, if_pos h3]
theorem piR_len (y : InitM) (k : Int) (_ : WfA y.vs) (h : tot.totL y.vs ≤ 1048576) : vcA (piR y k).vs ≤ 1000000000 := by
  simp only [InitM.vs, tot.totL, tot] at h
  unfold piR crOf
  split
  · simp [ChunkResultM.vs, vcA, vc, cc, piC, inL, pk]; omega
  · simp [ChunkResultM.vs, vcA, vc, cc]
set_option maxRecDepth 100000 in
set_option maxHeartbeats 8000000 in
theorem inF_any (g o : Nat) (y : InitM) (w : World) (hg : g < w.heap.size) (h : RdL w y.vs g o) :
    Calls Tryd.prog 68 #[.pointer (some ⟨g, o, none⟩)] w fun e w' => e = .returned (.int .i64 (inF y)) ∧ Below w.heap.size w w' := by
  obtain ⟨A2, c2, A3, c3, A4, c4, k0, k1, k2, k3, k4, h2, h3, h4⟩ := mem_Init h
  obtain ⟨_, _, e2, l2, _⟩ := h2.bs_out
  obtain ⟨A3', c3', e3, l3, hA3⟩ := h3.is_out
  injection e3 with q1 q2 q3
  subst q1 q3
  obtain ⟨_, _, e4, l4, _⟩ := h4.bs_out
  have hm2 := l2.len
  have hm3 := l3.len
  have hm4 := l4.len
  have HAD := hidH (fun hm : (y.Addrs.length : Int) ≤ 1000 => l5Addrs_any A3 y.Addrs c3 w hA3 hm l3.1)
  have HK4 := hidH k4
  clear h h2 h3 h4 e2 l2 l3 hA3 e4 l4
  by_cases ht : (inB y.Tag 1 4294967295 && wB y.Tsn) = true
  · have ht2 := ht
    rw [Bool.and_eq_true] at ht2
    obtain ⟨t0, t1⟩ := ht2
    by_cases hr : y.Random.length = 16
    · have hrb : ((y.Random.length : Int) != 16) = false := by rw [bne_eq_false_iff_eq]; omega
      by_cases ha : y.Addrs.length < 1
      · have ha' : (y.Addrs.length : Int) < 1 := by omega
        rw [inF_two ht (by omega)]
        clear ht hr ha HAD
        go_enter Tryd.func68, Tryd.ntmps68
        go_wp2_with (first | (go_at_call 106; refine (word32_any _ _).mono ?_; rintro e w' ⟨rfl, rfl⟩) | (go_at_call 107; refine (in_any _ _ _ _).mono ?_; rintro e w' ⟨rfl, rfl⟩))
        go_ret
        exact ⟨rfl, Below.refl _ _⟩
      · have ha' : ¬ (y.Addrs.length : Int) < 1 := by omega
        by_cases hb : 5 < y.Addrs.length
        · have hb' : (5 : Int) < (y.Addrs.length : Int) := by omega
          rw [inF_two ht (by omega)]
          clear ht hr ha hb HAD
          go_enter Tryd.func68, Tryd.ntmps68
          go_wp2_with (first | (go_at_call 106; refine (word32_any _ _).mono ?_; rintro e w' ⟨rfl, rfl⟩) | (go_at_call 107; refine (in_any _ _ _ _).mono ?_; rintro e w' ⟨rfl, rfl⟩))
          go_ret
          exact ⟨rfl, Below.refl _ _⟩
        · have hb' : ¬ (5 : Int) < (y.Addrs.length : Int) := by omega
          have HF := hidH (HAD.out (by omega))
          have h2 : y.Random.length = 16 ∧ 1 ≤ y.Addrs.length ∧ y.Addrs.length ≤ 5 := by omega
          clear HAD
          by_cases hz : adF [] y.Addrs = 0
          · have HE := hidH (inF_last' ht h2 hz)
            rw [hz] at HF
            rw [HE.out]
            clear ht hr ha hb hz h2 HE
            by_cases hc : y.Cookie.length ≤ 100
            · rw [if_pos hc]
              have hc' : ¬ (100 : Int) < (y.Cookie.length : Int) := by omega
              clear hc
              go_enter Tryd.func68, Tryd.ntmps68
              go_wp2_with (first | (go_at_call 106; refine (word32_any _ _).mono ?_; rintro e w' ⟨rfl, rfl⟩) | (go_at_call 107; refine (in_any _ _ _ _).mono ?_; rintro e w' ⟨rfl, rfl⟩))
              refine HF.out.mono ?_
              rintro e w3 ⟨rfl, b3⟩
              have k4b := (b3.cell (p := ⟨g, o + 4, none⟩) hg).trans HK4.out
              have HB := hidH b3
              clear HF b3
              go_wp2
              go_ret
              exact ⟨rfl, HB.out⟩
            · rw [if_neg hc]
              have hc' : (100 : Int) < (y.Cookie.length : Int) := by omega
              clear hc
              go_enter Tryd.func68, Tryd.ntmps68
              go_wp2_with (first | (go_at_call 106; refine (word32_any _ _).mono ?_; rintro e w' ⟨rfl, rfl⟩) | (go_at_call 107; refine (in_any _ _ _ _).mono ?_; rintro e w' ⟨rfl, rfl⟩))
              refine HF.out.mono ?_
              rintro e w3 ⟨rfl, b3⟩
              have k4b := (b3.cell (p := ⟨g, o + 4, none⟩) hg).trans HK4.out
              have HB := hidH b3
              clear HF b3
              go_wp2
              go_ret
              exact ⟨rfl, HB.out⟩
          · have HE := hidH (inF_addr' ht h2 hz)
            rw [HE.out]
            obtain ⟨F, hF⟩ : ∃ F, adF [] y.Addrs = F := ⟨_, rfl⟩
            rw [hF] at HF hz ⊢
            have hne : (F != 0) = true := by rw [bne_iff_ne]; exact hz
            clear ht hr ha hb hz h2 HE hF
            go_enter Tryd.func68, Tryd.ntmps68
            go_wp2_with (first | (go_at_call 106; refine (word32_any _ _).mono ?_; rintro e w' ⟨rfl, rfl⟩) | (go_at_call 107; refine (in_any _ _ _ _).mono ?_; rintro e w' ⟨rfl, rfl⟩))
            refine HF.out.mono ?_
            rintro e w3 ⟨rfl, b3⟩
            have HB := hidH b3
            clear HF b3
            go_wp2
            go_ret
            exact ⟨rfl, HB.out⟩
    · have hrb : ((y.Random.length : Int) != 16) = true := by rw [bne_iff_ne]; omega
      rw [inF_two ht (fun q => hr q.1)]
      clear ht hr HAD
      go_enter Tryd.func68, Tryd.ntmps68
      go_wp2_with (first | (go_at_call 106; refine (word32_any _ _).mono ?_; rintro e w' ⟨rfl, rfl⟩) | (go_at_call 107; refine (in_any _ _ _ _).mono ?_; rintro e w' ⟨rfl, rfl⟩))
      go_ret
      exact ⟨rfl, Below.refl _ _⟩
  · rw [inF_range' ht]
    clear HAD
    by_cases t0 : inB y.Tag 1 4294967295 = true
    · have t1 : wB y.Tsn = false := by rw [t0] at ht; simpa using ht
      clear ht
      go_enter Tryd.func68, Tryd.ntmps68
      go_wp2_with (first | (go_at_call 106; refine (word32_any _ _).mono ?_; rintro e w' ⟨rfl, rfl⟩) | (go_at_call 107; refine (in_any _ _ _ _).mono ?_; rintro e w' ⟨rfl, rfl⟩))
      go_ret
      exact ⟨rfl, Below.refl _ _⟩
    · have t0 : inB y.Tag 1 4294967295 = false := by simpa using t0
      clear ht
      go_enter Tryd.func68, Tryd.ntmps68
      go_wp2_with (first | (go_at_call 106; refine (word32_any _ _).mono ?_; rintro e w' ⟨rfl, rfl⟩) | (go_at_call 107; refine (in_any _ _ _ _).mono ?_; rintro e w' ⟨rfl, rfl⟩))
      go_ret
      exact ⟨rfl, Below.refl _ _⟩
end Go.Proofs.YtjjileefdjjijaaDoor
