/- The program's addrsFault, greeting: fault. -/
import Derived.Test.YtjjileefdjjijaaAd5
import Derived.Test.YtjjileefdjjijaaIpS
namespace Go.Proofs.Ytjjileefdjjijaa
open Go.RowKit Go.Deep

set_option maxRecDepth 100000 in
set_option maxHeartbeats 4000000 in
theorem addrsF_any (A : Option Addr) (l : List Int) (c : Nat) (w : World) (hA : Is w A l) (hm : (l.length : Int) ≤ 9223372036854775807) (hc : l.length ≤ c) :
    Calls Try.prog 123 #[.slice A l.length c] w fun e w' => e = .returned (.int .i64 (if 1 ≤ l.length ∧ l.length ≤ 5 then adF [] l else 2)) ∧ w = w' := by
  by_cases h0 : l.length < 1
  · rw [if_neg (by omega)]
    have h0' : ((l.length : Int) == 0) = true := by rw [beq_iff_eq]; omega
    clear h0
    go_enter Try.func123, Try.ntmps123
    go_wp2
    go_ret
    exact ⟨rfl, rfl⟩
  · have h0' : ((l.length : Int) == 0) = false := by rw [beq_eq_false_iff_ne]; omega
    by_cases h5 : 5 < l.length
    · rw [if_neg (by omega)]
      have h5' : (5 : Int) < (l.length : Int) := by omega
      clear h0 h5
      go_enter Try.func123, Try.ntmps123
      go_wp2
      go_ret
      exact ⟨rfl, rfl⟩
    · rw [if_pos (by omega)]
      have h5' : ¬ (5 : Int) < (l.length : Int) := by omega
      have HA := hidH hA
      have HC := hidH hc
      have hlm : (l.length : Int) ≤ 5 := by omega
      clear hA hc h0 h5
      go_enter Try.func123, Try.ntmps123
      go_wp2
      go_loopw [15] (fun i wr => ∃ j : Nat, j ≤ l.length ∧ i = .int .i64 j ∧ wr = w ∧ adF (l.take j) (l.drop j) = adF [] l) (fun i _ => l.length - (intOf i).toNat)
      case atStart => exact ⟨0, by omega, rfl, rfl, by simp⟩
      case round =>
        obtain ⟨j, hj, rfl, rfl, hk⟩ := hrel
        by_cases hlt : j < l.length
        · have hj0 : (0 : Int) ≤ (j : Int) := by omega
          have hj1 : (j : Int) < (l.length : Int) := by omega
          obtain ⟨b, off, rfl, hcell⟩ : ∃ b off, A = some ⟨b, off, none⟩ ∧ wr.cell? ⟨b, off + j, none⟩ = some (.int .i64 (l.getD j 0)) := by
            rcases HA.out with h | ⟨b, off, e, _, h⟩
            · rw [h] at hlt; simp at hlt
            · exact ⟨b, off, e, h j hlt⟩
          have HS := hidH (adF_step hlt hk)
          have HH := hidH (fun x => contains_any (some ⟨b, off, none⟩) (l.take j) c x wr (is_take HA.out (Nat.le_of_lt hlt)) (by rw [List.length_take]; omega))
          have hlen : (l.take j).length = j := by rw [List.length_take]; omega
          rw [hlen] at HH
          have hcut := fun u => cutI_h (some ⟨b, off, none⟩) l.length c j (j : Int) rfl (by have := HC.out; omega) u
          obtain ⟨x, hx⟩ : ∃ x, l.getD j 0 = x := ⟨_, rfl⟩
          rw [hx] at hcell HS
          clear hk hx hlen
          by_cases hv : inB x 1 255 = true
          · go_wp2_with (first | (go_at_call 128; refine (isAddr_any _ _).mono ?_; rintro e w' ⟨rfl, rfl⟩))
            refine (HH.out _).mono ?_
            rintro e w3 ⟨rfl, rfl⟩
            by_cases hm2 : x ∈ l.take j
            · have HR := hidH (show adF [] l = 6 by rw [HS.out, hv, if_pos rfl, if_pos hm2])
              rw [decide_eq_true hm2]
              clear hm2 HH
              go_wp2
              go_ret
              exact ⟨ret_int HR.out.symm, rfl⟩
            · have HR := hidH (show adF (l.take (j + 1)) (l.drop (j + 1)) = adF [] l by rw [HS.out, hv, if_pos rfl, if_neg hm2])
              rw [decide_eq_false hm2]
              clear hm2 HH
              go_wp2
              go_roundw
              case rel => exact ⟨j + 1, by omega, by go_num, trivial, HR.out⟩
              case measure => simp [intOf]; omega
          · have hv : inB x 1 255 = false := by simpa using hv
            have HR := hidH (show adF [] l = 3 by rw [HS.out, hv]; rfl)
            clear HH
            go_wp2_with (first | (go_at_call 128; refine (isAddr_any _ _).mono ?_; rintro e w' ⟨rfl, rfl⟩))
            go_ret
            exact ⟨ret_int HR.out.symm, rfl⟩
        · obtain rfl : j = l.length := by omega
          have HR := hidH (show adF [] l = 0 by rw [← hk, List.drop_length]; rfl)
          clear hk hlt hj
          go_wp2
          go_ret
          exact ⟨ret_int HR.out.symm, rfl⟩
theorem piF_no {y : InitM} {k : Int} (h : ¬ (k = 1 ∨ k = 2)) : piF y k = 3 := by rw [piF, if_neg h]
theorem piF_yes {y : InitM} {k : Int} (h : k = 1 ∨ k = 2) : piF y k = inF y := by rw [piF, if_pos h]
theorem inF_range {y : InitM} (h : ¬ (inB y.Tag 1 4294967295 && wB y.Tsn) = true) : inF y = 3 := by rw [inF, if_neg h]
theorem inF_rand {y : InitM} (h : (inB y.Tag 1 4294967295 && wB y.Tsn) = true) (h2 : y.Random.length ≠ 16) : inF y = 2 := by rw [inF, if_pos h, if_neg (fun q => h2 q.1)]
theorem inF_many {y : InitM} (h : (inB y.Tag 1 4294967295 && wB y.Tsn) = true) (h2 : ¬ (1 ≤ y.Addrs.length ∧ y.Addrs.length ≤ 5)) : inF y = 2 := by rw [inF, if_pos h, if_neg (fun q => h2 q.2)]
theorem inF_addr {y : InitM} (h : (inB y.Tag 1 4294967295 && wB y.Tsn) = true) (h1 : y.Random.length = 16) (h2 : 1 ≤ y.Addrs.length ∧ y.Addrs.length ≤ 5) (h3 : adF [] y.Addrs ≠ 0) : inF y = adF [] y.Addrs := by rw [inF, if_pos h, if_pos ⟨h1, h2⟩, if_neg h3]
theorem inF_last {y : InitM} (h : (inB y.Tag 1 4294967295 && wB y.Tsn) = true) (h1 : y.Random.length = 16) (h2 : 1 ≤ y.Addrs.length ∧ y.Addrs.length ≤ 5) (h3 : adF [] y.Addrs = 0) : inF y = if y.Cookie.length ≤ 100 then 0 else 2 := by rw [inF, if_pos h, if_pos ⟨h1, h2⟩, if_pos h3]
theorem tag_b {t : Int} : inB t 1 4294967295 = (!(t == 0) && wB t) := by
  unfold wB inB
  by_cases e : t = 0
  · subst e; rfl
  · have : (t == 0) = false := by rw [beq_eq_false_iff_ne]; exact e
    rw [this]
    by_cases h1 : t ≤ 4294967295
    · by_cases h0 : 0 ≤ t
      · simp [h1, h0]; omega
      · simp [h1, h0]; omega
    · simp [h1]
set_option maxRecDepth 100000 in
set_option maxHeartbeats 8000000 in
theorem inF_impl (y : InitM) (k : Int) (A2 : Option Addr) (c2 : Nat) (A3 : Option Addr) (c3 : Nat) (A4 : Option Addr) (c4 : Nat) (w : World) (h : RdA w y.vs [.int .i64 y.Tag, .int .i64 y.Tsn, .slice A2 y.Random.length c2, .slice A3 y.Addrs.length c3, .slice A4 y.Cookie.length c4]) :
    Calls Try.prog 121 #[.agg #[.int .i64 y.Tag, .int .i64 y.Tsn, .slice A2 y.Random.length c2, .slice A3 y.Addrs.length c3, .slice A4 y.Cookie.length c4, .int .i64 k]] w fun e w' => e = .returned (.int .i64 (piF y k)) ∧ Below w.heap.size w w' := by
  have h' : RdA w [.int y.Tag, .int y.Tsn, .bs y.Random, .is y.Addrs, .bs y.Cookie] _ := h
  obtain ⟨_, _, e2, l2, _⟩ := h'.tl.tl.hd.bs_out
  obtain ⟨A3', c3', e3, l3, hA3⟩ := h'.tl.tl.tl.hd.is_out
  injection e3 with q1 q2 q3
  subst q1 q3
  obtain ⟨_, _, e4, l4, _⟩ := h'.tl.tl.tl.tl.hd.bs_out
  have hm2 := l2.len
  have hm3 := l3.len
  have hm4 := l4.len
  have B1 := bal (Below.refl w.heap.size w) (.cells #[.int .i64 y.Tag, .int .i64 y.Tsn, .slice A2 y.Random.length c2, .slice A3 y.Addrs.length c3, .slice A4 y.Cookie.length c4, .int .i64 k] 98)
  have K1 := Blk.new w 98 #[.int .i64 y.Tag, .int .i64 y.Tsn, .slice A2 y.Random.length c2, .slice A3 y.Addrs.length c3, .slice A4 y.Cookie.length c4, .int .i64 k]
  obtain ⟨w1, hw1⟩ : ∃ w1, w.alloc (.cells #[.int .i64 y.Tag, .int .i64 y.Tsn, .slice A2 y.Random.length c2, .slice A3 y.Addrs.length c3, .slice A4 y.Cookie.length c4, .int .i64 k] 98) = w1 := ⟨_, rfl⟩
  rw [hw1] at B1 K1
  have k0 := K1.cell 0
  have k1 := K1.cell 1
  have k2 := K1.cell 2
  have k3 := K1.cell 3
  have k4 := K1.cell 4
  have k5 := K1.cell 5
  simp only [List.getElem?_toArray, List.getElem?_cons_succ, List.getElem?_cons_zero] at k0 k1 k2 k3 k4 k5
  have hk := K1.lt
  have HB := hidH B1
  have HF := hidH (addrsF_any A3 y.Addrs c3 w1 (is_below hA3 B1) hm3 l3.1)
  clear h h' e2 l2 l3 hA3 e4 l4 B1 K1
  by_cases hkk : k = 1 ∨ k = 2
  · have HP := hidH (piF_yes (y := y) hkk)
    have hkb : (k != 1 && k != 2) = false := by rcases hkk with rfl | rfl <;> rfl
    have hk1 : (k != 1) = true → (k != 2) = false := by intro h; rw [h] at hkb; simpa using hkb
    rw [HP.out]
    by_cases ht : (inB y.Tag 1 4294967295 && wB y.Tsn) = true
    · have ht2 := ht
      rw [tag_b, Bool.and_eq_true, Bool.and_eq_true] at ht2
      obtain ⟨⟨t0, t1⟩, t2⟩ := ht2
      have t0 : (y.Tag == 0) = false := by simpa using t0
      by_cases hr : y.Random.length = 16
      · have hrb : ((y.Random.length : Int) != 16) = false := by rw [bne_eq_false_iff_eq]; omega
        by_cases ha : 1 ≤ y.Addrs.length ∧ y.Addrs.length ≤ 5
        · rw [if_pos ha] at HF
          by_cases hz : adF [] y.Addrs = 0
          · have HE := hidH (inF_last ht hr ha hz)
            rw [hz] at HF
            rw [HE.out]
            clear ht hr ha hz HE
            by_cases hc : y.Cookie.length ≤ 100
            · rw [if_pos hc]
              have hc' : ¬ (100 : Int) < (y.Cookie.length : Int) := by omega
              clear hc
              rcases hkk with rfl | rfl
              all_goals
                clear hkb hk1
                go_enter Try.func121, Try.ntmps121
                go_wp2_with (first | (go_at_call 71; refine (isWord_any _ _).mono ?_; rintro e w' ⟨rfl, rfl⟩))
                refine HF.out.mono ?_
                rintro e w3 ⟨rfl, rfl⟩
                clear HF
                go_wp2
                go_ret
                exact ⟨rfl, HB.out⟩
            · rw [if_neg hc]
              have hc' : (100 : Int) < (y.Cookie.length : Int) := by omega
              clear hc
              rcases hkk with rfl | rfl
              all_goals
                clear hkb hk1
                go_enter Try.func121, Try.ntmps121
                go_wp2_with (first | (go_at_call 71; refine (isWord_any _ _).mono ?_; rintro e w' ⟨rfl, rfl⟩))
                refine HF.out.mono ?_
                rintro e w3 ⟨rfl, rfl⟩
                clear HF
                go_wp2
                go_ret
                exact ⟨rfl, HB.out⟩
          · have HE := hidH (inF_addr ht hr ha hz)
            rw [HE.out]
            obtain ⟨F, hF⟩ : ∃ F, adF [] y.Addrs = F := ⟨_, rfl⟩
            rw [hF] at HF hz ⊢
            have hne : (F != 0) = true := by rw [bne_iff_ne]; exact hz
            clear ht hr ha hz HE hF
            rcases hkk with rfl | rfl
            all_goals
              clear hkb hk1
              go_enter Try.func121, Try.ntmps121
              go_wp2_with (first | (go_at_call 71; refine (isWord_any _ _).mono ?_; rintro e w' ⟨rfl, rfl⟩))
              refine HF.out.mono ?_
              rintro e w3 ⟨rfl, rfl⟩
              clear HF
              go_wp2
              go_ret
              exact ⟨rfl, HB.out⟩
        · rw [if_neg ha] at HF
          rw [inF_many ht ha]
          clear ht hr ha
          rcases hkk with rfl | rfl
          all_goals
            clear hkb hk1
            go_enter Try.func121, Try.ntmps121
            go_wp2_with (first | (go_at_call 71; refine (isWord_any _ _).mono ?_; rintro e w' ⟨rfl, rfl⟩))
            refine HF.out.mono ?_
            rintro e w3 ⟨rfl, rfl⟩
            clear HF
            go_wp2
            go_ret
            exact ⟨rfl, HB.out⟩
      · have hrb : ((y.Random.length : Int) != 16) = true := by rw [bne_iff_ne]; omega
        rw [inF_rand ht hr]
        clear ht hr HF
        rcases hkk with rfl | rfl
        all_goals
          clear hkb hk1
          go_enter Try.func121, Try.ntmps121
          go_wp2_with (first | (go_at_call 71; refine (isWord_any _ _).mono ?_; rintro e w' ⟨rfl, rfl⟩))
          go_ret
          exact ⟨rfl, HB.out⟩
    · rw [inF_range ht]
      rw [tag_b, Bool.and_assoc] at ht
      clear HF
      by_cases t0 : (y.Tag == 0) = true
      · rcases hkk with rfl | rfl
        all_goals
          clear hkb hk1 ht
          go_enter Try.func121, Try.ntmps121
          go_wp2_with (first | (go_at_call 71; refine (isWord_any _ _).mono ?_; rintro e w' ⟨rfl, rfl⟩))
          go_ret
          exact ⟨rfl, HB.out⟩
      · have t0 : (y.Tag == 0) = false := by simpa using t0
        rw [t0] at ht
        by_cases t1 : wB y.Tag = true
        · have t2 : wB y.Tsn = false := by rw [t1] at ht; simpa using ht
          rcases hkk with rfl | rfl
          all_goals
            clear hkb hk1 ht
            go_enter Try.func121, Try.ntmps121
            go_wp2_with (first | (go_at_call 71; refine (isWord_any _ _).mono ?_; rintro e w' ⟨rfl, rfl⟩))
            go_ret
            exact ⟨rfl, HB.out⟩
        · have t1 : wB y.Tag = false := by simpa using t1
          rcases hkk with rfl | rfl
          all_goals
            clear hkb hk1 ht
            go_enter Try.func121, Try.ntmps121
            go_wp2_with (first | (go_at_call 71; refine (isWord_any _ _).mono ?_; rintro e w' ⟨rfl, rfl⟩))
            go_ret
            exact ⟨rfl, HB.out⟩
  · rw [piF_no hkk]
    have n1 : (k != 1) = true := by rw [bne_iff_ne]; exact fun h => hkk (.inl h)
    have n2 : (k != 2) = true := by rw [bne_iff_ne]; exact fun h => hkk (.inr h)
    clear HF hkk
    go_enter Try.func121, Try.ntmps121
    go_wp2_with (first | (go_at_call 71; refine (isWord_any _ _).mono ?_; rintro e w' ⟨rfl, rfl⟩))
    go_ret
    exact ⟨rfl, HB.out⟩
end Go.Proofs.Ytjjileefdjjijaa
