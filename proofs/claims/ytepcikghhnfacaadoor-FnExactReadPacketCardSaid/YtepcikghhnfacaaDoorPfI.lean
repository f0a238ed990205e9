/- The program's PacketFault. -/
import Derived.Test.YtepcikghhnfacaaDoorPkI
import Derived.Test.YtepcikghhnfacaaDoorPkW
namespace Go.Proofs.YtepcikghhnfacaaDoor
open Go.RowKit Go.Deep

theorem rawTo_len0 (tag sum : Int) (cs : List Chk) : (rawTo tag sum cs 0).length = 8 := by simp [rawTo, pk]
theorem rawTo_lens (tag sum : Int) (cs : List Chk) (j : Nat) (hj : j < cs.length) : (rawTo tag sum cs (j + 1)).length = (rawTo tag sum cs j).length + (4 + cs[j].body.length + chPad cs[j].body.length) := by
  rw [rawTo_succ _ _ _ _ hj, List.length_append, chkL, chL_len]
theorem firstF_taken {cs : List Chk} {j : Nat} (h : firstF (cs.take j) = 0) : ∀ x ∈ cs.take j, chkOk x := firstF_ok h
theorem rawTo_le (tag sum : Int) (cs : List Chk) (j : Nat) (hj : j ≤ cs.length) (h : firstF (cs.take j) = 0) : (rawTo tag sum cs j).length ≤ 8 + 168 * j := by
  have e : rawTo tag sum cs j = rawTo tag sum (cs.take j) j := by rw [rawTo, rawTo, List.take_take, Nat.min_self]
  rw [e]
  exact rawTo_len tag sum (cs.take j) (firstF_ok h) j (by rw [List.length_take]; omega)
set_option maxRecDepth 100000 in
set_option maxHeartbeats 2000000 in
theorem pkFault_impl (tag : Int) (P : Option Addr) (cs : List Chk) (c : Nat) (w : World) (hP : Cs w P cs) (hm : (cs.length : Int) ≤ 9223372036854775807) (hbl : ∀ x ∈ cs, (x.body.length : Int) ≤ 9223372036854775807) :
    Calls Tryd.prog 11 #[pkV tag P cs.length c] w fun e w' => e = .returned (.int .i64 (pkF tag cs)) ∧ Below w.heap.size w w' := by
  unfold pkV
  by_cases ht : wB tag = true
  · by_cases hn : 1 ≤ cs.length ∧ cs.length ≤ 8
    · have hn1 : (1 : Int) ≤ (cs.length : Int) := by omega
      have hn8 : (cs.length : Int) ≤ 8 := by omega
      have hn0 : ((cs.length : Int) == 0) = false := by rw [beq_eq_false_iff_ne]; omega
      have e : pkF tag cs = (if firstF cs = 0 then (if (rawL tag 0 cs).length ≤ 500 then 0 else 2) else firstF cs) := by rw [pkF, if_pos ht, if_pos hn]
      have HE := hidH e
      have P1 : PkB (w.alloc (.cells #[.int .i64 tag, .slice P cs.length c] 26)) w.heap.size 0 tag P cs c :=
        ⟨by simp, (Blk.new w 26 _).cell 0, (Blk.new w 26 _).cell 1, hP.below (bal (Below.refl _ w) _)⟩
      have B1 := bal (Below.refl w.heap.size w) (.cells #[.int .i64 tag, .slice P cs.length c] 26)
      obtain ⟨w1, hw1⟩ : ∃ w1, w.alloc (.cells #[.int .i64 tag, .slice P cs.length c] 26) = w1 := ⟨_, rfl⟩
      rw [hw1] at P1 B1
      have HP1 := hidH P1
      have HB1 := hidH B1
      have HW1 := hidH hw1
      have HBL := hidH hbl
      have HS := hidH (rawTo_lens tag 0 cs)
      have HLE := hidH (rawTo_le tag 0 cs)
      have H0 := hidH (rawTo_len0 tag 0 cs)
      clear P1 B1 hw1 hP hbl e hm hn
      go_enter Tryd.func11, Tryd.ntmps11
      go_wp2_with (go_at_call 44; refine (isWord_any _ _).mono ?_; rintro e w' ⟨rfl, rfl⟩)
      rw [HW1.out]
      go_loopw [3, 24] (fun s i wr => ∃ j : Nat, j ≤ cs.length ∧ i = .int .i64 j ∧ s = .int .i64 (((rawTo tag 0 cs j).length : Nat) : Int) ∧ firstF (cs.take j) = 0 ∧ Below w1.heap.size w1 wr) (fun _ i _ => cs.length - (intOf i).toNat)
      case atStart => exact ⟨0, by omega, rfl, by rw [H0.out]; rfl, rfl, Below.refl _ _⟩
      case round =>
        obtain ⟨j, hj, rfl, rfl, hf, hB⟩ := hrel
        have hle := HLE.out j hj hf
        by_cases hlt : j < cs.length
        · have hj0 : (0 : Int) ≤ (j : Int) := by omega
          have hj1 : (j : Int) < (cs.length : Int) := by omega
          obtain ⟨cg, co, rfl, hg, A, cb, CK⟩ := (HP1.out.below hB).list.get hlt
          have c0 := CK.c0
          have c1 := CK.c1
          have c2 := CK.c2
          have HF := hidH (fun u => chFault_impl cs[j].kind cs[j].flags A cs[j].body cb u (HBL.out _ (List.getElem_mem hlt)))
          have HZ := hidH (fun (u : World) (hh : (cs[j].body.length : Int) ≤ 1000000) => chSize_any cs[j].kind cs[j].flags A cs[j].body.length cb u hh)
          unfold ckV at HF HZ
          have HT2 := hidH (firstF_take hlt hf)
          have HHIT := hidH (fun h => firstF_hit hlt hf h)
          have HSJ := hidH (HS.out j hlt)
          have B2 := bal hB (.cells #[.int .i64 cs[j].kind, .int .i64 cs[j].flags, .slice A cs[j].body.length cb] 49)
          have K2 := Blk.new wr 49 #[.int .i64 cs[j].kind, .int .i64 cs[j].flags, .slice A cs[j].body.length cb]
          have HW2 : Hid (∃ w2, wr.alloc (.cells #[.int .i64 cs[j].kind, .int .i64 cs[j].flags, .slice A cs[j].body.length cb] 49) = w2) := ⟨_, rfl⟩
          obtain ⟨w2, hw2⟩ := HW2.out
          rw [hw2] at B2 K2
          have HW2 := hidH hw2
          obtain ⟨s, hs⟩ : ∃ s, (rawTo tag 0 cs j).length = s := ⟨_, rfl⟩
          rw [hs] at hle HSJ ⊢
          have hsI : (s : Int) ≤ 100000 := by omega
          clear CK hf hB hw2 hs hle
          go_wp2_with fail
          rw [HW2.out]
          refine (HF.out w2).mono ?_
          rintro e w3 ⟨rfl, b3⟩
          have B3 := hidH (btr B2 b3)
          have K3 := K2.below b3
          clear HF b3 c0 c1 c2 B2 K2 HW2
          obtain ⟨F, hF⟩ : ∃ F, chF cs[j].kind cs[j].flags cs[j].body = F := ⟨_, rfl⟩
          rw [hF]
          have HF := hidH (show chkF cs[j] = F from hF)
          by_cases hz : F = 0
          · subst hz
            have hb160 := (chF_zero hF).2.2
            obtain ⟨p3, q3, r3, z3⟩ := K3.three
            have hpd : chPad cs[j].body.length < 4 := by unfold chPad; omega
            clear hF K3
            go_wp2_with fail
            refine (HZ.out w3 (by omega)).mono ?_
            rintro e w4 ⟨rfl, b4⟩
            have B4 := hidH (btr B3.out b4)
            obtain ⟨q, hq⟩ : ∃ q, 4 + cs[j].body.length + chPad cs[j].body.length = q := ⟨_, rfl⟩
            have hqI : (q : Int) ≤ 1000 := by omega
            rw [hq] at HSJ ⊢
            clear b4 p3 q3 r3 z3 hq hpd hb160
            go_wp2
            go_roundw
            case rel => exact ⟨j + 1, by omega, by go_num, by rw [HSJ.out]; go_num, by rw [HT2.out]; exact HF.out, B4.out⟩
            case measure => simp [intOf]; omega
          · have hne : (F != 0) = true := by rw [bne_iff_ne]; exact hz
            have HR := hidH (show pkF tag cs = F by
              have h1 : chkF cs[j] ≠ 0 := by rw [HF.out]; exact hz
              rw [HE.out, HHIT.out h1, if_neg h1, HF.out])
            clear hz hF K3
            go_wp2
            go_ret
            exact ⟨by rw [HR.out]; rfl, btr HB1.out B3.out⟩
        · obtain rfl : j = cs.length := by omega
          rw [List.take_length] at hf
          have HFF := hidH hf
          have HBW := hidH hB
          have HL := hidH (show (rawTo tag 0 cs cs.length).length = (rawL tag 0 cs).length from rfl)
          obtain ⟨s, hs⟩ : ∃ s, (rawTo tag 0 cs cs.length).length = s := ⟨_, rfl⟩
          rw [hs] at HL ⊢
          clear hf hB hlt hj hle hs
          by_cases h5 : s ≤ 500
          · have h5I : (s : Int) ≤ 500 := by omega
            have HR := hidH (show pkF tag cs = 0 by rw [HE.out, if_pos HFF.out, if_pos (by rw [← HL.out]; exact h5)])
            clear h5
            go_wp2
            go_ret
            exact ⟨by rw [HR.out]; rfl, btr HB1.out HBW.out⟩
          · have h5I : (500 : Int) < (s : Int) := by omega
            have HR := hidH (show pkF tag cs = 2 by rw [HE.out, if_pos HFF.out, if_neg (by rw [← HL.out]; exact h5)])
            clear h5
            go_wp2
            go_ret
            exact ⟨by rw [HR.out]; rfl, btr HB1.out HBW.out⟩
    · have e : pkF tag cs = 2 := by rw [pkF, if_pos ht, if_neg hn]
      rw [e]
      clear e hbl hP
      by_cases h1 : cs.length = 0
      · have h1I : ((cs.length : Int) == 0) = true := by rw [beq_iff_eq]; omega
        clear h1 hn
        go_enter Tryd.func11, Tryd.ntmps11
        go_wp2_with (go_at_call 44; refine (isWord_any _ _).mono ?_; rintro e w' ⟨rfl, rfl⟩)
        go_ret
        exact ⟨rfl, bal (Below.refl _ _) _⟩
      · have h1I : ((cs.length : Int) == 0) = false := by rw [beq_eq_false_iff_ne]; omega
        have h8I : (8 : Int) < (cs.length : Int) := by omega
        clear h1 hn
        go_enter Tryd.func11, Tryd.ntmps11
        go_wp2_with (go_at_call 44; refine (isWord_any _ _).mono ?_; rintro e w' ⟨rfl, rfl⟩)
        go_ret
        exact ⟨rfl, bal (Below.refl _ _) _⟩
  · have ht2 : wB tag = false := by simpa using ht
    have e : pkF tag cs = 3 := by rw [pkF, if_neg ht]
    rw [e]
    clear e ht hbl hP
    go_enter Tryd.func11, Tryd.ntmps11
    go_wp2_with (go_at_call 44; refine (isWord_any _ _).mono ?_; rintro e w' ⟨rfl, rfl⟩)
    go_ret
    exact ⟨rfl, bal (Below.refl _ _) _⟩
end Go.Proofs.YtepcikghhnfacaaDoor
