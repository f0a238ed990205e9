/- The laws' toChunkS, toPacket, eqChunkS, eqPacket. -/
import Derived.Test.YtepcikghhnfacaaPkW
namespace Go.Proofs.Ytepcikghhnfacaa
open Go.RowKit Go.Deep

theorem fill0 {w w1 : World} {B g n : Nat} {xs : List Value} {cs : List Chk} (h : w1.ownsRow B 25 3 (.slice (some ⟨g, 0, none⟩) n n) n xs) (hn : cs.length = n) (hb : Below w.heap.size w w1) (hg : w.heap.size ≤ g) : FillC w g cs 0 (fun _ => 0) (fun _ => 0) w1 := by
  rcases h.2 with ⟨h', _⟩ | ⟨g', cap', cur, h', hb', hblk, hnc, hcm, hcs, htake⟩
  · simp at h'
  · simp only [Value.slice.injEq, Option.some.injEq, Addr.mk.injEq, and_true, true_and] at h'
    obtain ⟨rfl, rfl⟩ := h'
    have K : Blk w1 g 25 cur := hblk
    refine ⟨hb, hg, K.lt, fun x hx => ⟨cur[x]'(by omega), ?_⟩, fun t => K.frozen t, fun i k _ hk => by omega, fun i hi => by omega, fun i _ hi => by omega⟩
    rw [K.cell, Array.getElem?_eq_getElem]
set_option maxRecDepth 100000 in
set_option maxHeartbeats 2000000 in
theorem toCs_any (P : Option Addr) (cs : List Chk) (c : Nat) (w : World) (hP : Cs w P cs) (hn : cs.length ≤ 1048576) (hb : ∀ x ∈ cs, x.body.length ≤ 281474976710656) :
    Calls Try.prog 54 #[.slice P cs.length c] w fun e w' => ∃ P', e = .returned (.slice P' cs.length cs.length) ∧ OCs w.heap.size w'.heap.size w' P' cs ∧ Below w.heap.size w w' := by
  obtain ⟨i0, hi, hz0, hz1, hz2⟩ := info_parts infoCk
  have HI := hidH (And.intro hi (And.intro hz0 (And.intro hz1 hz2)))
  have HP := hidH hP
  have HB := hidH hb
  have hnI : (cs.length : Int) ≤ 1048576 := by omega
  clear hi hz0 hz1 hz2 hP hb
  go_enter Try.func54, Try.ntmps54
  go_wp2_with (refine wpList_make_full _ rfl _ _ _ rfl w.heap.size 25 i0 _ 3 Try.underlying49 HI.out.1 HI.out.2.1 HI.out.2.2.1 .i64 .i64 _ _ cs.length rfl rfl rfl rfl (by rw [HI.out.2.2.2]; omega) (by unfold maxLen; omega) (Nat.le_refl _) ?_)
  intro w1 o1 g1
  have F0 := hidH (fill0 (cs := cs) o1 rfl ((Below.refl w.heap.size w).grown g1 (Nat.le_refl _) (fun k hk => by cases hk)) (Nat.le_refl _))
  clear o1 g1
  go_wp2
  go_loopw [4] (fun i wr => ∃ (j : Nat) (lo hi : Nat → Nat), j ≤ cs.length ∧ i = .int .i64 j ∧ FillC w w.heap.size cs j lo hi wr) (fun i _ => cs.length - (intOf i).toNat)
  case atStart => exact ⟨0, _, _, by omega, rfl, F0.out⟩
  case round =>
    obtain ⟨j, lo, hi, hj, rfl, hF⟩ := hrel
    by_cases hlt : j < cs.length
    · have hj0 : (0 : Int) ≤ (j : Int) := by omega
      have hj1 : (j : Int) < (cs.length : Int) := by omega
      obtain ⟨g, o, rfl, hg, A, cb, CK⟩ := (HP.out.below hF.old).get hlt
      have c0 := CK.c0
      have c1 := CK.c1
      have c2 := CK.c2
      have HS := hidH (toCh_any cs[j].kind cs[j].flags A cs[j].body cb wr CK.body (HB.out _ (List.getElem_mem hlt)))
      unfold ckV at HS
      have HF := hidH hF
      clear CK hF
      go_wp2_with fail
      refine HS.out.mono ?_
      rintro e w3 ⟨A3, rfl, O3, b3⟩
      have hgl := HF.out.hgl
      obtain ⟨v0, e0⟩ := HF.out.room (j * 3) (by omega)
      obtain ⟨v1, e1⟩ := HF.out.room (j * 3 + 1) (by omega)
      obtain ⟨v2, e2⟩ := HF.out.room (j * 3 + 2) (by omega)
      replace e0 := (b3.cell (p := ⟨w.heap.size, _, none⟩) hgl).trans e0
      replace e1 := (b3.cell (p := ⟨w.heap.size, _, none⟩) hgl).trans e1
      replace e2 := (b3.cell (p := ⟨w.heap.size, _, none⟩) hgl).trans e2
      have f0 := (b3.frozen (p := ⟨w.heap.size, j * 3, none⟩) hgl).trans (HF.out.fz _)
      have f1 := (b3.frozen (p := ⟨w.heap.size, j * 3 + 1, none⟩) hgl).trans (HF.out.fz _)
      have f2 := (b3.frozen (p := ⟨w.heap.size, j * 3 + 2, none⟩) hgl).trans (HF.out.fz _)
      have ST := hidH (HF.out.step (c := cs[j].body.length) hlt b3 O3)
      clear HS O3 b3 HF c0 c1 c2 hgl
      go_wp2
      go_roundw
      case rel =>
        obtain ⟨lo', hi', hF⟩ := ST.out
        exact ⟨j + 1, lo', hi', by omega, by go_num, hF⟩
      case measure => simp [intOf]; omega
    · obtain rfl : j = cs.length := by omega
      have HD := hidH hF.done
      have HO := hidH hF.old
      clear hF hlt hj
      go_wp2
      go_ret
      exact ⟨_, rfl, HD.out, HO.out⟩
set_option maxHeartbeats 1000000 in
theorem toPk_any (tag : Int) (P : Option Addr) (cs : List Chk) (c : Nat) (w : World) (hP : Cs w P cs) (hn : cs.length ≤ 1048576) (hb : ∀ x ∈ cs, x.body.length ≤ 281474976710656) :
    Calls Try.prog 29 #[pkV tag P cs.length c] w fun e w' => ∃ P', e = .returned (pkV tag P' cs.length cs.length) ∧ OCs w.heap.size w'.heap.size w' P' cs ∧ Below w.heap.size w w' := by
  have HP := hidH hP
  have HBB := hidH hb
  unfold pkV
  clear hP hb
  go_enter Try.func29, Try.ntmps29
  go_wp2_with fail
  have B3 := bal (bal (bal (Below.refl w.heap.size w) (.cells #[.int .i64 tag, .slice P cs.length c] 46)) (.cells #[.int .i64 0, .slice none 0 0] 51)) (.cells #[.int .i64 tag, .slice none 0 0] 51)
  have R3 := (Blk.new (w.alloc (.cells #[.int .i64 tag, .slice P cs.length c] 46)) 51 #[.int .i64 0, .slice none 0 0]).alloc (.cells #[.int .i64 tag, .slice none 0 0] 51)
  have V3 := Blk.new ((w.alloc (.cells #[.int .i64 tag, .slice P cs.length c] 46)).alloc (.cells #[.int .i64 0, .slice none 0 0] 51)) 51 #[.int .i64 tag, .slice none 0 0]
  simp only [World.size_alloc] at R3 V3
  generalize ((w.alloc (.cells #[.int .i64 tag, .slice P cs.length c] 46)).alloc (.cells #[.int .i64 0, .slice none 0 0] 51)).alloc (.cells #[.int .i64 tag, .slice none 0 0] 51) = w3 at *
  have hv := V3.lt
  refine (toCs_any P cs c w3 (HP.out.below (B3.mono (Nat.le_refl _))) hn HBB.out).mono ?_
  rintro e w4 ⟨P4, rfl, O4, b4⟩
  have R4 := R3.below b4
  have V4 := V3.below b4
  have x0 := R4.cell 0
  have x1 := R4.cell 1
  have y0 := V4.cell 0
  have y1 := V4.cell 1
  have f0 := R4.frozen 0
  have f1 := R4.frozen 1
  have g1 := V4.frozen 1
  simp only [List.getElem?_toArray, List.getElem?_cons_succ, List.getElem?_cons_zero] at x0 x1 y0 y1
  have HO := hidH O4
  have HB := hidH (btr B3 b4)
  have hv4 := V4.lt
  have HV := hidH hv
  clear B3 R3 V3 R4 V4 O4 b4 hn hv
  go_wp2
  have hv3 := HV.out
  have O5 := ((HO.out.win (win_set _ (w.heap.size + 1 + 1) 1 (.slice P4 cs.length cs.length)) (.inr (by omega))).win (win_set _ (w.heap.size + 1) 0 (.int .i64 tag)) (.inr (by omega))).win (win_set _ (w.heap.size + 1) 1 (.slice P4 cs.length cs.length)) (.inr (by omega))
  have B5 := bst (bst (bst HB.out (show w.heap.size ≤ (⟨w.heap.size + 1 + 1, 1, none⟩ : Addr).block by simp; omega) (.slice P4 cs.length cs.length)) (show w.heap.size ≤ (⟨w.heap.size + 1, 0, none⟩ : Addr).block by simp) (.int .i64 tag)) (show w.heap.size ≤ (⟨w.heap.size + 1, 1, none⟩ : Addr).block by simp) (.slice P4 cs.length cs.length)
  have es : ∀ (u : World) (p : Addr) (v : Value), (u.setCell p v).heap.size = u.heap.size := fun u p v => by simp [World.setCell]
  have O6 := O5.mono (B' := w.heap.size) (by omega)
  exact bodyPost_ret (v := .agg #[.int .i64 tag, .slice P4 cs.length cs.length]) (by simp [results, Try.results29, go_sem, x0, x1]) rfl ⟨P4, rfl, by simp only [es]; exact O6, B5⟩
set_option maxRecDepth 100000 in
set_option maxHeartbeats 2000000 in
theorem eqCs_same (PA PB : Option Addr) (cs : List Chk) (c d : Nat) (w : World) (hA : Cs w PA cs) (hB : Cs w PB cs) (hm : (cs.length : Int) ≤ 9223372036854775807) (hb : ∀ x ∈ cs, (x.body.length : Int) ≤ 9223372036854775807) :
    Calls Try.prog 57 #[.slice PA cs.length c, .slice PB cs.length d] w fun e w' => e = .returned (.bool true) ∧ Below w.heap.size w w' := by
  have HA := hidH hA
  have HB := hidH hB
  have HBB := hidH hb
  clear hA hB hb
  go_enter Try.func57, Try.ntmps57
  go_wp2
  go_loopw [5] (fun i wr => ∃ j : Nat, j ≤ cs.length ∧ i = .int .i64 j ∧ Below w.heap.size w wr) (fun i _ => cs.length - (intOf i).toNat)
  case atStart => exact ⟨0, by omega, rfl, Below.refl _ _⟩
  case round =>
    obtain ⟨j, hj, rfl, hBw⟩ := hrel
    by_cases hlt : j < cs.length
    · have hj0 : (0 : Int) ≤ (j : Int) := by omega
      have hj1 : (j : Int) < (cs.length : Int) := by omega
      have bd := (Below.refl wr.heap.size wr).drew
      obtain ⟨ga, oa, rfl, hga, A, cA, CA⟩ := ((HA.out.below hBw).below bd).get hlt
      obtain ⟨gb, ob, rfl, hgb, B, cB, CB⟩ := ((HB.out.below hBw).below bd).get hlt
      have HE := hidH (eqCh_same cs[j].kind cs[j].flags A B cs[j].body cA cB wr.drew CA.body CB.body (HBB.out _ (List.getElem_mem hlt)))
      unfold ckV at HE
      have c0 := CA.c0
      have c1 := CA.c1
      have c2 := CA.c2
      have d0 := CB.c0
      have d1 := CB.c1
      have d2 := CB.c2
      have HBW := hidH (btr hBw bd)
      clear CA CB hBw bd
      go_wp2
      go_still_tail 8, (by kernel_rfl)
      change wpList _ _ _ _ _ wr.drew
      go_wp2_with fail
      refine HE.out.mono ?_
      rintro e w3 ⟨rfl, b3⟩
      have B3 := hidH (btr HBW.out b3)
      clear HE HBW b3 c0 c1 c2 d0 d1 d2
      go_wp2
      go_roundw
      case rel => exact ⟨j + 1, by omega, by go_num, B3.out⟩
      case measure => simp [intOf]; omega
    · have HBW := hidH hBw
      have hd : ¬ ((j : Int) < (cs.length : Int)) := by omega
      clear hBw hlt hj
      go_wp2
      go_ret
      exact ⟨rfl, HBW.out⟩
set_option maxHeartbeats 1000000 in
theorem eqPk_same (tag : Int) (PA PB : Option Addr) (cs : List Chk) (c d : Nat) (w : World) (hA : Cs w PA cs) (hB : Cs w PB cs) (hm : (cs.length : Int) ≤ 9223372036854775807) (hb : ∀ x ∈ cs, (x.body.length : Int) ≤ 9223372036854775807) :
    Calls Try.prog 31 #[pkV tag PA cs.length c, pkV tag PB cs.length d] w fun e w' => e = .returned (.bool true) ∧ Below w.heap.size w w' := by
  have B2 := bal (bal (Below.refl w.heap.size w) (.cells #[.int .i64 tag, .slice PA cs.length c] 51)) (.cells #[.int .i64 tag, .slice PB cs.length d] 51)
  have HS := hidH (eqCs_same PA PB cs c d _ (hA.below B2) (hB.below B2) hm hb)
  have HB := hidH B2
  unfold pkV
  clear hA hB B2 hb
  go_enter Try.func31, Try.ntmps31
  go_wp2_with fail
  refine HS.out.mono ?_
  rintro e w' ⟨rfl, b3⟩
  have B3 := hidH (btr HB.out b3)
  clear b3 HS HB
  go_wp2
  go_ret
  exact ⟨rfl, B3.out⟩
end Go.Proofs.Ytepcikghhnfacaa
