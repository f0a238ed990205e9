/- The model's bytes of a chunk: l4Chunk, PackChunk. -/
import Derived.Test.YtepcikghhnfacaaChR
import Derived.Test.YtepcikghhnfacaaPack
import Derived.Test.YtepcikghhnfacaaPad
import Derived.Deep.LoopGhost
namespace Go.Proofs.Ytepcikghhnfacaa
open Go.RowKit Go.Deep

theorem win_set (w : World) (g o : Nat) (u : Value) : Win g (g + 1) w (w.setCell ⟨g, o, none⟩ u) :=
  ⟨rfl, rfl, rfl, by simp [World.setCell], fun k _ ho => Below.heap_setCell _ _ _ _ (by show k ≠ g; omega), fun _ _ => World.frozen?_setCell _ _ _ _⟩
/-- The head and the body, j noughts behind. -/
def chTo (H : List Int) (j : Nat) : List Int := H ++ List.replicate j 0
theorem chTo_len (H : List Int) (j : Nat) : (chTo H j).length = H.length + j := by simp [chTo]
theorem chTo_succ (H : List Int) (j : Nat) : chTo H (j + 1) = chTo H j ++ [0] := by simp [chTo, List.replicate_succ']
theorem ch_test (n j : Nat) (hj : j ≤ chPad n) : (4 + n + j) % 4 = 0 ↔ j = chPad n := by unfold chPad at *; omega
set_option maxRecDepth 100000 in
set_option maxHeartbeats 2000000 in
theorem l4Chunk_any (g o : Nat) (k f : Int) (A : Option Addr) (b : List Int) (c : Nat) (w : World) (hC : CkB w g o k f A b c) (hk0 : 0 ≤ k) (hk1 : k ≤ 255) (hf0 : 0 ≤ f) (hf1 : f ≤ 255) (hb : b.length ≤ 1000) :
    Calls Try.prog 48 #[.pointer (some ⟨g, o, none⟩)] w (OwnB w (chL k f b)) := by
  obtain ⟨H, hH⟩ : ∃ H, [k, f, ((b.length : Int) + 4) / 256, ((b.length : Int) + 4) % 256] ++ b = H := ⟨_, rfl⟩
  have hHl : H.length = 4 + b.length := by rw [← hH]; simp; omega
  have hL : chL k f b = chTo H (chPad b.length) := by rw [chL, hH, chTo]
  rw [hL]
  have hz4 : chPad b.length < 4 := by unfold chPad; omega
  have HTEST := hidH (ch_test b.length)
  obtain ⟨z, hz⟩ : ∃ z, chPad b.length = z := ⟨_, rfl⟩
  rw [hz] at hz4 HTEST ⊢
  have HC := hidH hC
  have HH := hidH hH
  have HHL := hidH hHl
  have HB := hidH hb
  have hbI : (b.length : Int) ≤ 1000 := by omega
  have HFIN := hidH (And.intro hk0 (And.intro hk1 (And.intro hf0 hf1)))
  clear hC hH hHl hL hz hb hk0 hk1 hf0 hf1
  go_enter Try.func48, Try.ntmps48
  go_wp2_with fail
  refine wp_region_any (by kernel_rfl) ?_
  refine regCh _ _ g o k f A b c HFIN.out.1 HFIN.out.2.1 HFIN.out.2.2.1 HFIN.out.2.2.2 hbI (by kernel_rfl) (by kernel_rfl) (by kernel_rfl) rfl (fun h => h) (HC.out.below (Below.refl w.heap.size w).drew) (Below.refl _ _) ?_
  intros
  rename_i t3 W hO hown
  have hB : Below w.heap.size w W := btr (Below.refl w.heap.size w).drew hO
  have OW := hidH (show W.ownsRow w.heap.size 5 1 t3 4 _ from hown)
  have HBW := hidH hB
  have CW := HC.out.below hB
  have q2 := CW.c2
  have hlt := CW.lt
  have SB := hidH CW.body
  have hsz := hB.size
  clear CW hown hO hB
  go_wp2_with (at_builtin; refine wpList_append_bs rfl _ _ rfl w.heap.size _ _ _ rfl OW.out A b c rfl SB.out (by have := HB.out; omega) hsz ?_)
  intro v2 w2 o2 g2
  have B2 := hidH (HBW.out.grown g2 hsz (fun x hx => (OW.out.lt x hx).1))
  have O2 := hidH (show w2.ownsRow w.heap.size 5 1 v2 (chTo H 0).length ((chTo H 0).map (Value.int .u8)) by
    rw [chTo_len, HHL.out]
    have := o2
    simpa [chTo, ← HH.out] using this)
  clear o2 g2 q2 SB OW
  go_wp2_with fail
  go_loopg [3] z (fun q v wr => ∃ j : Nat, j ≤ z ∧ q = z - j ∧ wr.ownsRow w.heap.size 5 1 v (chTo H j).length ((chTo H j).map (Value.int .u8)) ∧ Below w.heap.size w wr)
  case atStart => exact ⟨0, by omega, by omega, O2.out, B2.out⟩
  case round =>
    obtain ⟨j, hj, rfl, hown, hB⟩ := hrel
    have hsz := hB.size
    have HL := hidH (show (chTo H j).length = 4 + b.length + j by rw [chTo_len, HHL.out])
    have hpl : ((chTo H j).length : Int) ≤ 60000 := by rw [HL.out]; have := HB.out; omega
    by_cases hlt : j < z
    · have ht : (((chTo H j).length : Int) % 4 != 0) = true := by
        rw [HL.out]
        have := HTEST.out j hj
        rw [bne_iff_ne]; omega
      obtain ⟨A1, c1, rfl, ob, _, _⟩ := own_ob hown
      have P1 := lit_bs wr 5 [0]
      have PH := hidH P1
      have OH := hidH hown
      clear P1 ob
      go_wp2_with (at_builtin; refine wpList_append_bs rfl _ _ rfl w.heap.size _ _ _ rfl (OH.out.alloc _) (some ⟨wr.heap.size, 0, none⟩) [0] 1 rfl PH.out (by have := HL.out; have := HB.out; simp; omega) (by simp; omega) ?_)
      intro v3 w3 o3 g3
      have B3 := hidH (own_grow (m := 0) hB hown g3)
      have O3 := hidH o3
      clear o3 g3 hown hB
      go_wp2
      go_roundg (z - (j + 1))
      case rel => exact ⟨j + 1, by omega, rfl, by rw [chTo_succ]; simpa using O3.out, B3.out⟩
      case measure => omega
    · obtain rfl : j = z := by omega
      have ht : (((chTo H j).length : Int) % 4 != 0) = false := by
        rw [HL.out]
        have := (HTEST.out j hj).2 rfl
        rw [bne_eq_false_iff_eq]; omega
      obtain ⟨A1, c1, rfl, ob, _, _⟩ := own_ob hown
      have OH := hidH hown
      have HBB := hidH hB
      clear ob hlt hj hown hB
      go_wp2
      go_ret
      exact ⟨_, rfl, OH.out, HBB.out⟩
def chM (k f : Int) (b : List Int) : List Int := if chF k f b = 0 then chL k f b else []
theorem chF_zero {k f : Int} {b : List Int} (h : chF k f b = 0) : (0 ≤ k ∧ k ≤ 255) ∧ (0 ≤ f ∧ f ≤ 255) ∧ b.length ≤ 160 := by
  unfold chF inB at h
  split at h
  · next h1 =>
    simp at h1
    split at h
    · exact ⟨h1.1, h1.2, by assumption⟩
    · cases h
  · cases h
theorem bres_at {w W : World} {R : Nat} {A : Option Addr} {l : List Int} {cp : Nat} (x : Int) (hO : Ob (R + 1) W.heap.size W A l) (hR : w.heap.size ≤ R) (hb : Below w.heap.size w W) (h1 : l.length ≤ cp) (h2 : (cp : Int) ≤ 9223372036854775807) (u0 u1 : Value) :
    BRes w x l (.returned (.agg #[.int .i64 x, .slice A l.length cp])) ((W.setCell ⟨R, 0, none⟩ u0).setCell ⟨R, 1, none⟩ u1) := by
  have e : ((W.setCell ⟨R, 0, none⟩ u0).setCell ⟨R, 1, none⟩ u1).heap.size = W.heap.size := by simp [World.setCell]
  refine ⟨A, cp, rfl, ?_, bst (bst hb hR _) hR _, h1, h2⟩
  rw [e]
  exact ((hO.setCell (p := ⟨R, 0, none⟩) (Nat.lt_succ_self _) _).setCell (p := ⟨R, 1, none⟩) (Nat.lt_succ_self _) _).mono (by omega)
set_option maxHeartbeats 1000000 in
theorem packChunk_spec (k f : Int) (A : Option Addr) (b : List Int) (c : Nat) (w : World) (hA : Bs w A b) (hm : (b.length : Int) ≤ 9223372036854775807) :
    Calls Try.prog 22 #[ckV k f A b.length c] w (BRes w (chF k f b) (chM k f b)) := by
  have K1 := Blk.new w 25 #[.int .i64 k, .int .i64 f, .slice A b.length c]
  have B1 := bal (Below.refl w.heap.size w) (.cells #[.int .i64 k, .int .i64 f, .slice A b.length c] 25)
  have S1 := bs_below hA (bal (Below.refl _ w) (.cells #[.int .i64 k, .int .i64 f, .slice A b.length c] 25))
  obtain ⟨w1, hw1⟩ : ∃ w1, w.alloc (.cells #[.int .i64 k, .int .i64 f, .slice A b.length c] 25) = w1 := ⟨_, rfl⟩
  rw [hw1] at K1 B1 S1
  have hlt : w.heap.size < w1.heap.size := K1.lt
  have K2 := K1.alloc (.cells #[.int .i64 0, .slice none 0 0] 28)
  have B2 := bal B1 (.cells #[.int .i64 0, .slice none 0 0] 28)
  have S2 := bs_below S1 (bal (Below.refl _ w1) (.cells #[.int .i64 0, .slice none 0 0] 28))
  have R2 := Blk.new w1 28 #[.int .i64 0, .slice none 0 0]
  obtain ⟨w2, hw2⟩ : ∃ w2, w1.alloc (.cells #[.int .i64 0, .slice none 0 0] 28) = w2 := ⟨_, rfl⟩
  have hs1 : w1.heap.size = w.heap.size + 1 := by rw [← hw1]; simp
  rw [hw2, hs1] at R2
  rw [hw2] at K2 B2 S2
  have HW1 := hidH hw1
  have HW2 := hidH hw2
  have HK := hidH K2
  have HB := hidH B2
  have HS := hidH S2
  have HR := hidH R2
  have hF := hidH (fun u => chFault_spec k f A b c u hm)
  unfold ckV at hF ⊢
  clear hw1 hw2 K1 B1 S1 K2 B2 S2 R2 hA hs1 hlt
  go_enter Try.func22, Try.ntmps22
  go_wp2_with fail
  rw [HW1.out, HW2.out]
  refine (hF.out _).mono ?_
  rintro e w3 ⟨rfl, b3⟩
  have K3 := HK.out.below b3
  have B3 := hidH (btr HB.out b3)
  have S3 := bs_below HS.out b3
  have R3 := hidH (HR.out.below b3)
  clear HW1 HW2 HK HB HS HR hF b3
  by_cases hz : chF k f b = 0
  · obtain ⟨⟨hk0, hk1⟩, ⟨hf0, hf1⟩, hb⟩ := chF_zero hz
    have hM : chM k f b = chL k f b := by rw [chM, if_pos hz]
    have HZM := hidH (And.intro hz hM)
    rw [hz]
    have CK := hidH (l4Chunk_any w.heap.size 0 k f A b c w3 ⟨K3.lt, K3.cell 0, K3.cell 1, K3.cell 2, S3⟩ hk0 hk1 hf0 hf1 (by omega))
    obtain ⟨L, hL⟩ : ∃ L, chL k f b = L := ⟨_, rfl⟩
    rw [hL] at CK
    have HLL := hidH hL
    clear hz hM hL hk0 hk1 hf0 hf1 hb K3 S3
    go_wp2_with fail
    refine CK.out.mono ?_
    rintro e w4 ⟨v, rfl, O4, b4⟩
    obtain ⟨A4, c4, rfl, ob4, hc4, hm4⟩ := own_ob O4
    have R4 := R3.out.below b4
    obtain ⟨x0, x1, xz⟩ := R4.two
    have f0 := R4.frozen 0
    have f1 := R4.frozen 1
    have hr3 := R3.out.lt
    have HO := hidH (ob4.mono (B' := w.heap.size + 1 + 1) (by omega))
    have HB := hidH (btr B3.out b4)
    have HC := hidH (And.intro hc4 hm4)
    clear R4 ob4 O4 b4 hc4 hm4 R3 B3 CK hr3
    go_wp2
    exact bodyPost_ret (v := .agg #[.int .i64 0, .slice A4 L.length c4]) (by simp [results, Try.results22, go_sem, x0, x1]) rfl (by rw [HZM.out.1, HZM.out.2, HLL.out]; exact bres_at 0 HO.out (Nat.le_succ _) HB.out HC.out.1 HC.out.2 _ _)
  · have hM : chM k f b = [] := by rw [chM, if_neg hz]
    have HM := hidH hM
    have hne : (chF k f b != 0) = true := by rw [bne_iff_ne]; exact hz
    obtain ⟨F, hF⟩ : ∃ F, chF k f b = F := ⟨_, rfl⟩
    rw [hF] at hne
    have HF := hidH hF
    have R4 := R3.out
    obtain ⟨x0, x1, xz⟩ := R4.two
    have f0 := R4.frozen 0
    have f1 := R4.frozen 1
    rw [hF]
    clear R4 hz hM hF K3 S3
    go_wp2
    exact bodyPost_ret (v := .agg #[.int .i64 F, .slice none 0 0]) (by simp [results, Try.results22, go_sem, x0, x1]) rfl (by rw [HF.out, HM.out]; exact ⟨none, 0, rfl, .inl rfl, bst (bst B3.out (Nat.le_succ _) _) (Nat.le_succ _) _, Nat.le_refl _, by omega⟩)
end Go.Proofs.Ytepcikghhnfacaa
