/- The model's bytes of a chunk: l4Chunk, PackChunk. -/
import Derived.Test.YtepcikghhnfacaaDoorChR
import Derived.Test.YtepcikghhnfacaaDoorPack
import Derived.Test.YtepcikghhnfacaaDoorPad
import Derived.Deep.LoopGhost
namespace Go.Proofs.YtepcikghhnfacaaDoor
open Go.RowKit Go.Deep

theorem win_set (w : World) (g o : Nat) (u : Value) : Win g (g + 1) w (w.setCell ⟨g, o, none⟩ u) :=
  ⟨rfl, rfl, rfl, by simp [World.setCell], fun k _ ho => Below.heap_setCell _ _ _ _ (by show k ≠ g; omega), fun _ _ => World.frozen?_setCell _ _ _ _⟩
/-- The head and the body, j noughts behind. -/
def chTo (H : List Int) (j : Nat) : List Int := H ++ List.replicate j 0
theorem chTo_len (H : List Int) (j : Nat) : (chTo H j).length = H.length + j := by simp [chTo]
theorem chTo_succ (H : List Int) (j : Nat) : chTo H (j + 1) = chTo H j ++ [0] := by simp [chTo, List.replicate_succ']
theorem ch_test (n j : Nat) (hj : j ≤ chPad n) : (4 + n + j) % 4 = 0 ↔ j = chPad n := by unfold chPad at *; omega
set_option maxRecDepth 100000 in
set_option maxHeartbeats 2000000 in
theorem l4Chunk_any (g o : Nat) (k f : Int) (A : Option Addr) (b : List Int) (c : Nat) (w : World) (hC : CkB w g o k f A b c) (hk0 : 0 ≤ k) (hk1 : k ≤ 255) (hf0 : 0 ≤ f) (hf1 : f ≤ 255) (hb : b.length ≤ 1000) :
    Calls Tryd.prog 68 #[.pointer (some ⟨g, o, none⟩)] w (OwnB w (chL k f b)) := by
  obtain ⟨H, hH⟩ : ∃ H, [k, f, ((b.length : Int) + 4) / 256, ((b.length : Int) + 4) % 256] ++ b = H := ⟨_, rfl⟩
  have hHl : H.length = 4 + b.length := by rw [← hH]; simp; omega
  have hL : chL k f b = chTo H (chPad b.length) := by rw [chL, hH, chTo]
  rw [hL]
  have hz4 : chPad b.length < 4 := by unfold chPad; omega
  have HTEST := hidH (ch_test b.length)
  obtain ⟨z, hz⟩ : ∃ z, chPad b.length = z := ⟨_, rfl⟩
  rw [hz] at hz4 HTEST ⊢
  have HC := hidH hC
  have HH := hidH hH
  have HHL := hidH hHl
  have HB := hidH hb
  have hbI : (b.length : Int) ≤ 1000 := by omega
  have HFIN := hidH (And.intro hk0 (And.intro hk1 (And.intro hf0 hf1)))
  clear hC hH hHl hL hz hb hk0 hk1 hf0 hf1
  go_enter Tryd.func68, Tryd.ntmps68
  go_wp2_with fail
  refine wp_region_any (by kernel_rfl) ?_
  refine regCh _ _ g o k f A b c HFIN.out.1 HFIN.out.2.1 HFIN.out.2.2.1 HFIN.out.2.2.2 hbI (by kernel_rfl) (by kernel_rfl) (by kernel_rfl) rfl (fun h => h) (HC.out.below (Below.refl w.heap.size w).drew) (Below.refl _ _) ?_
  intros
  rename_i t3 W hO hown
  have hB : Below w.heap.size w W := btr (Below.refl w.heap.size w).drew hO
  have OW := hidH (show W.ownsRow w.heap.size 5 1 t3 4 _ from hown)
  have HBW := hidH hB
  have CW := HC.out.below hB
  have q2 := CW.c2
  have hlt := CW.lt
  have SB := hidH CW.body
  have hsz := hB.size
  clear CW hown hO hB
  go_wp2_with (at_builtin; refine wpList_append_bs rfl _ _ rfl w.heap.size _ _ _ rfl OW.out A b c rfl SB.out (by have := HB.out; omega) hsz ?_)
  intro v2 w2 o2 g2
  have B2 := hidH (HBW.out.grown g2 hsz (fun x hx => (OW.out.lt x hx).1))
  have O2 := hidH (show w2.ownsRow w.heap.size 5 1 v2 (chTo H 0).length ((chTo H 0).map (Value.int .u8)) by
    rw [chTo_len, HHL.out]
    have := o2
    simpa [chTo, ← HH.out] using this)
  clear o2 g2 q2 SB OW
  go_wp2_with fail
  go_loopg [3] z (fun q v wr => ∃ j : Nat, j ≤ z ∧ q = z - j ∧ wr.ownsRow w.heap.size 5 1 v (chTo H j).length ((chTo H j).map (Value.int .u8)) ∧ Below w.heap.size w wr)
  case atStart => exact ⟨0, by omega, by omega, O2.out, B2.out⟩
  case round =>
    obtain ⟨j, hj, rfl, hown, hB⟩ := hrel
    have hsz := hB.size
    have HL := hidH (show (chTo H j).length = 4 + b.length + j by rw [chTo_len, HHL.out])
    have hpl : ((chTo H j).length : Int) ≤ 60000 := by rw [HL.out]; have := HB.out; omega
    by_cases hlt : j < z
    · have ht : (((chTo H j).length : Int) % 4 != 0) = true := by
        rw [HL.out]
        have := HTEST.out j hj
        rw [bne_iff_ne]; omega
      obtain ⟨A1, c1, rfl, ob, _, _⟩ := own_ob hown
      have P1 := lit_bs wr 5 [0]
      have PH := hidH P1
      have OH := hidH hown
      clear P1 ob
      go_wp2_with (at_builtin; refine wpList_append_bs rfl _ _ rfl w.heap.size _ _ _ rfl (OH.out.alloc _) (some ⟨wr.heap.size, 0, none⟩) [0] 1 rfl PH.out (by have := HL.out; have := HB.out; simp; omega) (by simp; omega) ?_)
      intro v3 w3 o3 g3
      have B3 := hidH (own_grow (m := 0) hB hown g3)
      have O3 := hidH o3
      clear o3 g3 hown hB
      go_wp2
      go_roundg (z - (j + 1))
      case rel => exact ⟨j + 1, by omega, rfl, by rw [chTo_succ]; simpa using O3.out, B3.out⟩
      case measure => omega
    · obtain rfl : j = z := by omega
      have ht : (((chTo H j).length : Int) % 4 != 0) = false := by
        rw [HL.out]
        have := (HTEST.out j hj).2 rfl
        rw [bne_eq_false_iff_eq]; omega
      obtain ⟨A1, c1, rfl, ob, _, _⟩ := own_ob hown
      have OH := hidH hown
      have HBB := hidH hB
      clear ob hlt hj hown hB
      go_wp2
      go_ret
      exact ⟨_, rfl, OH.out, HBB.out⟩
def chM (k f : Int) (b : List Int) : List Int := if chF k f b = 0 then chL k f b else []
theorem chF_zero {k f : Int} {b : List Int} (h : chF k f b = 0) : (0 ≤ k ∧ k ≤ 255) ∧ (0 ≤ f ∧ f ≤ 255) ∧ b.length ≤ 160 := by
  unfold chF inB at h
  split at h
  · next h1 =>
    simp at h1
    split at h
    · exact ⟨h1.1, h1.2, by assumption⟩
    · cases h
  · cases h
theorem bres_at {w W : World} {R : Nat} {A : Option Addr} {l : List Int} {cp : Nat} (x : Int) (hO : Ob (R + 1) W.heap.size W A l) (hR : w.heap.size ≤ R) (hb : Below w.heap.size w W) (h1 : l.length ≤ cp) (h2 : (cp : Int) ≤ 9223372036854775807) (u0 u1 : Value) :
    BRes w x l (.returned (.agg #[.int .i64 x, .slice A l.length cp])) ((W.setCell ⟨R, 0, none⟩ u0).setCell ⟨R, 1, none⟩ u1) := by
  have e : ((W.setCell ⟨R, 0, none⟩ u0).setCell ⟨R, 1, none⟩ u1).heap.size = W.heap.size := by simp [World.setCell]
  refine ⟨A, cp, rfl, ?_, bst (bst hb hR _) hR _, h1, h2⟩
  rw [e]
  exact ((hO.setCell (p := ⟨R, 0, none⟩) (Nat.lt_succ_self _) _).setCell (p := ⟨R, 1, none⟩) (Nat.lt_succ_self _) _).mono (by omega)
end Go.Proofs.YtepcikghhnfacaaDoor
