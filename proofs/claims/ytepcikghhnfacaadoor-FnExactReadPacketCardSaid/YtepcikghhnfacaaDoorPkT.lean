/- The laws' toChunkS, toPacket, eqChunkS, eqPacket. -/
import Derived.Test.YtepcikghhnfacaaDoorPkW
namespace Go.Proofs.YtepcikghhnfacaaDoor
open Go.RowKit Go.Deep

theorem fill0 {w w1 : World} {B g n : Nat} {xs : List Value} {cs : List Chk} (h : w1.ownsRow B 49 3 (.slice (some ⟨g, 0, none⟩) n n) n xs) (hn : cs.length = n) (hb : Below w.heap.size w w1) (hg : w.heap.size ≤ g) : FillC w g cs 0 (fun _ => 0) (fun _ => 0) w1 := by
  rcases h.2 with ⟨h', _⟩ | ⟨g', cap', cur, h', hb', hblk, hnc, hcm, hcs, htake⟩
  · simp at h'
  · simp only [Value.slice.injEq, Option.some.injEq, Addr.mk.injEq, and_true, true_and] at h'
    obtain ⟨rfl, rfl⟩ := h'
    have K : Blk w1 g 49 cur := hblk
    refine ⟨hb, hg, K.lt, fun x hx => ⟨cur[x]'(by omega), ?_⟩, fun t => K.frozen t, fun i k _ hk => by omega, fun i hi => by omega, fun i _ hi => by omega⟩
    rw [K.cell, Array.getElem?_eq_getElem]
set_option maxRecDepth 100000 in
set_option maxHeartbeats 2000000 in
theorem eqCs_same (PA PB : Option Addr) (cs : List Chk) (c d : Nat) (w : World) (hA : Cs w PA cs) (hB : Cs w PB cs) (hm : (cs.length : Int) ≤ 9223372036854775807) (hb : ∀ x ∈ cs, (x.body.length : Int) ≤ 9223372036854775807) :
    Calls Tryd.prog 71 #[.slice PA cs.length c, .slice PB cs.length d] w fun e w' => e = .returned (.bool true) ∧ Below w.heap.size w w' := by
  have HA := hidH hA
  have HB := hidH hB
  have HBB := hidH hb
  clear hA hB hb
  go_enter Tryd.func71, Tryd.ntmps71
  go_wp2
  go_loopw [5] (fun i wr => ∃ j : Nat, j ≤ cs.length ∧ i = .int .i64 j ∧ Below w.heap.size w wr) (fun i _ => cs.length - (intOf i).toNat)
  case atStart => exact ⟨0, by omega, rfl, Below.refl _ _⟩
  case round =>
    obtain ⟨j, hj, rfl, hBw⟩ := hrel
    by_cases hlt : j < cs.length
    · have hj0 : (0 : Int) ≤ (j : Int) := by omega
      have hj1 : (j : Int) < (cs.length : Int) := by omega
      have bd := (Below.refl wr.heap.size wr).drew
      obtain ⟨ga, oa, rfl, hga, A, cA, CA⟩ := ((HA.out.below hBw).below bd).get hlt
      obtain ⟨gb, ob, rfl, hgb, B, cB, CB⟩ := ((HB.out.below hBw).below bd).get hlt
      have HE := hidH (eqCh_same cs[j].kind cs[j].flags A B cs[j].body cA cB wr.drew CA.body CB.body (HBB.out _ (List.getElem_mem hlt)))
      unfold ckV at HE
      have c0 := CA.c0
      have c1 := CA.c1
      have c2 := CA.c2
      have d0 := CB.c0
      have d1 := CB.c1
      have d2 := CB.c2
      have HBW := hidH (btr hBw bd)
      clear CA CB hBw bd
      go_wp2
      go_still_tail 8, (by kernel_rfl)
      change wpList _ _ _ _ _ wr.drew
      go_wp2_with fail
      refine HE.out.mono ?_
      rintro e w3 ⟨rfl, b3⟩
      have B3 := hidH (btr HBW.out b3)
      clear HE HBW b3 c0 c1 c2 d0 d1 d2
      go_wp2
      go_roundw
      case rel => exact ⟨j + 1, by omega, by go_num, B3.out⟩
      case measure => simp [intOf]; omega
    · have HBW := hidH hBw
      have hd : ¬ ((j : Int) < (cs.length : Int)) := by omega
      clear hBw hlt hj
      go_wp2
      go_ret
      exact ⟨rfl, HBW.out⟩
set_option maxHeartbeats 1000000 in
theorem eqPk_same (tag : Int) (PA PB : Option Addr) (cs : List Chk) (c d : Nat) (w : World) (hA : Cs w PA cs) (hB : Cs w PB cs) (hm : (cs.length : Int) ≤ 9223372036854775807) (hb : ∀ x ∈ cs, (x.body.length : Int) ≤ 9223372036854775807) :
    Calls Tryd.prog 52 #[pkV tag PA cs.length c, pkV tag PB cs.length d] w fun e w' => e = .returned (.bool true) ∧ Below w.heap.size w w' := by
  have B2 := bal (bal (Below.refl w.heap.size w) (.cells #[.int .i64 tag, .slice PA cs.length c] 26)) (.cells #[.int .i64 tag, .slice PB cs.length d] 26)
  have HS := hidH (eqCs_same PA PB cs c d _ (hA.below B2) (hB.below B2) hm hb)
  have HB := hidH B2
  unfold pkV
  clear hA hB B2 hb
  go_enter Tryd.func52, Tryd.ntmps52
  go_wp2_with fail
  refine HS.out.mono ?_
  rintro e w' ⟨rfl, b3⟩
  have B3 := hidH (btr HB.out b3)
  clear b3 HS HB
  go_wp2
  go_ret
  exact ⟨rfl, B3.out⟩
end Go.Proofs.YtepcikghhnfacaaDoor
