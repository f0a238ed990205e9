/- The laws' heldChunkS, heldPacket; eqPacketResult, markPacketResult, heldPacketResult. -/
import Derived.Test.YtepcikghhnfacaaDoorPkM
import Derived.Test.YtepcikghhnfacaaDoorRpS
namespace Go.Proofs.YtepcikghhnfacaaDoor
open Go.RowKit Go.Deep

theorem markCs_at (k : Nat) (cs : List Chk) (j : Nat) (hj : j < cs.length) (h : j < (markCs k cs).length) : (markCs k cs)[j] = ⟨((kAt k cs j : Nat) : Int), ((kAt k cs j + 1 : Nat) : Int), marks (kAt k cs j + 2) cs[j].body.length⟩ := by
  simp [markCs]
theorem totB_bound (cs : List Chk) (n : Nat) (h : ∀ x ∈ cs, x.body.length ≤ n) : totB cs ≤ cs.length * n := by
  induction cs with
  | nil => simp [totB]
  | cons x r ih =>
    have h1 := h x List.mem_cons_self
    have h2 := ih (fun y hy => h y (List.mem_cons_of_mem _ hy))
    unfold totB at h2 ⊢
    simp only [List.map_cons, List.sum_cons, List.length_cons]
    rw [Nat.add_mul]
    omega
theorem rdCs_ok {d : List Int} (hd : Bytes d) : ((rdCs d).length : Int) ≤ 500 ∧ (totB (rdCs d) : Int) ≤ 250000 ∧ ∀ x ∈ rdCs d, (x.body.length : Int) ≤ 500 := by
  unfold rdCs
  split
  · next h =>
    have hl : d.length ≤ 500 := by
      rcases Nat.lt_or_ge 500 d.length with h5 | h5
      · rw [rdC, if_pos (.inr h5)] at h; cases h
      · exact h5
    obtain ⟨h1, h2⟩ := mRead_ok _ (d.drop 8) (Nat.le_refl _) (fun x hx => hd x (List.mem_of_mem_drop hx))
    have h3 : (d.drop 8).length ≤ 500 := by rw [List.length_drop]; omega
    have h4 := totB_bound _ 500 (fun x hx => by have := (h2 x hx).2; omega)
    have h5 : (mRead (d.drop 8)).length * 500 ≤ 500 * 500 := Nat.mul_le_mul_right _ (by omega)
    exact ⟨by omega, by omega, fun x hx => by have := (h2 x hx).2; omega⟩
  · exact ⟨by simp, by simp [totB], fun x hx => by cases hx⟩
set_option maxRecDepth 100000 in
set_option maxHeartbeats 2000000 in
theorem heldCs_any (P : Option Addr) (cs : List Chk) (c k : Nat) (w : World) (hP : Cs w P (markCs k cs)) (hn : (cs.length : Int) ≤ 2000000) (ht : (totB cs : Int) ≤ 2000000) (hk : k ≤ 2000000) :
    Calls Tryd.prog 73 #[.slice P cs.length c, .int .i64 k] w fun e w' => e = .returned (.int .i64 ((kAt k cs cs.length : Nat) : Int)) ∧ Below w.heap.size w w' := by
  have HP := hidH hP
  have HKS := hidH (kAt_succ k cs)
  have HKL := hidH (kAt_le k cs)
  have HML := hidH (markCs_len k cs)
  clear hP
  go_enter Tryd.func73, Tryd.ntmps73
  go_wp2
  go_loopw [1, 5] (fun v i wr => ∃ j : Nat, j ≤ cs.length ∧ v = .int .i64 ((kAt k cs j : Nat) : Int) ∧ i = .int .i64 j ∧ Below w.heap.size w wr) (fun _ i _ => cs.length - (intOf i).toNat)
  case atStart => exact ⟨0, Nat.zero_le _, by rw [kAt_zero], rfl, Below.refl _ _⟩
  case round =>
    obtain ⟨j, hj, rfl, rfl, hB⟩ := hrel
    have hkl := HKL.out j hj
    by_cases hlt : j < cs.length
    · have hj0 : (0 : Int) ≤ (j : Int) := by omega
      have hj1 : (j : Int) < (cs.length : Int) := by omega
      obtain ⟨g, o, rfl, hg, A, cb, CK⟩ := (HP.out.below hB).get (j := j) (by rw [HML.out]; exact hlt)
      rw [markCs_at k cs j hlt] at CK
      have c0 := CK.c0
      have c1 := CK.c1
      have c2 := CK.c2
      rw [marks_len] at c2
      have hbl := totB_le cs cs[j] (List.getElem_mem hlt)
      have HS := hidH (HKS.out j hlt)
      have HBD := hidH CK.body
      have HB := hidH hB
      obtain ⟨y, hy⟩ : ∃ y, kAt k cs j = y := ⟨_, rfl⟩
      obtain ⟨z, hz⟩ : ∃ z, cs[j].body.length = z := ⟨_, rfl⟩
      rw [hy] at hkl HS c0 c1 HBD ⊢
      simp only [hz] at HS c2 HBD hbl
      have hzI : (z : Int) ≤ 2000000 := by omega
      have hyI : (y : Int) ≤ 20000000 := by omega
      have HH := hidH (fun u (h : Bs u A (marks (y + 2) z)) => heldB_any A z cb (y + 2) u h (by omega))
      have hcast : (((y + 1 : Nat) : Int)) = (y : Int) + 1 := by omega
      rw [hcast] at c1
      have hk2 : ((y + 2 : Nat) : Int) = (y : Int) + 1 + 1 := by omega
      rw [hk2] at HH
      clear CK hB hkl hy hz hbl hcast hk2
      go_wp2_with fail
      refine (HH.out _ HBD.out).mono ?_
      rintro e w3 ⟨rfl, rfl⟩
      have hpos : ¬ ((((y + 2 + z : Nat) : Int)) < 0) := by omega
      rw [show y + 2 + z = kAt k cs (j + 1) from HS.out.symm] at hpos ⊢
      clear HH HBD c0 c1 c2
      go_wp2
      go_roundw
      case rel => exact ⟨j + 1, by omega, rfl, by go_num, HB.out⟩
      case measure => simp [intOf]; omega
    · obtain rfl : j = cs.length := by omega
      have HB := hidH hB
      clear hB hlt hj hkl
      go_wp2
      go_ret
      exact ⟨rfl, HB.out⟩
set_option maxHeartbeats 1000000 in
theorem heldPk_any (tag : Int) (P : Option Addr) (cs : List Chk) (c k : Nat) (w : World) (hP : Cs w P (markCs k cs)) (hn : (cs.length : Int) ≤ 2000000) (ht : (totB cs : Int) ≤ 2000000) (hk : k ≤ 2000000) :
    Calls Tryd.prog 54 #[pkV tag P cs.length c, .int .i64 k] w fun e w' => e = .returned (.int .i64 ((kAt k cs cs.length : Nat) : Int)) ∧ Below w.heap.size w w' := by
  have B1 := bal (Below.refl w.heap.size w) (.cells #[.int .i64 tag, .slice P cs.length c] 26)
  have HS := hidH (heldCs_any P cs c k _ (hP.below B1) hn ht hk)
  have HB := hidH B1
  unfold pkV
  obtain ⟨z, hz⟩ : ∃ z, kAt k cs cs.length = z := ⟨_, rfl⟩
  rw [hz] at HS ⊢
  clear hP B1 hz
  go_enter Tryd.func54, Tryd.ntmps54
  go_wp2_with fail
  refine HS.out.mono ?_
  rintro e w' ⟨rfl, hb⟩
  have HW := hidH (btr HB.out hb)
  have hpos : ¬ ((z : Int) < 0) := by omega
  clear hb HS
  go_wp2
  go_ret
  exact ⟨rfl, HW.out⟩
/-- A PacketResult's value. -/
def prV (x tag : Int) (P : Option Addr) (n c : Nat) : Value := .agg #[.int .i64 x, .int .i64 tag, .slice P n c]
set_option maxHeartbeats 1000000 in
theorem heldPR_any (x tag : Int) (P : Option Addr) (cs : List Chk) (c k : Nat) (w : World) (hP : Cs w P (markCs k cs)) (hn : (cs.length : Int) ≤ 2000000) (ht : (totB cs : Int) ≤ 2000000) (hk : k ≤ 2000000) :
    Calls Tryd.prog 23 #[prV x tag P cs.length c, .int .i64 k] w fun e w' => e = .returned (.int .i64 ((kAt k cs cs.length : Nat) : Int)) ∧ Below w.heap.size w w' := by
  have B1 := bal (Below.refl w.heap.size w) (.cells #[.int .i64 x, .int .i64 tag, .slice P cs.length c] 33)
  have HS := hidH (heldPk_any tag P cs c k _ (hP.below B1) hn ht hk)
  have HB := hidH B1
  unfold pkV at HS
  unfold prV
  obtain ⟨z, hz⟩ : ∃ z, kAt k cs cs.length = z := ⟨_, rfl⟩
  rw [hz] at HS ⊢
  clear hP B1 hz
  go_enter Tryd.func23, Tryd.ntmps23
  go_wp2_with fail
  refine HS.out.mono ?_
  rintro e w' ⟨rfl, hb⟩
  have HW := hidH (btr HB.out hb)
  have hpos : ¬ ((z : Int) < 0) := by omega
  clear hb HS
  go_wp2
  go_ret
  exact ⟨rfl, HW.out⟩
set_option maxHeartbeats 1000000 in
theorem markPR_any (B C : Nat) (x tag : Int) (P : Option Addr) (cs : List Chk) (c k : Nat) (w : World) (hP : OCs B C w P cs) (hn : (cs.length : Int) ≤ 2000000) (ht : (totB cs : Int) ≤ 2000000) (hk : k ≤ 2000000) :
    Calls Tryd.prog 22 #[prV x tag P cs.length c, .int .i64 k] w fun e w' => e = .returned (.int .i64 ((kAt k cs cs.length : Nat) : Int)) ∧ Win B C w w' ∧ Cs w' P (markCs k cs) := by
  have B1 := bal (Below.refl w.heap.size w) (.cells #[.int .i64 x, .int .i64 tag, .slice P cs.length c] 33)
  have HS := hidH (markPk_any B C tag P cs c k _ (hP.below B1) hn ht hk)
  have HB := hidH B1
  unfold pkV at HS
  unfold prV
  clear hP B1
  go_enter Tryd.func22, Tryd.ntmps22
  go_wp2_with fail
  refine HS.out.mono ?_
  rintro e w' ⟨rfl, hw, hc⟩
  have HW := hidH ((Win.of_below HB.out).trans hw)
  have HC := hidH hc
  clear hw hc HS
  go_wp2
  go_ret
  exact ⟨rfl, HW.out, HC.out⟩
set_option maxHeartbeats 1000000 in
theorem eqPR_same (x tag : Int) (PA PB : Option Addr) (cs : List Chk) (c d : Nat) (w : World) (hA : Cs w PA cs) (hB : Cs w PB cs) (hm : (cs.length : Int) ≤ 9223372036854775807) (hb : ∀ x ∈ cs, (x.body.length : Int) ≤ 9223372036854775807) :
    Calls Tryd.prog 19 #[prV x tag PA cs.length c, prV x tag PB cs.length d] w fun e w' => e = .returned (.bool true) ∧ Below w.heap.size w w' := by
  have B2 := bal (bal (Below.refl w.heap.size w) (.cells #[.int .i64 x, .int .i64 tag, .slice PA cs.length c] 33)) (.cells #[.int .i64 x, .int .i64 tag, .slice PB cs.length d] 33)
  have HS := hidH (eqPk_same tag PA PB cs c d _ (hA.below B2) (hB.below B2) hm hb)
  have HB := hidH B2
  unfold pkV at HS
  unfold prV
  have hne : (x != x) = false := by rw [bne_eq_false_iff_eq]
  clear hA hB B2 hb
  go_enter Tryd.func19, Tryd.ntmps19
  go_wp2_with fail
  refine HS.out.mono ?_
  rintro e w' ⟨rfl, b3⟩
  have B3 := hidH (btr HB.out b3)
  clear b3 HS HB
  go_wp2
  go_ret
  exact ⟨rfl, B3.out⟩
end Go.Proofs.YtepcikghhnfacaaDoor
