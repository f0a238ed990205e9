/- slices.Grow and slices.Concat at bytes. -/
import Derived.Test.YtacdnednkglobaaKeyI
import Derived.Test.YtacdnednkglobaaRegInv
import Derived.Test.YtacdnednkglobaaMb0
namespace Go.Proofs.Ytacdnednkglobaa
open Go.RowKit Go.Deep

def sumTo (m n : Nat) : Nat → Nat
  | 0 => 0
  | 1 => m
  | _ => m + n
def catTo (a b : List Int) : Nat → List Int
  | 0 => []
  | 1 => a
  | _ => a ++ b
set_option maxRecDepth 100000 in
set_option maxHeartbeats 1000000 in
theorem concat_any (g : Nat) (A B : Option Addr) (a b : List Int) (ca cb : Nat) (w : World) (hg : Blk w g 25 #[.slice A a.length ca, .slice B b.length cb]) (hA : Bs w A a) (hB : Bs w B b) (ha : a.length ≤ 40000) (hb : b.length ≤ 40000) :
    Calls Try.prog 45 #[.slice (some ⟨g, 0, none⟩) 2 2] w fun e w' => ∃ A' c', e = .returned (.slice A' (a ++ b).length c') ∧ Bs w' A' (a ++ b) ∧ Below w.heap.size w w' := by
  have e0 : w.cell? ⟨g, 0, none⟩ = some (.slice A a.length ca) := hg.cell 0
  have e1 : w.cell? ⟨g, 1, none⟩ = some (.slice B b.length cb) := hg.cell 1
  have ha1 : (a.length : Int) ≤ 40000 := by omega
  have hb1 : (b.length : Int) ≤ 40000 := by omega
  have HG := hidH hg
  have HA := hidH hA
  have HB := hidH hB
  clear hg hA hB
  go_enter Try.func45, Try.ntmps45
  go_wp2
  go_loopw [3, 11] (fun s i wr => ∃ k : Nat, k ≤ 2 ∧ i = .int .i64 k ∧ s = .int .i64 (sumTo a.length b.length k : Nat) ∧ w = wr) (fun _ i _ => 2 - (intOf i).toNat)
  case atStart => exact ⟨0, by omega, rfl, rfl, rfl⟩
  case round =>
    obtain ⟨k, hk, rfl, rfl, rfl⟩ := hrel
    obtain rfl | rfl | rfl : k = 0 ∨ k = 1 ∨ k = 2 := by omega
    · rw [show sumTo a.length b.length 0 = 0 from rfl, show ((0 : Nat) : Int) = 0 from rfl]
      go_wp2
      go_round
      case rel => exact ⟨1, by omega, rfl, by go_num, trivial⟩
      case measure => simp [intOf]
    · rw [show sumTo a.length b.length 1 = a.length from rfl, show ((1 : Nat) : Int) = 1 from rfl]
      go_wp2
      go_round
      case rel => exact ⟨2, by omega, rfl, by go_num, trivial⟩
      case measure => simp [intOf]
    · rw [show sumTo a.length b.length 2 = a.length + b.length from rfl, show ((2 : Nat) : Int) = 2 from rfl]
      have hgr := grow_any (a.length + b.length) w (by omega)
      have HGR := hidH hgr
      clear hgr
      go_wp2_with fail
      refine HGR.out.mono ?_
      rintro e w1 ⟨v, rfl, o1, b1⟩
      have O1 := hidH o1
      have B1 := hidH b1
      clear o1 b1 HGR
      go_wp2
      go_loopw [6, 27] (fun v i wr => ∃ k : Nat, k ≤ 2 ∧ i = .int .i64 k ∧ wr.ownsRow w.heap.size 5 1 v (sumTo a.length b.length k) ((catTo a b k).map (Value.int .u8)) ∧ Below w.heap.size w wr) (fun _ i _ => 2 - (intOf i).toNat)
      case atStart => exact ⟨0, by omega, rfl, O1.out, B1.out⟩
      case round =>
        obtain ⟨k, hk, rfl, ho, hbw⟩ := hrel
        obtain rfl | rfl | rfl : k = 0 ∨ k = 1 ∨ k = 2 := by omega
        · have e2 := (hbw.cell (p := ⟨g, 0, none⟩) HG.out.lt).trans e0
          have hsz := hbw.size
          have HA1 := hidH (bs_below HA.out hbw)
          have HO := hidH ho
          have HW := hidH hbw
          rw [show ((0 : Nat) : Int) = 0 from rfl]
          clear hbw ho e0 e1
          go_wp2_with (at_builtin; refine wpList_append_bs rfl _ _ rfl w.heap.size _ _ _ rfl HO.out _ a ca rfl HA1.out (by simp [sumTo]; omega) hsz ?_)
          intro v' w2 o2 g2
          have B2 := hidH (HW.out.grown g2 hsz (fun k hk => (HO.out.lt k hk).1))
          have O2 := hidH (show w2.ownsRow w.heap.size 5 1 v' (sumTo a.length b.length 1) ((catTo a b 1).map (Value.int .u8)) from by simpa [sumTo, catTo] using o2)
          clear o2 g2 HO HW HA1
          go_wp2
          go_roundw
          case rel => exact ⟨1, by omega, rfl, O2.out, B2.out⟩
          case measure => simp [intOf]
        · have e2 := (hbw.cell (p := ⟨g, 1, none⟩) HG.out.lt).trans e1
          have hsz := hbw.size
          have HA1 := hidH (bs_below HB.out hbw)
          have HO := hidH ho
          have HW := hidH hbw
          rw [show ((1 : Nat) : Int) = 1 from rfl]
          clear hbw ho e0 e1
          go_wp2_with (at_builtin; refine wpList_append_bs rfl _ _ rfl w.heap.size _ _ _ rfl HO.out _ b cb rfl HA1.out (by simp [sumTo]; omega) hsz ?_)
          intro v' w2 o2 g2
          have B2 := hidH (HW.out.grown g2 hsz (fun k hk => (HO.out.lt k hk).1))
          have O2 := hidH (show w2.ownsRow w.heap.size 5 1 v' (sumTo a.length b.length 2) ((catTo a b 2).map (Value.int .u8)) from by simpa [sumTo, catTo] using o2)
          clear o2 g2 HO HW HA1
          go_wp2
          go_roundw
          case rel => exact ⟨2, by omega, rfl, O2.out, B2.out⟩
          case measure => simp [intOf]
        · have o2 : wr.ownsRow w.heap.size 5 1 u6 (a ++ b).length ((a ++ b).map (Value.int .u8)) := by simpa [sumTo, catTo] using ho
          obtain ⟨A', c', rfl, hob, _, _⟩ := own_ob o2
          have HO := hidH hob
          have HW := hidH hbw
          rw [show ((2 : Nat) : Int) = 2 from rfl]
          clear ho o2 hob hbw
          go_wp2
          go_ret
          exact ⟨A', c', rfl, HO.out.bs, HW.out⟩
end Go.Proofs.Ytacdnednkglobaa
