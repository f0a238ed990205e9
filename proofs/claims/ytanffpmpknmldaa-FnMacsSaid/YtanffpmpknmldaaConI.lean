/- slices.Grow and slices.Concat at bytes. -/
import Derived.Test.YtanffpmpknmldaaKeyI
import Derived.Test.YtanffpmpknmldaaRegInv
import Derived.Lib.AppendZeros
namespace Go.Proofs.Ytanffpmpknmldaa
open Go.RowKit Go.Deep

theorem wpList_append_run {w : World} {ops : Array Oper} {rest : List Oper} {o : Oper} {a : Act} {Q : Exit → Act → World → Prop} (hgd : o.guard = none) (s x : Operand) (ts : Array TypeId)
    (ho : o.op = .call { callee := .builtin .append, args := #[s, x], argTypes := ts }) (sv xv : Value) (hs : a.eval s = sv) (hx : a.eval x = xv) (d : Option Tmp) (hd : o.dst = d)
    (v : Value) (w1 : World) (hrun : ∀ ty, (Builtin.append_ ts ty #[sv, xv]).run Try.prog w = .ok v w1) (h : wpList Try.prog ops Q rest (a.put d v) w1) : wpList Try.prog ops Q (o :: rest) a w := by
  subst hd
  refine wpList_plain hgd fun K hK => ?_
  unfold Oper.wp
  simp [execOp, ho, resolve, invoke, builtin, hs, hx, hrun, Result.andThen]
  exact hK _ _ h
set_option maxHeartbeats 1000000 in
theorem grow_any (n : Nat) (w : World) (h : n ≤ 100000) : Calls Try.prog 59 #[.slice none 0 0, .int .i64 n] w fun e w' => ∃ v, e = .returned v ∧ w'.ownsRow w.heap.size 5 1 v 0 [] ∧ Below w.heap.size w w' := by
  by_cases h0 : n = 0
  · subst h0
    rw [show ((0 : Nat) : Int) = 0 from rfl]
    go_enter Try.func59, Try.ntmps59
    go_wp2
    go_ret
    exact ⟨_, rfl, ⟨rfl, .inl ⟨rfl, rfl⟩⟩, Below.refl _ _⟩
  · obtain ⟨i0, hi, hz0, hz1, hz2⟩ := info_parts infoU8
    have hnI : (0 : Int) < (n : Int) := by omega
    have hnJ : (n : Int) ≤ 100000 := by omega
    have hap : ∀ ty, (Builtin.append_ #[22, 3] ty #[.slice none 0 0, .int .i64 n]).run Try.prog w = .ok (.slice (some ⟨w.heap.size, 0, none⟩) n (grownCap w n 0 5)) (w.drew.alloc (.cells (Builtin.zeroCells #[.int .u8 0] n ++ Builtin.zeroCells #[.int .u8 0] (grownCap w n 0 5 - n)) 5)) := fun ty =>
      Lib.run_append_nil_zeros w 22 3 ty 5 i0 (.int .u8 0) .i64 .i64 Try.underlying22 (by kernel_rfl) hi hz0 n (by omega) (by rw [hz1]; omega) (by omega) (by rw [hz2]; omega)
    have hge := grownCap_ge w n 0 5
    have hle := grownCap_le_maxLen w n 0 5 (by unfold maxLen; omega)
    generalize grownCap w n 0 5 = c at *
    have hsz : (Builtin.zeroCells #[Value.int .u8 0] n ++ Builtin.zeroCells #[Value.int .u8 0] (c - n)).size = c * 1 := by
      rw [Array.size_append, size_zeroCells, size_zeroCells]; simp; omega
    generalize Builtin.zeroCells #[Value.int .u8 0] n ++ Builtin.zeroCells #[Value.int .u8 0] (c - n) = cs at *
    have HC := hidH (And.intro hge (And.intro hle hsz))
    have hc : (0 : Int) ≤ (c : Int) := by omega
    have HAP := hidH hap
    clear hi hz0 hz1 hz2 hge hle hsz h0 hap
    go_enter Try.func59, Try.ntmps59
    go_wp2_with (at_builtin; refine wpList_append_run rfl _ _ _ rfl (.slice none 0 0) (.int .i64 n) rfl rfl _ rfl _ _ HAP.out ?_)
    go_ret
    refine ⟨_, rfl, ⟨rfl, .inr ⟨w.heap.size, c, cs, rfl, Nat.le_refl _, ?_, by omega, HC.out.2.1, HC.out.2.2, by simp⟩⟩, bal (Below.refl _ _).drew _⟩
    exact heap_alloc_new w.drew _
def sumTo (m n : Nat) : Nat → Nat
  | 0 => 0
  | 1 => m
  | _ => m + n
def catTo (a b : List Int) : Nat → List Int
  | 0 => []
  | 1 => a
  | _ => a ++ b
set_option maxRecDepth 100000 in
set_option maxHeartbeats 1000000 in
theorem concat_any (g : Nat) (A B : Option Addr) (a b : List Int) (ca cb : Nat) (w : World) (hg : Blk w g 22 #[.slice A a.length ca, .slice B b.length cb]) (hA : Bs w A a) (hB : Bs w B b) (ha : a.length ≤ 40000) (hb : b.length ≤ 40000) :
    Calls Try.prog 50 #[.slice (some ⟨g, 0, none⟩) 2 2] w fun e w' => ∃ A' c', e = .returned (.slice A' (a ++ b).length c') ∧ Bs w' A' (a ++ b) ∧ Below w.heap.size w w' := by
  have e0 : w.cell? ⟨g, 0, none⟩ = some (.slice A a.length ca) := hg.cell 0
  have e1 : w.cell? ⟨g, 1, none⟩ = some (.slice B b.length cb) := hg.cell 1
  have ha1 : (a.length : Int) ≤ 40000 := by omega
  have hb1 : (b.length : Int) ≤ 40000 := by omega
  have HG := hidH hg
  have HA := hidH hA
  have HB := hidH hB
  clear hg hA hB
  go_enter Try.func50, Try.ntmps50
  go_wp2
  go_loopw [3, 11] (fun s i wr => ∃ k : Nat, k ≤ 2 ∧ i = .int .i64 k ∧ s = .int .i64 (sumTo a.length b.length k : Nat) ∧ w = wr) (fun _ i _ => 2 - (intOf i).toNat)
  case atStart => exact ⟨0, by omega, rfl, rfl, rfl⟩
  case round =>
    obtain ⟨k, hk, rfl, rfl, rfl⟩ := hrel
    obtain rfl | rfl | rfl : k = 0 ∨ k = 1 ∨ k = 2 := by omega
    · rw [show sumTo a.length b.length 0 = 0 from rfl, show ((0 : Nat) : Int) = 0 from rfl]
      go_wp2
      go_round
      case rel => exact ⟨1, by omega, rfl, by go_num, trivial⟩
      case measure => simp [intOf]
    · rw [show sumTo a.length b.length 1 = a.length from rfl, show ((1 : Nat) : Int) = 1 from rfl]
      go_wp2
      go_round
      case rel => exact ⟨2, by omega, rfl, by go_num, trivial⟩
      case measure => simp [intOf]
    · rw [show sumTo a.length b.length 2 = a.length + b.length from rfl, show ((2 : Nat) : Int) = 2 from rfl]
      have hgr := grow_any (a.length + b.length) w (by omega)
      have HGR := hidH hgr
      clear hgr
      go_wp2_with fail
      refine HGR.out.mono ?_
      rintro e w1 ⟨v, rfl, o1, b1⟩
      have O1 := hidH o1
      have B1 := hidH b1
      clear o1 b1 HGR
      go_wp2
      go_loopw [6, 27] (fun v i wr => ∃ k : Nat, k ≤ 2 ∧ i = .int .i64 k ∧ wr.ownsRow w.heap.size 5 1 v (sumTo a.length b.length k) ((catTo a b k).map (Value.int .u8)) ∧ Below w.heap.size w wr) (fun _ i _ => 2 - (intOf i).toNat)
      case atStart => exact ⟨0, by omega, rfl, O1.out, B1.out⟩
      case round =>
        obtain ⟨k, hk, rfl, ho, hbw⟩ := hrel
        obtain rfl | rfl | rfl : k = 0 ∨ k = 1 ∨ k = 2 := by omega
        · have e2 := (hbw.cell (p := ⟨g, 0, none⟩) HG.out.lt).trans e0
          have hsz := hbw.size
          have HA1 := hidH (bs_below HA.out hbw)
          have HO := hidH ho
          have HW := hidH hbw
          rw [show ((0 : Nat) : Int) = 0 from rfl]
          clear hbw ho e0 e1
          go_wp2_with (at_builtin; refine wpList_append_bs rfl _ _ rfl w.heap.size _ _ _ rfl HO.out _ a ca rfl HA1.out (by simp [sumTo]; omega) hsz ?_)
          intro v' w2 o2 g2
          have B2 := hidH (HW.out.grown g2 hsz (fun k hk => (HO.out.lt k hk).1))
          have O2 := hidH (show w2.ownsRow w.heap.size 5 1 v' (sumTo a.length b.length 1) ((catTo a b 1).map (Value.int .u8)) from by simpa [sumTo, catTo] using o2)
          clear o2 g2 HO HW HA1
          go_wp2
          go_roundw
          case rel => exact ⟨1, by omega, rfl, O2.out, B2.out⟩
          case measure => simp [intOf]
        · have e2 := (hbw.cell (p := ⟨g, 1, none⟩) HG.out.lt).trans e1
          have hsz := hbw.size
          have HA1 := hidH (bs_below HB.out hbw)
          have HO := hidH ho
          have HW := hidH hbw
          rw [show ((1 : Nat) : Int) = 1 from rfl]
          clear hbw ho e0 e1
          go_wp2_with (at_builtin; refine wpList_append_bs rfl _ _ rfl w.heap.size _ _ _ rfl HO.out _ b cb rfl HA1.out (by simp [sumTo]; omega) hsz ?_)
          intro v' w2 o2 g2
          have B2 := hidH (HW.out.grown g2 hsz (fun k hk => (HO.out.lt k hk).1))
          have O2 := hidH (show w2.ownsRow w.heap.size 5 1 v' (sumTo a.length b.length 2) ((catTo a b 2).map (Value.int .u8)) from by simpa [sumTo, catTo] using o2)
          clear o2 g2 HO HW HA1
          go_wp2
          go_roundw
          case rel => exact ⟨2, by omega, rfl, O2.out, B2.out⟩
          case measure => simp [intOf]
        · have o2 : wr.ownsRow w.heap.size 5 1 u6 (a ++ b).length ((a ++ b).map (Value.int .u8)) := by simpa [sumTo, catTo] using ho
          obtain ⟨A', c', rfl, hob, _, _⟩ := own_ob o2
          have HO := hidH hob
          have HW := hidH hbw
          rw [show ((2 : Nat) : Int) = 2 from rfl]
          clear ho o2 hob hbw
          go_wp2
          go_ret
          exact ⟨A', c', rfl, HO.out.bs, HW.out⟩
end Go.Proofs.Ytanffpmpknmldaa
