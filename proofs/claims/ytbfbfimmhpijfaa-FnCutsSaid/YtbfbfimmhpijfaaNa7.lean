import Derived.Test.YtbfbfimmhpijfaaNa2
import Derived.RangeFuncNested
import Derived.RangeFuncFrom
import Derived.RangeFuncBound
import Derived.RangeFuncCalls
import Derived.RangeFuncLeaves
import Derived.Shelf.Abstract
import Derived.Shelf.RegionOpen
import Derived.WalkKit
import Derived.OwnWalkIn
import Derived.TacticsInMore
import Derived.LoopNIn
import Derived.LoopIn
import Derived.ControlIn
import Derived.BigQuiet
import Derived.Test.YtbfbfimmhpijfaaNa3
import Derived.Test.YtbfbfimmhpijfaaWords

/- Chapter 8: the program's piecesOf: what its closure hands to a round of a loop. -/
namespace Go.Proofs.Ytbfbfimmhpijfaa
open Go.RowKit Go.Deep Go.Shelf
attribute [local go_sem] Oper.semAt_some

/-- Blocks i and j hold what they held. -/
def Kpp (i j : Nat) (A B : World) : Prop := B.heap[i]? = A.heap[i]? ∧ B.heap[j]? = A.heap[j]?
theorem kpp_t {i j : Nat} {A B C : World} (h : Kpp i j A B) (k : Kpp i j B C) : Kpp i j A C := ⟨k.1.trans h.1, k.2.trans h.2⟩
theorem kpp_b {i j : Nat} {w : World} (hi : i < w.heap.size) (hj : j < w.heap.size) (W : World) (l : Nat) (o o' : Obj) (hl : w.heap.size ≤ l) (_ : W.heap[l]? = some o) (_ : o.isCells = false) (_ : o.isWalk = false) : Kpp i j W (W.putObj l o') :=
  ⟨World.putObj_heap_other (by omega), World.putObj_heap_other (by omega)⟩
/-- The piece of number x (the last one beyond them). -/
def pcV (b off s m L x : Nat) : Value := .slice (some ⟨b, off + min x (m - 1) * s, none⟩) (min s (L - min x (m - 1) * s)) (min s (L - min x (m - 1) * s))
set_option maxHeartbeats 1000000 in
theorem pieces_any (A : Option Addr) (len cap s : Nat) (w : World) : Calls Try.prog 45 #[.slice A len cap, .int .i64 (s : Int)] w fun e w' =>
    e = .returned (.func (.func 77) #[] #[.pointer (some ⟨w.heap.size, 0, none⟩), .pointer (some ⟨w.heap.size + 1, 0, none⟩)]) ∧ (w.alloc (.cells #[.slice A len cap] 22)).alloc (.cells #[.int .i64 (s : Int)] 3) = w' := by
  go_enter Try.func45, Try.ntmps45
  go_wp2
  go_ret
  exact ⟨rfl, rfl⟩
set_option maxRecDepth 100000 in
set_option maxHeartbeats 4000000 in
theorem pc1_in (n l Bs Bn b off m L s cap : Nat) (hn : 1 ≤ n) (hs : 4 ≤ s) (hs2 : s ≤ 100) (hL : 1 ≤ L) (hL2 : L ≤ 400) (hm : m = cutN L s) (hcap : L ≤ cap) (hc2 : (cap : Int) ≤ 9223372036854775807) (J Jx : List Nat → World → Prop)
    (hY : ∀ pre x W, J pre W → pre.length < m → YieldAt Fence.wide (n - 1) Try.prog l #[pcV b off s m L x] W fun e W' =>
      (e = .returned (.bool true) ∧ J (pre ++ [x]) W' ∧ Kpp Bs Bn W W') ∨ (e = .returned (.bool false) ∧ Jx (pre ++ [x]) W'))
    (W : World) (hBs : W.heap[Bs]? = some (.cells #[.slice (some ⟨b, off, none⟩) L cap] 22 (0, 0))) (hBn : W.heap[Bn]? = some (.cells #[.int .i64 (s : Int)] 3 (0, 0))) (h0 : J [] W) :
    CallsIn Fence.wide n Try.prog 77 #[.func (.yield l) #[] #[], .pointer (some ⟨Bs, 0, none⟩), .pointer (some ⟨Bn, 0, none⟩)] W fun e W' => (∃ v, e = .returned v) ∧
      ((∃ ys, ys = List.range m ∧ J ys W') ∨ (∃ pre, True ∧ Jx pre W')) := by
  have HLT := hidH (fun (k : Nat) => show k < m ↔ k * s < L by rw [hm]; exact cutN_lt (by omega))
  have hmm : m ≤ 100 := by rw [hm]; exact cutN_le hs hL2
  clear hm
  refine callsIn_of_wp Try.func77 rfl trivial ?_ rfl
  simp only [Try.ntmps77, List.size_toArray, List.length_cons, List.length_nil, Nat.reduceAdd, Nat.reduceSub, Array.replicate_succ, Array.replicate_zero, List.push_toArray, List.append_toArray, List.nil_append, List.cons_append]
  gi_wp2
  gi_loopw [4] (fun i wr => ∃ k a : Nat, k ≤ m ∧ a = k * s ∧ i = .int .i64 a ∧ J (List.range k) wr ∧ Kpp Bs Bn W wr) (fun i _ => L + s - (intOf i).toNat)
  case atStart => exact ⟨0, 0, Nat.zero_le _, by simp, rfl, h0, rfl, rfl⟩
  case round =>
    obtain ⟨k, a, hk, ha, rfl, hJ, hK⟩ := hrel
    have HA := hidH ha
    have hlt' := HLT.out k
    rw [← ha] at hlt'
    clear ha
    have rS := hK.1.trans hBs
    have rN := hK.2.trans hBn
    have cS := (cell_of_row wr Bs 0 _ _ _ rS)
    have cN := (cell_of_row wr Bn 0 _ _ _ rN)
    simp only [List.getElem?_toArray, List.getElem?_cons_zero] at cS cN
    have HK := hidH hK
    clear rS rN hK
    by_cases hlt : a < L
    · have hk1 : k < m := hlt'.2 hlt
      obtain ⟨len, hlen⟩ : ∃ len, min s (L - a) = len := ⟨_, rfl⟩
      have e := hidH (show pcV b off s m L k = .slice (some ⟨b, off + a, none⟩) len len by rw [pcV, Nat.min_eq_left (by omega), ← HA.out, hlen])
      have HJ := hidH hJ
      have i1 : (a : Int) + (len : Int) ≤ (L : Int) := by omega
      have i2 : (a : Int) < (L : Int) := by omega
      have i3 : (0 : Int) ≤ (a : Int) := by omega
      have i4 : (a : Int) + (len : Int) ≤ (cap : Int) := by omega
      have i5 : (a : Int) ≤ (cap : Int) := by omega
      have i6 : (a : Int) ≤ (a : Int) + (len : Int) := by omega
      have hne : ¬ cap = a := by omega
      have hmin : min ((a : Int) + (s : Int)) (L : Int) = (a : Int) + (len : Int) := by omega
      have hl0 : 0 < len := by omega
      have HLN := hidH hlen
      clear hJ hlen hlt'
      gi_wp2
      case inl h =>
        have HLL := HLN.out
        obtain ⟨fn, tmps, assign, body, hy, hR⟩ := hY (List.range k) k wr HJ.out (by simpa using hk1)
        rw [e.out] at hy
        rw [show L - a = len by omega]
        clear HLL
        rw [hy]
        gi_wp2
        refine hR.mono ?_
        rintro e W3 (⟨rfl, hJ3, hk3⟩ | ⟨rfl, hJx3⟩)
        · have HK3 := hidH (kpp_t HK.out (show Kpp Bs Bn wr W3 from hk3))
          have HJ3 := hidH hJ3
          have cN3 := cell_of_row W3 Bn 0 _ _ _ (HK3.out.2.trans hBn)
          simp only [List.getElem?_toArray, List.getElem?_cons_zero] at cN3
          clear hk3 hJ3 hy cS cN
          gi_wp2
          go_roundw
          case rel => exact ⟨k + 1, a + s, by omega, by rw [Nat.add_mul, Nat.one_mul, ← HA.out], by go_num, by rw [List.range_succ]; exact HJ3.out, HK3.out⟩
          case measure => simp [intOf]; omega
        · gi_wp2
          refine bodyPost_ret (results_none rfl _ _ _) rfl ?_
          exact ⟨⟨_, rfl⟩, .inr ⟨_, trivial, hJx3⟩⟩
      case inr h =>
        have HLL := HLN.out
        obtain ⟨fn, tmps, assign, body, hy, hR⟩ := hY (List.range k) k wr HJ.out (by simpa using hk1)
        rw [e.out] at hy
        rw [show ((a : Int) + (s : Int)).toNat - a = len by omega]
        clear HLL
        rw [hy]
        gi_wp2
        refine hR.mono ?_
        rintro e W3 (⟨rfl, hJ3, hk3⟩ | ⟨rfl, hJx3⟩)
        · have HK3 := hidH (kpp_t HK.out (show Kpp Bs Bn wr W3 from hk3))
          have HJ3 := hidH hJ3
          have cN3 := cell_of_row W3 Bn 0 _ _ _ (HK3.out.2.trans hBn)
          simp only [List.getElem?_toArray, List.getElem?_cons_zero] at cN3
          clear hk3 hJ3 hy cS cN
          gi_wp2
          go_roundw
          case rel => exact ⟨k + 1, a + s, by omega, by rw [Nat.add_mul, Nat.one_mul, ← HA.out], by go_num, by rw [List.range_succ]; exact HJ3.out, HK3.out⟩
          case measure => simp [intOf]; omega
        · gi_wp2
          refine bodyPost_ret (results_none rfl _ _ _) rfl ?_
          exact ⟨⟨_, rfl⟩, .inr ⟨_, trivial, hJx3⟩⟩
    · have hkm : k = m := by have h3 := mt hlt'.1 hlt; omega
      have hge : (L : Int) ≤ (a : Int) := by omega
      have hd2 : decide (a < L) = false := by simp; omega
      have HJ := hidH hJ
      have HKM := hidH hkm
      clear hkm hJ hlt hk hlt'
      gi_wp2
      go_end0
      exact ⟨⟨_, rfl⟩, .inl ⟨_, rfl, HKM.out ▸ HJ.out⟩⟩
theorem pc_stops (n Bs Bn b off m L s cap : Nat) (hn : 1 ≤ n) (hs : 4 ≤ s) (hs2 : s ≤ 100) (hL : 1 ≤ L) (hL2 : L ≤ 400) (hm : m = cutN L s) (hcap : L ≤ cap) (hc2 : (cap : Int) ≤ 9223372036854775807) (w : World)
    (hBs : w.heap[Bs]? = some (.cells #[.slice (some ⟨b, off, none⟩) L cap] 22 (0, 0))) (hBn : w.heap[Bn]? = some (.cells #[.int .i64 (s : Int)] 3 (0, 0))) :
    SeqStopsK Fence.wide n Try.prog 77 #[.pointer (some ⟨Bs, 0, none⟩), .pointer (some ⟨Bn, 0, none⟩)] (fun x : Nat => #[pcV b off s m L x]) (Kpp Bs Bn) (fun ys => ys = List.range m) (fun _ => True) m w := fun l J Jx W hW _ _ hY h0 => by
  have l1 := (Array.getElem?_eq_some_iff.1 hBs).1
  have l2 := (Array.getElem?_eq_some_iff.1 hBn).1
  exact pc1_in n l Bs Bn b off m L s cap hn hs hs2 hL hL2 hm hcap hc2 J Jx hY W ((hW.block _ l1).trans hBs) ((hW.block _ l2).trans hBn) h0
end Go.Proofs.Ytbfbfimmhpijfaa

/- Chapter 8: the program's cutFault. (WRITTEN BY tools/cutf8.py) -/
namespace Go.Proofs.Ytbfbfimmhpijfaa
open Go.RowKit Go.Deep

set_option maxRecDepth 100000 in
set_option maxHeartbeats 4000000 in
theorem cf_impl (y : MessageM) (vs : List Value) (s t q : Int) (u : World) (h : RdA u y.vs vs) : Calls Try.prog 44 #[.agg vs.toArray, .int .i64 s, .int .i64 t, .int .i64 q] u (IntR (cutF y s t q) u) := by
  obtain ⟨A, c, rfl, _⟩ := msg_sh h
  have K1 := Blk.new u 25 #[.int .i64 y.Stream, .bool y.Unordered, .slice A y.Bytes.length c]
  have B1 := bal (Below.refl u.heap.size u) (.cells #[.int .i64 y.Stream, .bool y.Unordered, .slice A y.Bytes.length c] 25)
  have HMS := hidH (msFw_impl y _ _ (RdA.below B1 h))
  have HB1 := hidH B1
  have HK1 := hidH K1
  obtain ⟨F, hF⟩ : ∃ F, msF y = F := ⟨_, rfl⟩
  rw [hF] at HMS
  have HF := hidH hF
  clear hF h B1 K1
  go_enter Try.func44, Try.ntmps44
  go_wp2_with fail
  refine HMS.out.mono ?_
  rintro e w2 ⟨rfl, b2⟩
  have HB2 := hidH (btr HB1.out b2)
  have K2 := HK1.out.below b2
  clear HMS b2
  have y1 := K2.cell 1
  simp only [List.getElem?_toArray, List.getElem?_cons_succ, List.getElem?_cons_zero] at y1
  have g1 := K2.lt
  clear K2
  by_cases hz : F = 0
  case neg =>
    have hz2 : (F != 0) = true := by rw [bne_iff_ne]; exact hz
    have HE := hidH (show cutF y s t q = F from (cutF_msg (by rw [HF.out]; exact hz)).trans HF.out)
    clear hz y1 g1
    go_wp2
    go_ret
    exact ⟨ret_int HE.out.symm, HB2.out⟩
  subst hz
  by_cases hr : (inB s 4 100 && wB t && inB q 0 65535) = true
  case neg =>
    have hr2 : (inB s 4 100 && wB t && inB q 0 65535) = false := by simpa using hr
    have HE := hidH (show cutF y s t q = 3 from cutF_range HF.out hr2)
    clear hr y1 g1
    by_cases s0 : s < 4
    · clear hr2
      go_wp2
      go_ret
      exact ⟨ret_int HE.out.symm, HB2.out⟩
    by_cases s1 : 100 < s
    · clear hr2
      go_wp2
      go_ret
      exact ⟨ret_int HE.out.symm, HB2.out⟩
    rw [show inB s 4 100 = true by simp only [inB, Bool.and_eq_true, decide_eq_true_eq]; omega, Bool.true_and] at hr2
    obtain ⟨a2, ha2⟩ : ∃ a, wB t = a := ⟨_, rfl⟩
    obtain ⟨a3, ha3⟩ : ∃ a, inB q 0 65535 = a := ⟨_, rfl⟩
    rw [ha2, ha3] at hr2
    cases a2
    case false =>
      clear hr2
      go_wp2_with (first | (go_at_call 75; refine (isWord_any _ _).mono ?_; rintro e w' ⟨rfl, rfl⟩) | (go_at_call 76; refine (isPair_any _ _).mono ?_; rintro e w' ⟨rfl, rfl⟩))
      go_ret
      exact ⟨ret_int HE.out.symm, HB2.out⟩
    have ha3f : a3 = false := by simpa using hr2
    subst ha3f
    clear hr2
    go_wp2_with (first | (go_at_call 75; refine (isWord_any _ _).mono ?_; rintro e w' ⟨rfl, rfl⟩) | (go_at_call 76; refine (isPair_any _ _).mono ?_; rintro e w' ⟨rfl, rfl⟩))
    go_ret
    exact ⟨ret_int HE.out.symm, HB2.out⟩
  have hr3 := hr
  simp only [Bool.and_eq_true] at hr3
  obtain ⟨⟨ha1, ha2⟩, ha3⟩ := hr3
  have s1 := inB_out ha1
  have s2 : ¬ s < 4 := by omega
  have s3 : ¬ 100 < s := by omega
  obtain ⟨ub, hub⟩ : ∃ b, y.Unordered = b := ⟨_, rfl⟩
  by_cases hf : y.Unordered = true ∧ q ≠ 0
  case pos =>
    have HE := hidH (show cutF y s t q = 1 from cutF_form HF.out hr hf)
    have hq : (q != 0) = true := by rw [bne_iff_ne]; exact hf.2
    rw [hf.1] at y1
    clear hf hr hub s1
    go_wp2_with (first | (go_at_call 75; refine (isWord_any _ _).mono ?_; rintro e w' ⟨rfl, rfl⟩) | (go_at_call 76; refine (isPair_any _ _).mono ?_; rintro e w' ⟨rfl, rfl⟩))
    go_ret
    exact ⟨ret_int HE.out.symm, HB2.out⟩
  have HE := hidH (show cutF y s t q = 0 from cutF_ok HF.out hr hf)
  clear s1 hr
  cases ub
  · rw [hub] at y1
    clear hf hub
    go_wp2_with (first | (go_at_call 75; refine (isWord_any _ _).mono ?_; rintro e w' ⟨rfl, rfl⟩) | (go_at_call 76; refine (isPair_any _ _).mono ?_; rintro e w' ⟨rfl, rfl⟩))
    go_ret
    exact ⟨ret_int HE.out.symm, HB2.out⟩
  · have hq : (q != 0) = false := by rw [bne_eq_false_iff_eq]; exact Classical.byContradiction fun h => hf ⟨hub, h⟩
    rw [hub] at y1
    clear hf hub
    go_wp2_with (first | (go_at_call 75; refine (isWord_any _ _).mono ?_; rintro e w' ⟨rfl, rfl⟩) | (go_at_call 76; refine (isPair_any _ _).mono ?_; rintro e w' ⟨rfl, rfl⟩))
    go_ret
    exact ⟨ret_int HE.out.symm, HB2.out⟩
end Go.Proofs.Ytbfbfimmhpijfaa

/- The program's wordAfter. -/
namespace Go.Proofs.Ytbfbfimmhpijfaa
open Go.RowKit

set_option maxHeartbeats 400000 in
theorem wa_any (n : Int) (w : World) (h1 : 0 ≤ n) (h2 : n ≤ 4294967295) : Calls Try.prog 47 #[.int .i64 n] w fun e w' => e = .returned (.int .i64 ((n + 1) % 4294967296)) ∧ w' = w := by
  go_enter Try.func47, Try.ntmps47
  go_wp2
  go_ret
  exact ⟨rfl, rfl⟩
end Go.Proofs.Ytbfbfimmhpijfaa
