import Derived.Test.YtbfbfimmhpijfaaS8CR
import Derived.Test.YtbfbfimmhpijfaaBytes
import Derived.Laws.BytesArg
import Derived.Test.YtbfbfimmhpijfaaWords
import Derived.Test.YtbfbfimmhpijfaaNa0
import Derived.Lib.LazyBuf
import Derived.Deep.LoopGhost
import Derived.Test.YtbfbfimmhpijfaaUniL
import Derived.Test.YtbfbfimmhpijfaaUniO
import Derived.Test.YtbfbfimmhpijfaaNa1

/- Chapter 8: the model's l8Cut. -/
namespace Go.Proofs.Ytbfbfimmhpijfaa
open Go.RowKit Go.Deep

theorem cutN_lt {K s i : Nat} (hs : 0 < s) : i < cutN K s ↔ i * s < K := by
  unfold cutN
  rw [Nat.lt_iff_add_one_le, Nat.le_div_iff_mul_le hs, Nat.add_mul]
  omega
theorem cutL_take {y : MessageM} {s : Nat} {t q : Int} {i : Nat} (h : i < (cutL y s t q).length) : (cutL y s t q).take (i + 1) = (cutL y s t q).take i ++ [cutAt y s t q i] := by
  rw [List.take_succ_eq_append_getElem h]
  simp [cutL]
theorem piece_len (b : List Int) (p s : Nat) : ((b.drop p).take s).length = min s (b.length - p) := by simp
set_option maxHeartbeats 400000 in
theorem min_any (a b c : Int) (w : World) (hc : c = if a < b then a else b) : Calls Try.prog 78 #[.int .i64 a, .int .i64 b] w fun e w' => e = .returned (.int .i64 c) ∧ w = w' := by
  subst hc
  by_cases h : a < b
  · rw [if_pos h]
    go_enter Try.func78, Try.ntmps78
    go_wp2
    go_ret
    exact ⟨rfl, rfl⟩
  · rw [if_neg h]
    go_enter Try.func78, Try.ntmps78
    go_wp2
    go_ret
    exact ⟨rfl, rfl⟩
/-- A row that is the list r, owned. -/
def RowD (r : List DataM) (u : World) (e : Ending) (w' : World) : Prop := ∃ (v : Value) (q : List RowE), e = .returned v ∧ RowDa q r ∧ w'.ownsRow u.heap.size 38 7 v r.length (flatR q) ∧ RTs u.heap.size w' q ∧ Below u.heap.size u w'
theorem RowD.own {r : List DataM} {u : World} {e : Ending} {w' : World} (h : RowD r u e w') : ∃ v, e = .returned v ∧ OwV u.heap.size w'.heap.size w' (st_Data r) v ∧ Below u.heap.size u w' := by
  obtain ⟨v, q, h1, h2, h3, h4, h5⟩ := h
  exact ⟨v, h1, h2.own h3 (Nat.le_refl _) h4, h5⟩
set_option maxRecDepth 100000 in
set_option maxHeartbeats 4000000 in
theorem l8Cut_any (y : MessageM) (gm s : Nat) (t q : Int) (u : World) (hM : RdL u y.vs gm 0) (hgm : gm < u.heap.size) (h0 : 4 ≤ s) (h1 : s ≤ 100) (t0 : 0 ≤ t) (t1 : t ≤ 4294967295) (hK : y.Bytes.length ≤ 3000) :
    Calls Try.prog 50 #[.pointer (some ⟨gm, 0, none⟩), .int .i64 (s : Int), .int .i64 t, .int .i64 q] u (RowD (cutL y s t q) u) := by
  obtain ⟨A, c, m0, m1, m2, hb⟩ := mem_Message hM
  have hcap : y.Bytes.length ≤ c := by
    obtain ⟨_, _, e, k, _⟩ := hb.bs_out
    injection e with _ _ e3
    subst e3
    exact k.1
  have hBs := bsOf hb
  have hnn : (cutL y s t q).length ≤ 1000 := by
    rw [cutL_len]
    unfold cutN
    have : (y.Bytes.length + s - 1) / s < 1001 := (Nat.div_lt_iff_lt_mul (by omega)).2 (by omega)
    omega
  have HNN := hidH hnn
  have HLT := hidH (fun (i : Nat) => show i < (cutL y s t q).length ↔ i * s < y.Bytes.length by rw [cutL_len]; exact cutN_lt (by omega))
  have HTK := hidH (fun (i : Nat) (h : i < (cutL y s t q).length) => cutL_take h)
  have HPT := hidH (fun (i : Nat) (W : World) (h : (i : Int) ≤ 4294967295) => l1Add_any t (i : Int) W t0 t1 (by omega) h)
  have HBS := hidH hBs
  have HCAP := hidH hcap
  have HO0 := hidH (show (u.alloc (.cells #[] 38)).ownsRow u.heap.size 38 7 (.slice (some ⟨u.heap.size, 0, none⟩) 0 0) 0 [] from World.ownsRow_lit u #[] 0 (Nat.le_refl _) (by unfold maxLen; omega) rfl)
  have HB0 := hidH (bal (Below.refl u.heap.size u) (.cells #[] 38))
  have hKK : (y.Bytes.length : Int) ≤ 3000 := by omega
  have m0' := (HB0.out.cell (p := ⟨gm, 0, none⟩) hgm).trans m0
  have m2' := (HB0.out.cell (p := ⟨gm, 0 + 2, none⟩) hgm).trans m2
  rw [Nat.zero_add] at m1 m2 m2'
  have HM := hidH (And.intro m0 (And.intro m1 m2))
  clear hM hb hBs hcap hnn m0 m1 m2 t0 t1
  go_enter Try.func50, Try.ntmps50
  go_wp2
  clear m0' m2'
  go_loopw [9, 11] (fun v at_ wr => ∃ (i : Nat) (qq : List RowE), i ≤ (cutL y s t q).length ∧ at_ = .int .i64 ((i * s : Nat) : Int) ∧ RowDa qq ((cutL y s t q).take i) ∧ wr.ownsRow u.heap.size 38 7 v i (flatR qq) ∧ RTs u.heap.size wr qq ∧ Below u.heap.size u wr) (fun _ at_ _ => y.Bytes.length + s - (intOf at_).toNat)
  case atStart => exact ⟨0, [], by omega, by simp, RowDa.nil, HO0.out, RTs.nil _ _, HB0.out⟩
  case round =>
    obtain ⟨i, qq, hi, rfl, hq, ho, hk, hB⟩ := hrel
    have hin := HNN.out
    obtain ⟨p, hp⟩ : ∃ p, i * s = p := ⟨_, rfl⟩
    have hlti := HLT.out i
    rw [hp] at hlti ⊢
    have hp0 : (0 : Int) ≤ (p : Int) := by omega
    have HO := hidH ho
    have HK := hidH hk
    have HBW := hidH hB
    have HQ := hidH hq
    have HP := hidH hp
    by_cases hlt : p < y.Bytes.length
    · have hil := hlti.2 hlt
      have hp1 : (p : Int) < (y.Bytes.length : Int) := by omega
      obtain ⟨l, hl⟩ : ∃ l, (y.Bytes.drop p).take s = l := ⟨_, rfl⟩
      have hll := piece_len y.Bytes p s
      rw [hl] at hll
      have HMIN := hidH (fun (W : World) => min_any ((p : Int) + (s : Int)) (y.Bytes.length : Int) ((p : Int) + (l.length : Int)) W (by split <;> omega))
      have hfb : ((p : Int) == 0) = decide (i = 0) := by
        rw [Bool.eq_iff_iff, beq_iff_eq, decide_eq_true_iff]
        constructor
        · intro h
          have h2 : i * s = 0 := by omega
          rcases Nat.mul_eq_zero.1 h2 with h3 | h3 <;> omega
        · intro h; subst h; omega
      have hlb : ((p : Int) + (l.length : Int) == (y.Bytes.length : Int)) = decide (y.Bytes.length ≤ (i + 1) * s) := by
        rw [Bool.eq_iff_iff, beq_iff_eq, decide_eq_true_iff, Nat.add_mul]
        constructor <;> intro h <;> omega
      have hii : (i : Int) ≤ 1000 := by omega
      have hdv : (p : Int) / (s : Int) = (i : Int) := by
        rw [← hp]; push_cast
        exact Int.mul_ediv_cancel _ (by omega)
      have hdt : (p : Int).tdiv (s : Int) = (i : Int) := by rw [Int.tdiv_eq_ediv_of_nonneg hp0]; exact hdv
      have hs0 : (0 : Int) < (s : Int) := by omega
      have hpc : p + l.length ≤ c := by have := HCAP.out; omega
      have HPC := hidH hpc
      have HAT := hidH (And.intro (show (cutAt y s t q i).Tsn = (t + (i : Int)) % 4294967296 from rfl) (show cutAt y s t q i = ⟨(t + (i : Int)) % 4294967296, y.Stream, q, decide (i = 0), decide (y.Bytes.length ≤ (i + 1) * s), y.Unordered, l⟩ by rw [← hl, ← hp]; rfl))
      have HLB := hidH (show Bs u (cutA A p c) l from by
        rw [← hl]
        refine cutA_bs HBS.out (by rw [piece_len]; omega) (HCAP.out) (fun j hj => ?_)
        rw [piece_len] at hj
        simp [List.getD_eq_getElem?_getD, List.getElem?_take_of_lt (show j < s by omega)])
      have HFL := hidH (And.intro hfb hlb)
      have HD := hidH (And.intro hdv hdt)
      have HIL := hidH hil
      have hl4 : l.length ≤ 4000000 := by omega
      have HL4 := hidH hl4
      have hsi : (s : Int) ≤ 100 := by omega
      clear ho hk hB hq hlti hl hll hfb hlb hdv hdt hil hp hpc hl4
      go_wp2_with (go_at_call 78; refine (HMIN.out _).mono ?_; rintro e w' ⟨rfl, rfl⟩)
      refine wp_region_any (by kernel_rfl) ?_
      refine regK7 _ _ _ _ _ _ _ _ _ _ _ _ _ _ _ _ _ _ _ _ _ _ _ _ _ _ _ _ _ _ _ _ _ _ _ _ _ _ _ _ _ _ _ _ _ _ _ _ _ _ _ _ _ _ _ (flatR qq) wr u.heap.size i i gm p s y.Bytes.length t ((t + (i : Int)) % 4294967296) y.Stream q (decide (i = 0)) (decide (y.Bytes.length ≤ (i + 1) * s)) y.Unordered A l c hgm (hidH (by omega)) hp0 hs0 HD.out.1 HD.out.2 hii HFL.out.1 HFL.out.2 HPC.out HL4 (hidH (fun W hb => bs_below HLB.out (HBW.out.trans hb))) (fun W => HPT.out i W (by omega)) ((HBW.out.cell (p := ⟨gm, 0, none⟩) hgm).trans HM.out.1) ((HBW.out.cell (p := ⟨gm, 1, none⟩) hgm).trans HM.out.2.1) ((HBW.out.cell (p := ⟨gm, 2, none⟩) hgm).trans HM.out.2.2) (by kernel_rfl) (by kernel_rfl) (by kernel_rfl) rfl (fun h => by cases h) (fun h => by cases h) (fun h => by cases h) (Below.refl _ _).drew (B8.of_below (Below.refl _ _).drew) HBW.out.size (Nat.le_refl _) (fun _ => HO.out) ?_
      intros
      rename_i W gB gU gS gW gR
      obtain ⟨A9, c9, o9, s9⟩ := gR
      obtain ⟨lo, hi2, hlo, hkt⟩ := RT.of_row s9 gW [.int ((t + (i : Int)) % 4294967296), .int y.Stream, .int q, .bool (decide (i = 0)), .bool (decide (y.Bytes.length ≤ (i + 1) * s)), .bool y.Unordered]
      have HN := hidH (show RowDa (qq ++ [daE (cutAt y s t q i) (.slice A9 l.length c9) lo hi2]) ((cutL y s t q).take (i + 1)) ∧ RTs u.heap.size W (qq ++ [daE (cutAt y s t q i) (.slice A9 l.length c9) lo hi2]) ∧ Below u.heap.size u W from
        ⟨by rw [HTK.out i HIL.out]; exact HQ.out.snoc _ _ _ _, by rw [HAT.out.2]; exact (HK.out.turn gW gU).snoc hkt (Nat.le_trans HBW.out.size hlo) (fun y hy => Nat.le_trans (HK.out.top y hy) hlo), HBW.out.trans gB⟩)
      have HO9 := hidH (show W.ownsRow u.heap.size 38 7 _ (i + 1) (flatR (qq ++ [daE (cutAt y s t q i) (.slice A9 l.length c9) lo hi2])) by rw [HAT.out.2, flatR_app]; exact o9)
      clear gB gU gS gW o9 s9 hkt
      go_wp2
      go_roundw
      case rel => exact ⟨i + 1, _, HIL.out, by rw [Nat.add_mul, HP.out, Nat.one_mul]; go_num, HN.out.1, HO9.out, HN.out.2.1, HN.out.2.2⟩
      case measure => simp [intOf]; omega
    · have hge : ¬ (p : Int) < (y.Bytes.length : Int) := by omega
      have hil : i = (cutL y s t q).length := by have h3 := mt hlti.1 hlt; omega
      subst hil
      rw [List.take_length] at HQ
      clear ho hk hB hq hlt hlti hi hp HP
      go_wp2
      go_ret
      exact ⟨_, qq, rfl, HQ.out, HO.out, HK.out, HBW.out⟩
end Go.Proofs.Ytbfbfimmhpijfaa

/- The laws' lwBytes: two slices of the same bytes are the same text. -/
namespace Go.Proofs.Ytbfbfimmhpijfaa
open Go.RowKit Go.Deep
theorem conv_bs (w : World) (A : Option Addr) (l : List Int) (c : Nat) (h : Bs w A l) : (convert 22 9 (.slice A l.length c)).run Try.prog w = .ok (.string (strOfNums l)) w := by
  rcases h with rfl | ⟨b, off, rfl, _, h⟩
  · rw [List.length_nil, run_convert_bytes_string w 22 9 5 _ 0 c Try.underlying22 Try.underlying5 Try.underlying9]
    cases A <;> simp [Conv.bytesToString, loadCells]
    all_goals rfl
  · exact run_convert_bytes_arg w 22 5 Try.underlying22 Try.underlying5 b off _ c l rfl h 9 Try.underlying9
end Go.Proofs.Ytbfbfimmhpijfaa

/- What SerialLess answers, the program's and the model's, and what the comparison of two IntResults answers. No condition. -/
namespace Go.Proofs.Ytbfbfimmhpijfaa
open Go.RowKit

def lessB (a b : Int) : Bool := inB (gapV a b) 1 2147483647
theorem gapV_no {a b : Int} (h : ¬ (IsW a ∧ IsW b)) : gapV a b = 0 := by rw [gapV, if_neg h]
theorem addC_no {a b : Int} (h : ¬ (IsW a ∧ IsW b)) : addC a b = 3 := by rw [addC, if_neg h]
theorem addC_yes {a b : Int} (h : IsW a ∧ IsW b) : addC a b = 0 := by rw [addC, if_pos h]

end Go.Proofs.Ytbfbfimmhpijfaa

/- The model's SameMac. -/
namespace Go.Proofs.Ytbfbfimmhpijfaa
open Go.RowKit Go.Deep

def sameM (a b : List Int) : Bool := a.length == 32 && a == b
theorem strOfNums_inj {a b : List Int} (ha : Bytes a) (hb : Bytes b) (h : strOfNums a = strOfNums b) : a = b := by
  have e : a.map (fun n => UInt8.ofNat n.toNat) = b.map (fun n => UInt8.ofNat n.toNat) := by
    rw [← strOfNums_data, ← strOfNums_data, h]
  have key : ∀ (l : List Int), Bytes l → (l.map (fun n => UInt8.ofNat n.toNat)).map (fun (u : UInt8) => (u.toNat : Int)) = l := by
    intro l hl
    rw [List.map_map]
    conv => rhs; rw [← List.map_id l]
    refine List.map_congr_left fun x hx => ?_
    have := hl x hx
    simp only [Function.comp, id, UInt8.toNat_ofNat']
    omega
  rw [← key a ha, ← key b hb, e]
end Go.Proofs.Ytbfbfimmhpijfaa

/- The program's isByte, ChunkFault, bytes.Clone, bytes.Equal. -/
namespace Go.Proofs.Ytbfbfimmhpijfaa
open Go.RowKit Go.Deep

theorem str_eqb {x y : List Int} (hx : Bytes x) (hy : Bytes y) : ((strOfNums x).toList == (strOfNums y).toList) = decide (x = y) := by
  rw [ByteArray.toList_eq, ByteArray.toList_eq]
  by_cases e : x = y
  · subst e; simp
  · have : (strOfNums x).data.toList ≠ (strOfNums y).data.toList := fun h => e (strOfNums_inj hx hy (by
      cases hx : strOfNums x; cases hy : strOfNums y
      rw [hx, hy] at h
      simpa using h))
    rw [beq_eq_false_iff_ne.2 this, decide_eq_false e]
set_option maxHeartbeats 1000000 in
theorem clone_any (A : Option Addr) (l : List Int) (c : Nat) (w : World) (hA : Bs w A l) (hm : l.length ≤ 4000000) :
    Calls Try.prog 46 #[.slice A l.length c] w (OwnB w l) := by
  rcases A with _ | ad
  · obtain rfl : l = [] := by
      rcases hA with h | ⟨b, off, h, _⟩
      · exact h
      · cases h
    rw [show ([] : List Int).length = 0 from rfl]
    have hnil : (binOp .eql 22 (.slice none 0 c) (.slice none 0 0)).run Try.prog w = .ok (.bool true) w := Go.run_eql_slice_nil w 22 5 none 0 c Try.underlying22
    go_enter Try.func46, Try.ntmps46
    go_wp2
    go_ret
    exact ⟨_, rfl, ⟨rfl, .inl ⟨rfl, rfl⟩⟩, Below.refl _ _⟩
  · have hown : (w.alloc (.cells #[] 5)).ownsRow w.heap.size 5 1 (.slice (some ⟨w.heap.size, 0, none⟩) 0 0) 0 [] := World.ownsRow_lit w #[] 0 (Nat.le_refl _) (by unfold maxLen; omega) rfl
    have hA2 := bs_below hA (bal (Below.refl _ w) (.cells #[] 5))
    have HO := hidH hown
    have HA := hidH hA2
    have hb2 := hidH (bal (Below.refl _ w) (.cells #[] 5))
    clear hown hA2 hA
    have hnil := Go.run_eql_slice_nil w 22 5 (some ad) l.length c Try.underlying22
    go_enter Try.func46, Try.ntmps46
    go_wp2_with (at_builtin; refine wpList_append_bs rfl _ _ rfl w.heap.size _ _ _ rfl HO.out (some ad) l c rfl HA.out (by omega) (by simp) ?_)
    intro v' w2 hown' hgrow
    have B2 := hidH (hb2.out.grown hgrow (by simp) (fun k hk => by simp [Value.ownBlock] at hk; omega))
    have O2 := hidH hown'
    clear hown' hgrow
    go_wp2
    go_ret
    exact ⟨_, rfl, by simpa using O2.out, B2.out⟩
set_option maxHeartbeats 1000000 in
theorem bEqual_any (A B : Option Addr) (a b : List Int) (ca cb : Nat) (w : World) (hA : Bs w A a) (hB : Bs w B b) (ba : Bytes a) (bb : Bytes b) :
    Calls Try.prog 83 #[.slice A a.length ca, .slice B b.length cb] w fun e w' => e = .returned (.bool (decide (a = b))) ∧ w = w' := by
  have h1 := conv_bs w A a ca hA
  have h2 := conv_bs w B b cb hB
  have HS := hidH (str_eqb ba bb)
  clear hA hB
  go_enter Try.func83, Try.ntmps83
  go_wp2
  go_ret
  exact ⟨by rw [← HS.out]; rfl, rfl⟩
end Go.Proofs.Ytbfbfimmhpijfaa

/- The program's byteWriter: put, number, pair, word, count, numbers. -/
namespace Go.Proofs.Ytbfbfimmhpijfaa
open Go.RowKit Go.Deep

end Go.Proofs.Ytbfbfimmhpijfaa

/- Init, Answer and their results (WRITTEN BY tools/kinds.py) -/
namespace Go.Proofs.Ytbfbfimmhpijfaa
open Go.RowKit Go.Deep Go.ChangeShapes Go.WideShapes Go.ChangeAt

structure InitM where
  Tag : Int
  Tsn : Int
  Random : List Int
  Addrs : List Int
  Cookie : List Int
def InitM.vs (x : InitM) : List V := [.int x.Tag, .int x.Tsn, .bs x.Random, .is x.Addrs, .bs x.Cookie]
theorem shape_Init {w : World} {n0 : Int} {n1 : Int} {l2 : List Int} {l3 : List Int} {l4 : List Int} {vs : List Value} (h : RdA w [.int n0, .int n1, .bs l2, .is l3, .bs l4] vs) : ∃ (A2 : Option Addr) (c2 : Nat) (A3 : Option Addr) (c3 : Nat) (A4 : Option Addr) (c4 : Nat), vs = [.int .i64 n0, .int .i64 n1, .slice A2 l2.length c2, .slice A3 l3.length c3, .slice A4 l4.length c4] := by
  obtain ⟨q0, e0, t0⟩ := h.int_out
  subst e0
  obtain ⟨q1, e1, t1⟩ := t0.int_out
  subst e1
  obtain ⟨v2, q2, e2, h2, t2⟩ := t1.any_out
  obtain ⟨A2, c2, a2⟩ := h2.bs_sh
  subst e2 a2
  obtain ⟨v3, q3, e3, h3, t3⟩ := t2.any_out
  obtain ⟨A3, c3, a3⟩ := h3.is_sh
  subst e3 a3
  obtain ⟨v4, q4, e4, h4, t4⟩ := t3.any_out
  obtain ⟨A4, c4, a4⟩ := h4.bs_sh
  subst e4 a4
  have z := t4.nil_out
  subst z
  exact ⟨A2, c2, A3, c3, A4, c4, rfl⟩
theorem cnt_Init (y : InitM) (h : tot.totL y.vs ≤ 1048576) : vcA y.vs ≤ 1000000000 := by
  simp only [InitM.vs, vcA, vc, tot.totL, tot, cc] at *
  omega
theorem mem_Init {w : World} {g o : Nat} {y : InitM} (h : RdL w y.vs g o) : ∃ (A2 : Option Addr) (c2 : Nat) (A3 : Option Addr) (c3 : Nat) (A4 : Option Addr) (c4 : Nat), w.cell? ⟨g, o, none⟩ = some (.int .i64 y.Tag) ∧ w.cell? ⟨g, o + 1, none⟩ = some (.int .i64 y.Tsn) ∧ w.cell? ⟨g, o + 2, none⟩ = some (.slice A2 y.Random.length c2) ∧ w.cell? ⟨g, o + 3, none⟩ = some (.slice A3 y.Addrs.length c3) ∧ w.cell? ⟨g, o + 4, none⟩ = some (.slice A4 y.Cookie.length c4) ∧ Rd w (.bs y.Random) (.slice A2 y.Random.length c2) ∧ Rd w (.is y.Addrs) (.slice A3 y.Addrs.length c3) ∧ Rd w (.bs y.Cookie) (.slice A4 y.Cookie.length c4) := by
  obtain ⟨u0, p0, t0⟩ := h.get? 0 (.int y.Tag) rfl
  have e0 := t0.int_out
  subst e0
  obtain ⟨u1, p1, t1⟩ := h.get? 1 (.int y.Tsn) rfl
  have e1 := t1.int_out
  subst e1
  obtain ⟨u2, p2, t2⟩ := h.get? 2 (.bs y.Random) rfl
  obtain ⟨A2, c2, e2⟩ := t2.bs_sh
  subst e2
  obtain ⟨u3, p3, t3⟩ := h.get? 3 (.is y.Addrs) rfl
  obtain ⟨A3, c3, e3⟩ := t3.is_sh
  subst e3
  obtain ⟨u4, p4, t4⟩ := h.get? 4 (.bs y.Cookie) rfl
  obtain ⟨A4, c4, e4⟩ := t4.bs_sh
  subst e4
  rw [Nat.add_zero] at p0
  exact ⟨A2, c2, A3, c3, A4, c4, p0, p1, p2, p3, p4, t2, t3, t4⟩
structure InitResultM where
  Code : Int
  Init_Tag : Int
  Init_Tsn : Int
  Init_Random : List Int
  Init_Addrs : List Int
  Init_Cookie : List Int
def InitResultM.vs (x : InitResultM) : List V := [.int x.Code, .int x.Init_Tag, .int x.Init_Tsn, .bs x.Init_Random, .is x.Init_Addrs, .bs x.Init_Cookie]
theorem shape_InitResult {w : World} {n0 : Int} {n1 : Int} {n2 : Int} {l3 : List Int} {l4 : List Int} {l5 : List Int} {vs : List Value} (h : RdA w [.int n0, .int n1, .int n2, .bs l3, .is l4, .bs l5] vs) : ∃ (A3 : Option Addr) (c3 : Nat) (A4 : Option Addr) (c4 : Nat) (A5 : Option Addr) (c5 : Nat), vs = [.int .i64 n0, .int .i64 n1, .int .i64 n2, .slice A3 l3.length c3, .slice A4 l4.length c4, .slice A5 l5.length c5] := by
  obtain ⟨q0, e0, t0⟩ := h.int_out
  subst e0
  obtain ⟨q1, e1, t1⟩ := t0.int_out
  subst e1
  obtain ⟨q2, e2, t2⟩ := t1.int_out
  subst e2
  obtain ⟨v3, q3, e3, h3, t3⟩ := t2.any_out
  obtain ⟨A3, c3, a3⟩ := h3.bs_sh
  subst e3 a3
  obtain ⟨v4, q4, e4, h4, t4⟩ := t3.any_out
  obtain ⟨A4, c4, a4⟩ := h4.is_sh
  subst e4 a4
  obtain ⟨v5, q5, e5, h5, t5⟩ := t4.any_out
  obtain ⟨A5, c5, a5⟩ := h5.bs_sh
  subst e5 a5
  have z := t5.nil_out
  subst z
  exact ⟨A3, c3, A4, c4, A5, c5, rfl⟩
theorem cnt_InitResult (y : InitResultM) (h : tot.totL y.vs ≤ 1048576) : vcA y.vs ≤ 1000000000 := by
  simp only [InitResultM.vs, vcA, vc, tot.totL, tot, cc] at *
  omega
theorem mem_InitResult {w : World} {g o : Nat} {y : InitResultM} (h : RdL w y.vs g o) : ∃ (A3 : Option Addr) (c3 : Nat) (A4 : Option Addr) (c4 : Nat) (A5 : Option Addr) (c5 : Nat), w.cell? ⟨g, o, none⟩ = some (.int .i64 y.Code) ∧ w.cell? ⟨g, o + 1, none⟩ = some (.int .i64 y.Init_Tag) ∧ w.cell? ⟨g, o + 2, none⟩ = some (.int .i64 y.Init_Tsn) ∧ w.cell? ⟨g, o + 3, none⟩ = some (.slice A3 y.Init_Random.length c3) ∧ w.cell? ⟨g, o + 4, none⟩ = some (.slice A4 y.Init_Addrs.length c4) ∧ w.cell? ⟨g, o + 5, none⟩ = some (.slice A5 y.Init_Cookie.length c5) ∧ Rd w (.bs y.Init_Random) (.slice A3 y.Init_Random.length c3) ∧ Rd w (.is y.Init_Addrs) (.slice A4 y.Init_Addrs.length c4) ∧ Rd w (.bs y.Init_Cookie) (.slice A5 y.Init_Cookie.length c5) := by
  obtain ⟨u0, p0, t0⟩ := h.get? 0 (.int y.Code) rfl
  have e0 := t0.int_out
  subst e0
  obtain ⟨u1, p1, t1⟩ := h.get? 1 (.int y.Init_Tag) rfl
  have e1 := t1.int_out
  subst e1
  obtain ⟨u2, p2, t2⟩ := h.get? 2 (.int y.Init_Tsn) rfl
  have e2 := t2.int_out
  subst e2
  obtain ⟨u3, p3, t3⟩ := h.get? 3 (.bs y.Init_Random) rfl
  obtain ⟨A3, c3, e3⟩ := t3.bs_sh
  subst e3
  obtain ⟨u4, p4, t4⟩ := h.get? 4 (.is y.Init_Addrs) rfl
  obtain ⟨A4, c4, e4⟩ := t4.is_sh
  subst e4
  obtain ⟨u5, p5, t5⟩ := h.get? 5 (.bs y.Init_Cookie) rfl
  obtain ⟨A5, c5, e5⟩ := t5.bs_sh
  subst e5
  rw [Nat.add_zero] at p0
  exact ⟨A3, c3, A4, c4, A5, c5, p0, p1, p2, p3, p4, p5, t3, t4, t5⟩
structure AnswerM where
  Serial : Int
  Codes : List Int
def AnswerM.vs (x : AnswerM) : List V := [.int x.Serial, .is x.Codes]
theorem shape_Answer {w : World} {n0 : Int} {l1 : List Int} {vs : List Value} (h : RdA w [.int n0, .is l1] vs) : ∃ (A1 : Option Addr) (c1 : Nat), vs = [.int .i64 n0, .slice A1 l1.length c1] := by
  obtain ⟨q0, e0, t0⟩ := h.int_out
  subst e0
  obtain ⟨v1, q1, e1, h1, t1⟩ := t0.any_out
  obtain ⟨A1, c1, a1⟩ := h1.is_sh
  subst e1 a1
  have z := t1.nil_out
  subst z
  exact ⟨A1, c1, rfl⟩
theorem cnt_Answer (y : AnswerM) (h : tot.totL y.vs ≤ 1048576) : vcA y.vs ≤ 1000000000 := by
  simp only [AnswerM.vs, vcA, vc, tot.totL, tot, cc] at *
  omega
theorem mem_Answer {w : World} {g o : Nat} {y : AnswerM} (h : RdL w y.vs g o) : ∃ (A1 : Option Addr) (c1 : Nat), w.cell? ⟨g, o, none⟩ = some (.int .i64 y.Serial) ∧ w.cell? ⟨g, o + 1, none⟩ = some (.slice A1 y.Codes.length c1) ∧ Rd w (.is y.Codes) (.slice A1 y.Codes.length c1) := by
  obtain ⟨u0, p0, t0⟩ := h.get? 0 (.int y.Serial) rfl
  have e0 := t0.int_out
  subst e0
  obtain ⟨u1, p1, t1⟩ := h.get? 1 (.is y.Codes) rfl
  obtain ⟨A1, c1, e1⟩ := t1.is_sh
  subst e1
  rw [Nat.add_zero] at p0
  exact ⟨A1, c1, p0, p1, t1⟩
structure AnswerResultM where
  Code : Int
  Answer_Serial : Int
  Answer_Codes : List Int
def AnswerResultM.vs (x : AnswerResultM) : List V := [.int x.Code, .int x.Answer_Serial, .is x.Answer_Codes]
theorem shape_AnswerResult {w : World} {n0 : Int} {n1 : Int} {l2 : List Int} {vs : List Value} (h : RdA w [.int n0, .int n1, .is l2] vs) : ∃ (A2 : Option Addr) (c2 : Nat), vs = [.int .i64 n0, .int .i64 n1, .slice A2 l2.length c2] := by
  obtain ⟨q0, e0, t0⟩ := h.int_out
  subst e0
  obtain ⟨q1, e1, t1⟩ := t0.int_out
  subst e1
  obtain ⟨v2, q2, e2, h2, t2⟩ := t1.any_out
  obtain ⟨A2, c2, a2⟩ := h2.is_sh
  subst e2 a2
  have z := t2.nil_out
  subst z
  exact ⟨A2, c2, rfl⟩
theorem cnt_AnswerResult (y : AnswerResultM) (h : tot.totL y.vs ≤ 1048576) : vcA y.vs ≤ 1000000000 := by
  simp only [AnswerResultM.vs, vcA, vc, tot.totL, tot, cc] at *
  omega
theorem mem_AnswerResult {w : World} {g o : Nat} {y : AnswerResultM} (h : RdL w y.vs g o) : ∃ (A2 : Option Addr) (c2 : Nat), w.cell? ⟨g, o, none⟩ = some (.int .i64 y.Code) ∧ w.cell? ⟨g, o + 1, none⟩ = some (.int .i64 y.Answer_Serial) ∧ w.cell? ⟨g, o + 2, none⟩ = some (.slice A2 y.Answer_Codes.length c2) ∧ Rd w (.is y.Answer_Codes) (.slice A2 y.Answer_Codes.length c2) := by
  obtain ⟨u0, p0, t0⟩ := h.get? 0 (.int y.Code) rfl
  have e0 := t0.int_out
  subst e0
  obtain ⟨u1, p1, t1⟩ := h.get? 1 (.int y.Answer_Serial) rfl
  have e1 := t1.int_out
  subst e1
  obtain ⟨u2, p2, t2⟩ := h.get? 2 (.is y.Answer_Codes) rfl
  obtain ⟨A2, c2, e2⟩ := t2.is_sh
  subst e2
  rw [Nat.add_zero] at p0
  exact ⟨A2, c2, p0, p1, p2, t2⟩
end Go.Proofs.Ytbfbfimmhpijfaa

/- Chapter 5 on numbers: answers; the model's l5AnswerFault, l5Bytes. -/
namespace Go.Proofs.Ytbfbfimmhpijfaa
open Go.RowKit Go.Deep

def okCs (l : List Int) : Prop := ∀ j, j < l.length → inB (l.getD j 0) 0 20 = true
instance (l : List Int) : Decidable (okCs l) := by unfold okCs; exact Nat.decidableBallLT l.length (fun j _ => inB (l.getD j 0) 0 20 = true)
def paF (y : AnswerM) : Int := if wB y.Serial then (if 1 ≤ y.Codes.length ∧ y.Codes.length ≤ 4 then (if okCs y.Codes then 0 else 3) else 2) else 3
def paC (y : AnswerM) : ChunkM := ⟨128, 0, pk y.Serial ++ ((y.Codes.length : Int) :: y.Codes)⟩
def paR (y : AnswerM) : ChunkResultM := crOf (paF y) (paC y)
theorem paR_len (y : AnswerM) (_ : WfA y.vs) (h : tot.totL y.vs ≤ 1048576) : vcA (paR y).vs ≤ 1000000000 := by
  simp only [AnswerM.vs, tot.totL, tot] at h
  unfold paR crOf
  split
  · simp [ChunkResultM.vs, vcA, vc, cc, paC, pk]; omega
  · simp [ChunkResultM.vs, vcA, vc, cc]
theorem paF_zero {y : AnswerM} (h : paF y = 0) : (0 ≤ y.Serial ∧ y.Serial ≤ 4294967295) ∧ (1 ≤ y.Codes.length ∧ y.Codes.length ≤ 4) ∧ okCs y.Codes := by
  unfold paF wB inB at h
  split at h
  · next h1 =>
    simp at h1
    split at h
    · next h2 =>
      split at h
      · next h3 => exact ⟨h1, h2, h3⟩
      · cases h
    · cases h
  · cases h
theorem isOf {w : World} {l : List Int} {A : Option Addr} {n c : Nat} (h : Rd w (.is l) (.slice A n c)) : Is w A l := by
  obtain ⟨A', c', e, _, hb⟩ := h.is_out
  injection e with e1 e2 e3
  subst e1
  exact hb
end Go.Proofs.Ytbfbfimmhpijfaa

/- Sack, Asconf and their results (WRITTEN BY tools/kinds.py) -/
namespace Go.Proofs.Ytbfbfimmhpijfaa
open Go.RowKit Go.Deep Go.ChangeShapes Go.WideShapes Go.ChangeAt

structure GapM where
  From : Int
  To : Int
def GapM.vs (x : GapM) : List V := [.int x.From, .int x.To]
theorem shape_Gap {w : World} {n0 : Int} {n1 : Int} {vs : List Value} (h : RdA w [.int n0, .int n1] vs) : vs = [.int .i64 n0, .int .i64 n1] := by
  obtain ⟨q0, e0, t0⟩ := h.int_out
  subst e0
  obtain ⟨q1, e1, t1⟩ := t0.int_out
  subst e1
  have z := t1.nil_out
  subst z
  exact rfl
theorem mem_Gap {w : World} {g o : Nat} {y : GapM} (h : RdL w y.vs g o) : w.cell? ⟨g, o, none⟩ = some (.int .i64 y.From) ∧ w.cell? ⟨g, o + 1, none⟩ = some (.int .i64 y.To) := by
  obtain ⟨u0, p0, t0⟩ := h.get? 0 (.int y.From) rfl
  have e0 := t0.int_out
  subst e0
  obtain ⟨u1, p1, t1⟩ := h.get? 1 (.int y.To) rfl
  have e1 := t1.int_out
  subst e1
  rw [Nat.add_zero] at p0
  exact ⟨p0, p1⟩
def st_Gap (r : List GapM) : V := .st r.length (r.flatMap GapM.vs)
theorem st_Gap_sh {w : World} {r : List GapM} {v : Value} (h : Rd w (st_Gap r) v) : ∃ A c, v = .slice A r.length c := Rd.st_sh h
theorem ccS_Gap (r : List GapM) : cc.ccL (r.flatMap GapM.vs) ≤ 3 * (r.length + tot.totL (r.flatMap GapM.vs)) := by
  induction r with
  | nil => simp [cc.ccL]
  | cons x xs ih =>
    rw [List.flatMap_cons, ccL_append, totL_append, List.length_cons]
    have : cc.ccL (GapM.vs x) ≤ 3 * (1 + tot.totL (GapM.vs x)) := by
      simp only [GapM.vs, cc.ccL, cc, tot.totL, tot]
      omega
    omega
structure SackM where
  Cum : Int
  Gaps : List GapM
def SackM.vs (x : SackM) : List V := [.int x.Cum, st_Gap x.Gaps]
theorem shape_Sack {w : World} {n0 : Int} {r1 : List GapM} {vs : List Value} (h : RdA w [.int n0, st_Gap r1] vs) : ∃ (A1 : Option Addr) (c1 : Nat), vs = [.int .i64 n0, .slice A1 r1.length c1] := by
  obtain ⟨q0, e0, t0⟩ := h.int_out
  subst e0
  obtain ⟨v1, q1, e1, h1, t1⟩ := t0.any_out
  obtain ⟨A1, c1, a1⟩ := st_Gap_sh h1
  subst e1 a1
  have z := t1.nil_out
  subst z
  exact ⟨A1, c1, rfl⟩
theorem cnt_Sack (y : SackM) (h : tot.totL y.vs ≤ 1048576) : vcA y.vs ≤ 1000000000 := by
  have cGap := ccS_Gap
  simp only [SackM.vs, vcA, vc, tot.totL, tot, cc, st_Gap] at *
  have d1 := cGap y.Gaps
  omega
theorem mem_Sack {w : World} {g o : Nat} {y : SackM} (h : RdL w y.vs g o) : ∃ (A1 : Option Addr) (c1 : Nat), w.cell? ⟨g, o, none⟩ = some (.int .i64 y.Cum) ∧ w.cell? ⟨g, o + 1, none⟩ = some (.slice A1 y.Gaps.length c1) ∧ Rd w (st_Gap y.Gaps) (.slice A1 y.Gaps.length c1) := by
  obtain ⟨u0, p0, t0⟩ := h.get? 0 (.int y.Cum) rfl
  have e0 := t0.int_out
  subst e0
  obtain ⟨u1, p1, t1⟩ := h.get? 1 (st_Gap y.Gaps) rfl
  obtain ⟨A1, c1, e1⟩ := st_Gap_sh t1
  subst e1
  rw [Nat.add_zero] at p0
  exact ⟨A1, c1, p0, p1, t1⟩
structure SackResultM where
  Code : Int
  Sack_Cum : Int
  Sack_Gaps : List GapM
def SackResultM.vs (x : SackResultM) : List V := [.int x.Code, .int x.Sack_Cum, st_Gap x.Sack_Gaps]
theorem shape_SackResult {w : World} {n0 : Int} {n1 : Int} {r2 : List GapM} {vs : List Value} (h : RdA w [.int n0, .int n1, st_Gap r2] vs) : ∃ (A2 : Option Addr) (c2 : Nat), vs = [.int .i64 n0, .int .i64 n1, .slice A2 r2.length c2] := by
  obtain ⟨q0, e0, t0⟩ := h.int_out
  subst e0
  obtain ⟨q1, e1, t1⟩ := t0.int_out
  subst e1
  obtain ⟨v2, q2, e2, h2, t2⟩ := t1.any_out
  obtain ⟨A2, c2, a2⟩ := st_Gap_sh h2
  subst e2 a2
  have z := t2.nil_out
  subst z
  exact ⟨A2, c2, rfl⟩
theorem cnt_SackResult (y : SackResultM) (h : tot.totL y.vs ≤ 1048576) : vcA y.vs ≤ 1000000000 := by
  have cGap := ccS_Gap
  simp only [SackResultM.vs, vcA, vc, tot.totL, tot, cc, st_Gap] at *
  have d2 := cGap y.Sack_Gaps
  omega
theorem mem_SackResult {w : World} {g o : Nat} {y : SackResultM} (h : RdL w y.vs g o) : ∃ (A2 : Option Addr) (c2 : Nat), w.cell? ⟨g, o, none⟩ = some (.int .i64 y.Code) ∧ w.cell? ⟨g, o + 1, none⟩ = some (.int .i64 y.Sack_Cum) ∧ w.cell? ⟨g, o + 2, none⟩ = some (.slice A2 y.Sack_Gaps.length c2) ∧ Rd w (st_Gap y.Sack_Gaps) (.slice A2 y.Sack_Gaps.length c2) := by
  obtain ⟨u0, p0, t0⟩ := h.get? 0 (.int y.Code) rfl
  have e0 := t0.int_out
  subst e0
  obtain ⟨u1, p1, t1⟩ := h.get? 1 (.int y.Sack_Cum) rfl
  have e1 := t1.int_out
  subst e1
  obtain ⟨u2, p2, t2⟩ := h.get? 2 (st_Gap y.Sack_Gaps) rfl
  obtain ⟨A2, c2, e2⟩ := st_Gap_sh t2
  subst e2
  rw [Nat.add_zero] at p0
  exact ⟨A2, c2, p0, p1, p2, t2⟩
structure AddrOpM where
  Kind : Int
  Addr : Int
def AddrOpM.vs (x : AddrOpM) : List V := [.int x.Kind, .int x.Addr]
theorem shape_AddrOp {w : World} {n0 : Int} {n1 : Int} {vs : List Value} (h : RdA w [.int n0, .int n1] vs) : vs = [.int .i64 n0, .int .i64 n1] := by
  obtain ⟨q0, e0, t0⟩ := h.int_out
  subst e0
  obtain ⟨q1, e1, t1⟩ := t0.int_out
  subst e1
  have z := t1.nil_out
  subst z
  exact rfl
theorem mem_AddrOp {w : World} {g o : Nat} {y : AddrOpM} (h : RdL w y.vs g o) : w.cell? ⟨g, o, none⟩ = some (.int .i64 y.Kind) ∧ w.cell? ⟨g, o + 1, none⟩ = some (.int .i64 y.Addr) := by
  obtain ⟨u0, p0, t0⟩ := h.get? 0 (.int y.Kind) rfl
  have e0 := t0.int_out
  subst e0
  obtain ⟨u1, p1, t1⟩ := h.get? 1 (.int y.Addr) rfl
  have e1 := t1.int_out
  subst e1
  rw [Nat.add_zero] at p0
  exact ⟨p0, p1⟩
def st_AddrOp (r : List AddrOpM) : V := .st r.length (r.flatMap AddrOpM.vs)
theorem st_AddrOp_sh {w : World} {r : List AddrOpM} {v : Value} (h : Rd w (st_AddrOp r) v) : ∃ A c, v = .slice A r.length c := Rd.st_sh h
theorem ccS_AddrOp (r : List AddrOpM) : cc.ccL (r.flatMap AddrOpM.vs) ≤ 3 * (r.length + tot.totL (r.flatMap AddrOpM.vs)) := by
  induction r with
  | nil => simp [cc.ccL]
  | cons x xs ih =>
    rw [List.flatMap_cons, ccL_append, totL_append, List.length_cons]
    have : cc.ccL (AddrOpM.vs x) ≤ 3 * (1 + tot.totL (AddrOpM.vs x)) := by
      simp only [AddrOpM.vs, cc.ccL, cc, tot.totL, tot]
      omega
    omega
structure AsconfM where
  Serial : Int
  Ops : List AddrOpM
def AsconfM.vs (x : AsconfM) : List V := [.int x.Serial, st_AddrOp x.Ops]
theorem shape_Asconf {w : World} {n0 : Int} {r1 : List AddrOpM} {vs : List Value} (h : RdA w [.int n0, st_AddrOp r1] vs) : ∃ (A1 : Option Addr) (c1 : Nat), vs = [.int .i64 n0, .slice A1 r1.length c1] := by
  obtain ⟨q0, e0, t0⟩ := h.int_out
  subst e0
  obtain ⟨v1, q1, e1, h1, t1⟩ := t0.any_out
  obtain ⟨A1, c1, a1⟩ := st_AddrOp_sh h1
  subst e1 a1
  have z := t1.nil_out
  subst z
  exact ⟨A1, c1, rfl⟩
theorem cnt_Asconf (y : AsconfM) (h : tot.totL y.vs ≤ 1048576) : vcA y.vs ≤ 1000000000 := by
  have cAddrOp := ccS_AddrOp
  simp only [AsconfM.vs, vcA, vc, tot.totL, tot, cc, st_AddrOp] at *
  have d1 := cAddrOp y.Ops
  omega
theorem mem_Asconf {w : World} {g o : Nat} {y : AsconfM} (h : RdL w y.vs g o) : ∃ (A1 : Option Addr) (c1 : Nat), w.cell? ⟨g, o, none⟩ = some (.int .i64 y.Serial) ∧ w.cell? ⟨g, o + 1, none⟩ = some (.slice A1 y.Ops.length c1) ∧ Rd w (st_AddrOp y.Ops) (.slice A1 y.Ops.length c1) := by
  obtain ⟨u0, p0, t0⟩ := h.get? 0 (.int y.Serial) rfl
  have e0 := t0.int_out
  subst e0
  obtain ⟨u1, p1, t1⟩ := h.get? 1 (st_AddrOp y.Ops) rfl
  obtain ⟨A1, c1, e1⟩ := st_AddrOp_sh t1
  subst e1
  rw [Nat.add_zero] at p0
  exact ⟨A1, c1, p0, p1, t1⟩
structure AsconfResultM where
  Code : Int
  Asconf_Serial : Int
  Asconf_Ops : List AddrOpM
def AsconfResultM.vs (x : AsconfResultM) : List V := [.int x.Code, .int x.Asconf_Serial, st_AddrOp x.Asconf_Ops]
theorem shape_AsconfResult {w : World} {n0 : Int} {n1 : Int} {r2 : List AddrOpM} {vs : List Value} (h : RdA w [.int n0, .int n1, st_AddrOp r2] vs) : ∃ (A2 : Option Addr) (c2 : Nat), vs = [.int .i64 n0, .int .i64 n1, .slice A2 r2.length c2] := by
  obtain ⟨q0, e0, t0⟩ := h.int_out
  subst e0
  obtain ⟨q1, e1, t1⟩ := t0.int_out
  subst e1
  obtain ⟨v2, q2, e2, h2, t2⟩ := t1.any_out
  obtain ⟨A2, c2, a2⟩ := st_AddrOp_sh h2
  subst e2 a2
  have z := t2.nil_out
  subst z
  exact ⟨A2, c2, rfl⟩
theorem cnt_AsconfResult (y : AsconfResultM) (h : tot.totL y.vs ≤ 1048576) : vcA y.vs ≤ 1000000000 := by
  have cAddrOp := ccS_AddrOp
  simp only [AsconfResultM.vs, vcA, vc, tot.totL, tot, cc, st_AddrOp] at *
  have d2 := cAddrOp y.Asconf_Ops
  omega
theorem mem_AsconfResult {w : World} {g o : Nat} {y : AsconfResultM} (h : RdL w y.vs g o) : ∃ (A2 : Option Addr) (c2 : Nat), w.cell? ⟨g, o, none⟩ = some (.int .i64 y.Code) ∧ w.cell? ⟨g, o + 1, none⟩ = some (.int .i64 y.Asconf_Serial) ∧ w.cell? ⟨g, o + 2, none⟩ = some (.slice A2 y.Asconf_Ops.length c2) ∧ Rd w (st_AddrOp y.Asconf_Ops) (.slice A2 y.Asconf_Ops.length c2) := by
  obtain ⟨u0, p0, t0⟩ := h.get? 0 (.int y.Code) rfl
  have e0 := t0.int_out
  subst e0
  obtain ⟨u1, p1, t1⟩ := h.get? 1 (.int y.Asconf_Serial) rfl
  have e1 := t1.int_out
  subst e1
  obtain ⟨u2, p2, t2⟩ := h.get? 2 (st_AddrOp y.Asconf_Ops) rfl
  obtain ⟨A2, c2, e2⟩ := st_AddrOp_sh t2
  subst e2
  rw [Nat.add_zero] at p0
  exact ⟨A2, c2, p0, p1, p2, t2⟩
end Go.Proofs.Ytbfbfimmhpijfaa

/- Chapter 5 on numbers: requests and acknowledgements; the model's l5Addr, l5AsconfFault, l5SackFault. -/
namespace Go.Proofs.Ytbfbfimmhpijfaa
open Go.RowKit Go.Deep

def okOp (x : AddrOpM) : Bool := inB x.Kind 1 3 && inB x.Addr 1 255
def qaF (y : AsconfM) : Int := if wB y.Serial then (if 1 ≤ y.Ops.length ∧ y.Ops.length ≤ 4 then (if y.Ops.all okOp then 0 else 3) else 2) else 3
def opL (x : AddrOpM) : List Int := [x.Kind, x.Addr]
def qaC (y : AsconfM) : ChunkM := ⟨193, 0, pk y.Serial ++ ((y.Ops.length : Int) :: y.Ops.flatMap opL)⟩
def qaR (y : AsconfM) : ChunkResultM := crOf (qaF y) (qaC y)
/-- The gaps behind a number, each one behind the other with a number between. -/
def okGaps : Int → List GapM → Bool
  | _, [] => true
  | a, x :: r => inB x.From 2 x.To && inB x.To 2 65535 && decide (a + 1 < x.From) && okGaps x.To r
theorem okGaps_cons (a : Int) (x : GapM) (r : List GapM) : okGaps a (x :: r) = (inB x.From 2 x.To && inB x.To 2 65535 && decide (a + 1 < x.From) && okGaps x.To r) := rfl
def ksF (y : SackM) : Int := if wB y.Cum then (if y.Gaps.length ≤ 20 then (if okGaps 0 y.Gaps then 0 else 1) else 2) else 3
def gapL (x : GapM) : List Int := pairL x.From ++ pairL x.To
def ksC (y : SackM) : ChunkM := ⟨3, 0, pk y.Cum ++ ((y.Gaps.length : Int) :: y.Gaps.flatMap gapL)⟩
def ksR (y : SackM) : ChunkResultM := crOf (ksF y) (ksC y)
theorem qaF_zero {y : AsconfM} (h : qaF y = 0) : (0 ≤ y.Serial ∧ y.Serial ≤ 4294967295) ∧ (1 ≤ y.Ops.length ∧ y.Ops.length ≤ 4) ∧ y.Ops.all okOp = true := by
  unfold qaF wB inB at h
  split at h
  · next h1 =>
    simp only [Bool.and_eq_true, decide_eq_true_eq] at h1
    split at h
    · next h2 =>
      split at h
      · next h3 => exact ⟨h1, h2, h3⟩
      · cases h
    · cases h
  · cases h
theorem ksF_zero {y : SackM} (h : ksF y = 0) : (0 ≤ y.Cum ∧ y.Cum ≤ 4294967295) ∧ y.Gaps.length ≤ 20 ∧ okGaps 0 y.Gaps = true := by
  unfold ksF wB inB at h
  split at h
  · next h1 =>
    simp only [Bool.and_eq_true, decide_eq_true_eq] at h1
    split at h
    · next h2 =>
      split at h
      · next h3 => exact ⟨h1, h2, h3⟩
      · cases h
    · cases h
  · cases h
theorem all_take {α : Type} {f : α → Bool} {l : List α} {j : Nat} (hj : j < l.length) (h : (l.take j).all f = true) (k : f l[j] = true) : (l.take (j + 1)).all f = true := by
  rw [List.take_add_one, List.getElem?_eq_getElem hj, Option.toList_some, List.all_append, h]
  simp [k]
theorem all_not {α : Type} {f : α → Bool} {l : List α} {j : Nat} (hj : j < l.length) (k : f l[j] = false) : ¬ l.all f = true := by
  intro h
  rw [List.all_eq_true] at h
  have := h _ (List.getElem_mem hj)
  rw [k] at this
  cases this
end Go.Proofs.Ytbfbfimmhpijfaa
