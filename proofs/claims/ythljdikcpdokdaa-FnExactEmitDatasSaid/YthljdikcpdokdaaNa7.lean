import Derived.Test.YthljdikcpdokdaaS8CR
import Derived.Test.YthljdikcpdokdaaNa0
import Derived.Laws.BytesArg
import Derived.Test.YthljdikcpdokdaaNa5
import Derived.Test.YthljdikcpdokdaaNa3
import Derived.Lib.LazyBuf
import Derived.Deep.LoopGhost
import Derived.Test.YthljdikcpdokdaaNa6
import Derived.OrdersIn
import Derived.RangeFuncCalls

/- Chapter 8: the model's l8Cut. -/
namespace Go.Proofs.Ythljdikcpdokdaa
open Go.RowKit Go.Deep

theorem cutN_lt {K s i : Nat} (hs : 0 < s) : i < cutN K s ↔ i * s < K := by
  unfold cutN
  rw [Nat.lt_iff_add_one_le, Nat.le_div_iff_mul_le hs, Nat.add_mul]
  omega
theorem cutL_take {y : MessageM} {s : Nat} {t q : Int} {i : Nat} (h : i < (cutL y s t q).length) : (cutL y s t q).take (i + 1) = (cutL y s t q).take i ++ [cutAt y s t q i] := by
  rw [List.take_succ_eq_append_getElem h]
  simp [cutL]
theorem piece_len (b : List Int) (p s : Nat) : ((b.drop p).take s).length = min s (b.length - p) := by simp
set_option maxHeartbeats 400000 in
theorem min_any (a b c : Int) (w : World) (hc : c = if a < b then a else b) : Calls Try.prog 141 #[.int .i64 a, .int .i64 b] w fun e w' => e = .returned (.int .i64 c) ∧ w = w' := by
  subst hc
  by_cases h : a < b
  · rw [if_pos h]
    go_enter Try.func141, Try.ntmps141
    go_wp2
    go_ret
    exact ⟨rfl, rfl⟩
  · rw [if_neg h]
    go_enter Try.func141, Try.ntmps141
    go_wp2
    go_ret
    exact ⟨rfl, rfl⟩
/-- A row that is the list r, owned. -/
def RowD (r : List DataM) (u : World) (e : Ending) (w' : World) : Prop := ∃ (v : Value) (q : List RowE), e = .returned v ∧ RowDa q r ∧ w'.ownsRow u.heap.size 69 7 v r.length (flatR q) ∧ RTs u.heap.size w' q ∧ Below u.heap.size u w'
theorem RowD.own {r : List DataM} {u : World} {e : Ending} {w' : World} (h : RowD r u e w') : ∃ v, e = .returned v ∧ OwV u.heap.size w'.heap.size w' (st_Data r) v ∧ Below u.heap.size u w' := by
  obtain ⟨v, q, h1, h2, h3, h4, h5⟩ := h
  exact ⟨v, h1, h2.own h3 (Nat.le_refl _) h4, h5⟩
set_option maxRecDepth 100000 in
set_option maxHeartbeats 4000000 in
theorem l8Cut_any (y : MessageM) (gm s : Nat) (t q : Int) (u : World) (hM : RdL u y.vs gm 0) (hgm : gm < u.heap.size) (h0 : 4 ≤ s) (h1 : s ≤ 100) (t0 : 0 ≤ t) (t1 : t ≤ 4294967295) (hK : y.Bytes.length ≤ 3000) :
    Calls Try.prog 157 #[.pointer (some ⟨gm, 0, none⟩), .int .i64 (s : Int), .int .i64 t, .int .i64 q] u (RowD (cutL y s t q) u) := by
  obtain ⟨A, c, m0, m1, m2, hb⟩ := mem_Message hM
  have hcap : y.Bytes.length ≤ c := by
    obtain ⟨_, _, e, k, _⟩ := hb.bs_out
    injection e with _ _ e3
    subst e3
    exact k.1
  have hBs := bsOf hb
  have hnn : (cutL y s t q).length ≤ 1000 := by
    rw [cutL_len]
    unfold cutN
    have : (y.Bytes.length + s - 1) / s < 1001 := (Nat.div_lt_iff_lt_mul (by omega)).2 (by omega)
    omega
  have HNN := hidH hnn
  have HLT := hidH (fun (i : Nat) => show i < (cutL y s t q).length ↔ i * s < y.Bytes.length by rw [cutL_len]; exact cutN_lt (by omega))
  have HTK := hidH (fun (i : Nat) (h : i < (cutL y s t q).length) => cutL_take h)
  have HPT := hidH (fun (i : Nat) (W : World) (h : (i : Int) ≤ 4294967295) => l1Add_any t (i : Int) W t0 t1 (by omega) h)
  have HBS := hidH hBs
  have HCAP := hidH hcap
  have HO0 := hidH (show (u.alloc (.cells #[] 69)).ownsRow u.heap.size 69 7 (.slice (some ⟨u.heap.size, 0, none⟩) 0 0) 0 [] from World.ownsRow_lit u #[] 0 (Nat.le_refl _) (by unfold maxLen; omega) rfl)
  have HB0 := hidH (bal (Below.refl u.heap.size u) (.cells #[] 69))
  have hKK : (y.Bytes.length : Int) ≤ 3000 := by omega
  have m0' := (HB0.out.cell (p := ⟨gm, 0, none⟩) hgm).trans m0
  have m2' := (HB0.out.cell (p := ⟨gm, 0 + 2, none⟩) hgm).trans m2
  rw [Nat.zero_add] at m1 m2 m2'
  have HM := hidH (And.intro m0 (And.intro m1 m2))
  clear hM hb hBs hcap hnn m0 m1 m2 t0 t1
  go_enter Try.func157, Try.ntmps157
  go_wp2
  clear m0' m2'
  go_loopw [9, 11] (fun v at_ wr => ∃ (i : Nat) (qq : List RowE), i ≤ (cutL y s t q).length ∧ at_ = .int .i64 ((i * s : Nat) : Int) ∧ RowDa qq ((cutL y s t q).take i) ∧ wr.ownsRow u.heap.size 69 7 v i (flatR qq) ∧ RTs u.heap.size wr qq ∧ Below u.heap.size u wr) (fun _ at_ _ => y.Bytes.length + s - (intOf at_).toNat)
  case atStart => exact ⟨0, [], by omega, by simp, RowDa.nil, HO0.out, RTs.nil _ _, HB0.out⟩
  case round =>
    obtain ⟨i, qq, hi, rfl, hq, ho, hk, hB⟩ := hrel
    have hin := HNN.out
    obtain ⟨p, hp⟩ : ∃ p, i * s = p := ⟨_, rfl⟩
    have hlti := HLT.out i
    rw [hp] at hlti ⊢
    have hp0 : (0 : Int) ≤ (p : Int) := by omega
    have HO := hidH ho
    have HK := hidH hk
    have HBW := hidH hB
    have HQ := hidH hq
    have HP := hidH hp
    by_cases hlt : p < y.Bytes.length
    · have hil := hlti.2 hlt
      have hp1 : (p : Int) < (y.Bytes.length : Int) := by omega
      obtain ⟨l, hl⟩ : ∃ l, (y.Bytes.drop p).take s = l := ⟨_, rfl⟩
      have hll := piece_len y.Bytes p s
      rw [hl] at hll
      have HMIN := hidH (fun (W : World) => min_any ((p : Int) + (s : Int)) (y.Bytes.length : Int) ((p : Int) + (l.length : Int)) W (by split <;> omega))
      have hfb : ((p : Int) == 0) = decide (i = 0) := by
        rw [Bool.eq_iff_iff, beq_iff_eq, decide_eq_true_iff]
        constructor
        · intro h
          have h2 : i * s = 0 := by omega
          rcases Nat.mul_eq_zero.1 h2 with h3 | h3 <;> omega
        · intro h; subst h; omega
      have hlb : ((p : Int) + (l.length : Int) == (y.Bytes.length : Int)) = decide (y.Bytes.length ≤ (i + 1) * s) := by
        rw [Bool.eq_iff_iff, beq_iff_eq, decide_eq_true_iff, Nat.add_mul]
        constructor <;> intro h <;> omega
      have hii : (i : Int) ≤ 1000 := by omega
      have hdv : (p : Int) / (s : Int) = (i : Int) := by
        rw [← hp]; push_cast
        exact Int.mul_ediv_cancel _ (by omega)
      have hdt : (p : Int).tdiv (s : Int) = (i : Int) := by rw [Int.tdiv_eq_ediv_of_nonneg hp0]; exact hdv
      have hs0 : (0 : Int) < (s : Int) := by omega
      have hpc : p + l.length ≤ c := by have := HCAP.out; omega
      have HPC := hidH hpc
      have HAT := hidH (And.intro (show (cutAt y s t q i).Tsn = (t + (i : Int)) % 4294967296 from rfl) (show cutAt y s t q i = ⟨(t + (i : Int)) % 4294967296, y.Stream, q, decide (i = 0), decide (y.Bytes.length ≤ (i + 1) * s), y.Unordered, l⟩ by rw [← hl, ← hp]; rfl))
      have HLB := hidH (show Bs u (cutA A p c) l from by
        rw [← hl]
        refine cutA_bs HBS.out (by rw [piece_len]; omega) (HCAP.out) (fun j hj => ?_)
        rw [piece_len] at hj
        simp [List.getD_eq_getElem?_getD, List.getElem?_take_of_lt (show j < s by omega)])
      have HFL := hidH (And.intro hfb hlb)
      have HD := hidH (And.intro hdv hdt)
      have HIL := hidH hil
      have hl4 : l.length ≤ 4000000 := by omega
      have HL4 := hidH hl4
      have hsi : (s : Int) ≤ 100 := by omega
      clear ho hk hB hq hlti hl hll hfb hlb hdv hdt hil hp hpc hl4
      go_wp2_with (go_at_call 141; refine (HMIN.out _).mono ?_; rintro e w' ⟨rfl, rfl⟩)
      refine wp_region_any (by kernel_rfl) ?_
      refine regK7 _ _ _ _ _ _ _ _ _ _ _ _ _ _ _ _ _ _ _ _ _ _ _ _ _ _ _ _ _ _ _ _ _ _ _ _ _ _ _ _ _ _ _ _ _ _ _ _ _ _ _ _ _ _ _ (flatR qq) wr u.heap.size i i gm p s y.Bytes.length t ((t + (i : Int)) % 4294967296) y.Stream q (decide (i = 0)) (decide (y.Bytes.length ≤ (i + 1) * s)) y.Unordered A l c hgm (hidH (by omega)) hp0 hs0 HD.out.1 HD.out.2 hii HFL.out.1 HFL.out.2 HPC.out HL4 (hidH (fun W hb => bs_below HLB.out (HBW.out.trans hb))) (fun W => HPT.out i W (by omega)) ((HBW.out.cell (p := ⟨gm, 0, none⟩) hgm).trans HM.out.1) ((HBW.out.cell (p := ⟨gm, 1, none⟩) hgm).trans HM.out.2.1) ((HBW.out.cell (p := ⟨gm, 2, none⟩) hgm).trans HM.out.2.2) (by kernel_rfl) (by kernel_rfl) (by kernel_rfl) rfl (fun h => by cases h) (fun h => by cases h) (fun h => by cases h) (Below.refl _ _).drew (B8.of_below (Below.refl _ _).drew) HBW.out.size (Nat.le_refl _) (fun _ => HO.out) ?_
      intros
      rename_i W gB gU gS gW gR
      obtain ⟨A9, c9, o9, s9⟩ := gR
      obtain ⟨lo, hi2, hlo, hkt⟩ := RT.of_row s9 gW [.int ((t + (i : Int)) % 4294967296), .int y.Stream, .int q, .bool (decide (i = 0)), .bool (decide (y.Bytes.length ≤ (i + 1) * s)), .bool y.Unordered]
      have HN := hidH (show RowDa (qq ++ [daE (cutAt y s t q i) (.slice A9 l.length c9) lo hi2]) ((cutL y s t q).take (i + 1)) ∧ RTs u.heap.size W (qq ++ [daE (cutAt y s t q i) (.slice A9 l.length c9) lo hi2]) ∧ Below u.heap.size u W from
        ⟨by rw [HTK.out i HIL.out]; exact HQ.out.snoc _ _ _ _, by rw [HAT.out.2]; exact (HK.out.turn gW gU).snoc hkt (Nat.le_trans HBW.out.size hlo) (fun y hy => Nat.le_trans (HK.out.top y hy) hlo), HBW.out.trans gB⟩)
      have HO9 := hidH (show W.ownsRow u.heap.size 69 7 _ (i + 1) (flatR (qq ++ [daE (cutAt y s t q i) (.slice A9 l.length c9) lo hi2])) by rw [HAT.out.2, flatR_app]; exact o9)
      clear gB gU gS gW o9 s9 hkt
      go_wp2
      go_roundw
      case rel => exact ⟨i + 1, _, HIL.out, by rw [Nat.add_mul, HP.out, Nat.one_mul]; go_num, HN.out.1, HO9.out, HN.out.2.1, HN.out.2.2⟩
      case measure => simp [intOf]; omega
    · have hge : ¬ (p : Int) < (y.Bytes.length : Int) := by omega
      have hil : i = (cutL y s t q).length := by have h3 := mt hlti.1 hlt; omega
      subst hil
      rw [List.take_length] at HQ
      clear ho hk hB hq hlt hlti hi hp HP
      go_wp2
      go_ret
      exact ⟨_, qq, rfl, HQ.out, HO.out, HK.out, HBW.out⟩
end Go.Proofs.Ythljdikcpdokdaa

/- The laws' lwBytes: two slices of the same bytes are the same text. -/
namespace Go.Proofs.Ythljdikcpdokdaa
open Go.RowKit Go.Deep
theorem conv_bs (w : World) (A : Option Addr) (l : List Int) (c : Nat) (h : Bs w A l) : (convert 22 9 (.slice A l.length c)).run Try.prog w = .ok (.string (strOfNums l)) w := by
  rcases h with rfl | ⟨b, off, rfl, _, h⟩
  · rw [List.length_nil, run_convert_bytes_string w 22 9 5 _ 0 c Try.underlying22 Try.underlying5 Try.underlying9]
    cases A <;> simp [Conv.bytesToString, loadCells]
    all_goals rfl
  · exact run_convert_bytes_arg w 22 5 Try.underlying22 Try.underlying5 b off _ c l rfl h 9 Try.underlying9
set_option maxHeartbeats 400000 in
theorem lwB_same (A B : Option Addr) (l : List Int) (c d : Nat) (w : World) (hA : Bs w A l) (hB : Bs w B l) :
    Calls Try.prog 34 #[.slice A l.length c, .slice B l.length d] w fun e w' => e = .returned (.bool true) ∧ w = w' := by
  have h1 := conv_bs w A l c hA
  have h2 := conv_bs w B l d hB
  clear hA hB
  go_enter Try.func34, Try.ntmps34
  go_wp2
  go_ret
  exact ⟨rfl, rfl⟩
end Go.Proofs.Ythljdikcpdokdaa

/- The model's SameMac. -/
namespace Go.Proofs.Ythljdikcpdokdaa
open Go.RowKit Go.Deep

def sameM (a b : List Int) : Bool := a.length == 32 && a == b
theorem strOfNums_inj {a b : List Int} (ha : Bytes a) (hb : Bytes b) (h : strOfNums a = strOfNums b) : a = b := by
  have e : a.map (fun n => UInt8.ofNat n.toNat) = b.map (fun n => UInt8.ofNat n.toNat) := by
    rw [← strOfNums_data, ← strOfNums_data, h]
  have key : ∀ (l : List Int), Bytes l → (l.map (fun n => UInt8.ofNat n.toNat)).map (fun (u : UInt8) => (u.toNat : Int)) = l := by
    intro l hl
    rw [List.map_map]
    conv => rhs; rw [← List.map_id l]
    refine List.map_congr_left fun x hx => ?_
    have := hl x hx
    simp only [Function.comp, id, UInt8.toNat_ofNat']
    omega
  rw [← key a ha, ← key b hb, e]
end Go.Proofs.Ythljdikcpdokdaa

/- The program's isByte, ChunkFault, bytes.Clone, bytes.Equal. -/
namespace Go.Proofs.Ythljdikcpdokdaa
open Go.RowKit Go.Deep

theorem str_eqb {x y : List Int} (hx : Bytes x) (hy : Bytes y) : ((strOfNums x).toList == (strOfNums y).toList) = decide (x = y) := by
  rw [ByteArray.toList_eq, ByteArray.toList_eq]
  by_cases e : x = y
  · subst e; simp
  · have : (strOfNums x).data.toList ≠ (strOfNums y).data.toList := fun h => e (strOfNums_inj hx hy (by
      cases hx : strOfNums x; cases hy : strOfNums y
      rw [hx, hy] at h
      simpa using h))
    rw [beq_eq_false_iff_ne.2 this, decide_eq_false e]
set_option maxHeartbeats 1000000 in
theorem clone_any (A : Option Addr) (l : List Int) (c : Nat) (w : World) (hA : Bs w A l) (hm : l.length ≤ 4000000) :
    Calls Try.prog 153 #[.slice A l.length c] w (OwnB w l) := by
  rcases A with _ | ad
  · obtain rfl : l = [] := by
      rcases hA with h | ⟨b, off, h, _⟩
      · exact h
      · cases h
    rw [show ([] : List Int).length = 0 from rfl]
    have hnil : (binOp .eql 22 (.slice none 0 c) (.slice none 0 0)).run Try.prog w = .ok (.bool true) w := Go.run_eql_slice_nil w 22 5 none 0 c Try.underlying22
    go_enter Try.func153, Try.ntmps153
    go_wp2
    go_ret
    exact ⟨_, rfl, ⟨rfl, .inl ⟨rfl, rfl⟩⟩, Below.refl _ _⟩
  · have hown : (w.alloc (.cells #[] 5)).ownsRow w.heap.size 5 1 (.slice (some ⟨w.heap.size, 0, none⟩) 0 0) 0 [] := World.ownsRow_lit w #[] 0 (Nat.le_refl _) (by unfold maxLen; omega) rfl
    have hA2 := bs_below hA (bal (Below.refl _ w) (.cells #[] 5))
    have HO := hidH hown
    have HA := hidH hA2
    have hb2 := hidH (bal (Below.refl _ w) (.cells #[] 5))
    clear hown hA2 hA
    have hnil := Go.run_eql_slice_nil w 22 5 (some ad) l.length c Try.underlying22
    go_enter Try.func153, Try.ntmps153
    go_wp2_with (at_builtin; refine wpList_append_bs rfl _ _ rfl w.heap.size _ _ _ rfl HO.out (some ad) l c rfl HA.out (by omega) (by simp) ?_)
    intro v' w2 hown' hgrow
    have B2 := hidH (hb2.out.grown hgrow (by simp) (fun k hk => by simp [Value.ownBlock] at hk; omega))
    have O2 := hidH hown'
    clear hown' hgrow
    go_wp2
    go_ret
    exact ⟨_, rfl, by simpa using O2.out, B2.out⟩
set_option maxHeartbeats 1000000 in
theorem bEqual_any (A B : Option Addr) (a b : List Int) (ca cb : Nat) (w : World) (hA : Bs w A a) (hB : Bs w B b) (ba : Bytes a) (bb : Bytes b) :
    Calls Try.prog 160 #[.slice A a.length ca, .slice B b.length cb] w fun e w' => e = .returned (.bool (decide (a = b))) ∧ w = w' := by
  have h1 := conv_bs w A a ca hA
  have h2 := conv_bs w B b cb hB
  have HS := hidH (str_eqb ba bb)
  clear hA hB
  go_enter Try.func160, Try.ntmps160
  go_wp2
  go_ret
  exact ⟨by rw [← HS.out]; rfl, rfl⟩
end Go.Proofs.Ythljdikcpdokdaa

/- A region that draws its order, walked by an invariant, in a round of a loop over a function. -/
namespace Go.Proofs.Ythljdikcpdokdaa
open Go.RowKit Go.Deep

/-- What holds at the end, with no other end allowed. -/
def OnlyN (Q0 : Act → World → Prop) : Exit → Act → World → Prop := fun e a w => e = .normal ∧ Q0 a w
theorem onlyN_out {Q0 : Act → World → Prop} : ¬ LetsOut (OnlyN Q0) := fun ⟨_, _, h, _⟩ => by cases h
theorem wpIn_of_wp {P : Program} {o : Oper} {a : Act} {w : World} {K : Act → World → Prop} {Q0 : Act → World → Prop} {Q : Exit → Act → World → Prop} {l n : Nat} (hnd : ∀ c, o.op ≠ .defer c) (h : o.wp P a w K (OnlyN Q0)) : o.wpIn (Fence.wide.inRound l) n P a w K Q := by
  refine ⟨fun _ _ => trivial, ?_⟩
  rw [Oper.semAt_eq _ _ _ hnd]
  unfold Oper.wp at h
  generalize (execOp a.eval o).run P w = r at *
  cases r with
  | ok x w' =>
    cases x with
    | value v => exact h
    | skip => exact h
    | defer d => exact h
    | enter f args =>
      refine ⟨fun h => by simp [Fence.inRound, Fence.wide] at h, (CallsIn.inRound l (callsIn_wide.2 h)).mono ?_⟩
      intro e w'' he
      cases e with
      | returned v => exact he
      | panicked c => exact absurd he.1 (by simp)
      | outgrown => exact absurd he onlyN_out
    | row row args => exact ⟨fun h => by simp [Fence.inRound, Fence.wide] at h, fun c cs _ => let ⟨v, w'', r, s⟩ := h c cs; ⟨v, w'', r, stepsIn_wide.2 s⟩⟩
    | _ => exact h.elim
  | halt x w' =>
    cases x <;> first | exact h.elim | exact absurd h.1 (by simp)
theorem wpAnyIn_of {P : Program} {md : Region.Mode} {ops : Array Oper} {Q0 : Act → World → Prop} {Q : Exit → Act → World → Prop} {l n : Nat} (hnd : ∀ (i : Nat) (o : Oper), ops[i]? = some o → ∀ c, o.op ≠ .defer c) (hQ : ∀ a w, Q0 a w → Q .normal a w) :
    ∀ (fuel : Nat) (L : Array Bool) (a : Act) (w : World), wpAny P md ops (OnlyN Q0) fuel L a w → wpAnyIn (Fence.wide.inRound l) n P md ops Q fuel L a w
  | 0, _, _, _, h => ⟨h.1, hQ _ _ h.2.2⟩
  | fuel + 1, L, a, w, h => ⟨fun e => hQ _ _ (h.1 e).2, fun i hi => by
    have h1 := h.2 i hi
    unfold wpOp at h1
    unfold wpOpIn
    cases ho : ops[i]? with
    | none =>
      simp only [ho] at h1
      exact wpAnyIn_of hnd hQ fuel _ _ _ h1
    | some o =>
      simp only [ho] at h1 ⊢
      split
      · rename_i hw
        rw [if_pos hw] at h1
        rcases h1 with h1 | h1
        · exact Oper.wpIn_mono (fun a' w' h2 => wpAnyIn_of hnd hQ fuel _ _ _ h2) (wpIn_of_wp (hnd i o ho) h1)
        · exact absurd h1.2 onlyN_out
      · rename_i hw
        rw [if_neg hw] at h1
        exact ⟨fun _ _ => trivial, wpAnyIn_of hnd hQ fuel _ _ _ h1⟩⟩
end Go.Proofs.Ythljdikcpdokdaa
