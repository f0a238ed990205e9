/- At every slice of bytes the law FnCrcs answers true. -/
import Derived.Test.YtanffpmpknmldaaRows
import Derived.Test.YtanffpmpknmldaaLaw5
import Derived.Test.YtanffpmpknmldaaCrcR
import Derived.WalkSpells
import Derived.WalkLawsBesides
import Derived.WalkKit
import Derived.ProofKit
import Derived.OpenShut
import Derived.ShutString
import Derived.ChangeOld
import Derived.Below
namespace Go.Proofs.Ytanffpmpknmldaa.fnCrcs
open Go.ChangeShapes Go.WideShapes Go.ChangeAt Go.RowKit
open Go.ChangeMaps (open_string shut_string)
set_option linter.unusedVariables false

theorem own : ownKnob Try.prog.godebug = none := by kernel_rfl
theorem laidOut : laidOutB Try.prog = true := by kernel_rfl

/-- WHAT THE WALK IS TOLD OF A SLICE OF INTEGERS THAT CAME IN: it is nil; or it leads to a row of 'cap' cells, the numbers 'zs' (the first 'len' are its elements, the rest its spare room), each fitting its kind. -/
def IsRow (k : IntKind) (w : World) (a : Option Addr) (len cap : Nat) (zs : List Int) : Prop :=
  (a = none ∧ len = 0 ∧ cap = 0 ∧ zs = []) ∨
  ∃ x, a = some x ∧ len ≤ cap ∧ cap ≤ maxLen ∧ zs.length = cap ∧ (∀ i, i < zs.length → w.cell? (x.add i) = some (.int k (zs.getD i 0))) ∧ ∀ n ∈ zs, (Lit.int k n).wf = true


set_option maxRecDepth 100000 in
set_option maxHeartbeats 4000000 in
theorem walk (a0 : Option Addr) (len0 cap0 : Nat) (z0 : List Int) (w : World) (w0 : IsRow .u8 w a0 len0 cap0 z0) :
    Calls Try.prog 4 #[.slice a0 len0 cap0] w fun e w' => e = .returned (.bool true) ∧ Below w.heap.size w w' := by
  obtain ⟨l, rfl, hA, hl, hlc, hcap⟩ := row_bs w0
  clear w0
  by_cases hbig : (1048576 : Int) < (l.length : Int)
  · have hd : decide ((1048576 : Int) < (l.length : Int)) = true := by simpa using hbig
    clear hbig
    go_enter Try.func4, Try.ntmps4
    go_wp2_with (go_at_call 8; refine (big_any _ _ _ _).mono ?_; rintro e w' ⟨rfl, rfl⟩)
    go_ret
    exact ⟨rfl, Below.refl _ _⟩
  · have hlen : (l.length : Int) ≤ 1048576 := by omega
    have hd : decide ((1048576 : Int) < (l.length : Int)) = false := by simpa using hlen
    clear hbig
    have f1 := fldIV
    have f0 := fldIC
    go_enter Try.func4, Try.ntmps4
    go_wp2_with (go_at_call 8; refine (big_any _ _ _ _).mono ?_; rintro e w' ⟨rfl, rfl⟩)
    refine (drawCrc_any _ _ _ _ hA hl hlen).mono ?_
    rintro e w1 ⟨D, dc, d, rfl, D1, hdB, hdc, hdm, hdl, b1⟩
    have hdm' : (d.length : Int) ≤ 9223372036854775807 := by omega
    go_wp2_with fail
    refine (crc_impl _ _ _ _ D1 hdB hdm').mono ?_
    rintro e w2 ⟨rfl, b2⟩
    have X4 := Blk.new w2 35 #[.int .i64 (crcC d), .int .i64 (crcN d)]
    have bn := bal (Below.refl w2.heap.size w2) (.cells #[.int .i64 (crcC d), .int .i64 (crcN d)] 35)
    have V4 : KS w w2.heap.size (crcC d) (crcN d) D d a0 l (w2.alloc (.cells #[.int .i64 (crcC d), .int .i64 (crcN d)] 35)) :=
      ⟨X4, bs_below (bs_below D1 b2) bn, bs_below (bs_below hA (btr b1 b2)) bn, btr (btr b1 b2) bn⟩
    clear X4 bn b1 b2 D1
    go_wp2_with fail
    generalize w2.heap.size = gd at *
    go_region_held3 (fun w' => (w'.cell? ⟨gd, 0, none⟩ = some (.int .i64 (crcC d)) ∧ w'.cell? ⟨gd, 1, none⟩ = some (.int .i64 (crcN d)) ∧ KS w gd (crcC d) (crcN d) D d a0 l w')) (first | assumption | exact (KS.drew (by assumption)).s | exact ((KS.of_s (by assumption)).below (by assumption)).s | exact (KS.of_s (by assumption)).drew.s)
      (first | (go_at_call 21; refine (crc_spec _ _ _ _ (KS.of_s (by assumption)).data hdB hdm').mono ?_; rintro e w' ⟨rfl, hb⟩))
    rename_i hHeld
    have V := KS.of_s hHeld
    clear hHeld V4
    by_cases h7 : d.length ≤ 700
    · have hc : crcC d = 0 := by rw [crcC, if_pos h7]
      have hv : crcN d = ((crcV (nB d) : Nat) : Int) := by rw [crcN, if_pos h7]
      have hvl := crcV_lt (nB_lt hdB)
      have hv0 : 0 ≤ crcN d := by omega
      have hv1 : crcN d ≤ 4294967295 := by omega
      have ht := fun (k m : Nat) (hk : k < d.length) (hm : m < 255) => crcN_turn hdB k (1 + m) hk h7 (by omega) (by omega)
      have hcT := fun (k m : Nat) => show crcC (turnL d k m) = 0 by rw [crcC, turnL_len, if_pos h7]
      rw [hc] at V ⊢
      clear hv hvl
      generalize crcN d = v at *
      obtain ⟨q0, q1, _⟩ := V.s
      by_cases h0 : d.length = 0
      · have hz : ((d.length : Int) == 0) = true := by rw [beq_iff_eq]; omega
        go_wp2
        go_quiet (fail)
        go_wp2
        go_ret
        exact ⟨rfl, below_drewN V.old _⟩
      · have hz : ((d.length : Int) == 0) = false := by rw [beq_eq_false_iff_ne]; omega
        go_wp2_with fail
        have A2 := hidH (fun (u : World) (h : KS w gd 0 v D d a0 l u) => at_nat a0 l cap0 2 (d.length : Int) u h.code hl hlen (by omega) (by omega) (by omega))
        have A3 := hidH (fun (u : World) (h : KS w gd 0 v D d a0 l u) => at_nat a0 l cap0 3 255 u h.code hl hlen (by omega) (by omega) (by omega))
        have A4 := hidH (fun (u : World) (h : KS w gd 0 v D d a0 l u) (k m : Nat) (hk : (k : Int) < (d.length : Int)) (hm : (m : Int) < 255) => turned_one D d dc k m u h.data hdB (by omega) (by omega) (by omega))
        have A5 := hidH (fun (u : World) (k m : Nat) (A' : Option Addr) (c' : Nat) (hk : (k : Int) < (d.length : Int)) (hm : (m : Int) < 255) (h : Bs u A' (turnL d k (1 + m))) =>
          (crc_impl A' (turnL d k (1 + m)) c' u h (turnL_bytes hdB k (1 + m) (by omega)) (by rw [turnL_len]; omega)).mono fun e w' q => show ∃ x : Int, e = .returned (.agg #[.int .i64 0, .int .i64 x]) ∧ (x != v) = true ∧ Below u.heap.size u w' from
            ⟨crcN (turnL d k (1 + m)), by rw [q.1, hcT k (1 + m)], by rw [bne_iff_ne]; exact ht k m (by omega) (by omega), q.2⟩)
        have HV := hidH V
        clear ht hcT hdB hdc hdm hdm' hv0 hv1 h7 h0 hl hd hlc hcap hA hb hc V q0 q1
        refine wp_region_any (by kernel_rfl) ?_
        refine regCrc _ _ _ _ _ _ _ _ _ _ _ _ _ _ _ _ _ _ _ _ _ _ w gd v D a0 d l dc cap0 hz A2.out A3.out A4.out A5.out (by kernel_rfl) (by kernel_rfl) (by kernel_rfl) rfl HV.out.drew ?_
        intros
        rename_i W hM
        go_wp2
        go_ret
        exact ⟨rfl, hM.old⟩
    · have hc : crcC d = 2 := by rw [crcC, if_neg h7]
      rw [hc] at V ⊢
      obtain ⟨q0, q1, _⟩ := V.s
      have HV := hidH V
      clear V hc
      go_wp2
      go_ret
      exact ⟨rfl, HV.out.old⟩

/-! ### THE ROW's STEP: WRITTEN OUT: LEAVE IT -/
set_option maxRecDepth 100000 in
theorem lifted (os : Os) (started : os.Started) (H : Type) (enc : TypeId × Value → H) :
    ReturnsInHanded {} Try.checked os 4 .any (Rows.fnCrcsSpec.pre6 enc Try.prog Try.f4 Rows.fnCrcsRow.domain false) (Rows.fnCrcsSpec.post enc Try.prog Try.f4 false true false false) := by
  refine returnsInHanded_of_change (C := Try.checked) own started (by kernel_rfl) Try.func4
    (ChangeSpec.witness6 (enc := enc) (C := Try.checked) false ⟨#[], #[.slice none 0 0], []⟩ 8 (by kernel_rfl) (by kernel_rfl) (by kernel_rfl) (by kernel_rfl)) ?_
  intro W base args ds gs before hval0 hW hcnd _
  have hval : ∀ (j : Nat) t v, Try.f4.params[j]? = some t → args[j]? = some v → Value.okWide Try.prog W .any base t v := hval0
  have hW' := hW
  obtain ⟨p, q, hA0, hV, rfl, hfz, hnd⟩ := hW
  have hA : DataW.TrodAll enc Try.prog W 0 (fun _ => true) true Try.f4.params.toList args.toList ds p := hA0
  rw [Try.params4] at hA hval
  obtain ⟨v0, vs0, d0, ds0, p0, q0, hargs, rfl, rfl, h0, r0⟩ := trodAll_cons hA
  obtain ⟨rfl, rfl, rfl⟩ := trodAll_nil r0
  obtain rfl : args = #[v0] := by cases args; simp_all
  obtain ⟨rfl, rfl⟩ := trodVars_none hV
  obtain ⟨a0, len0, cap0, rfl⟩ := okWide_slice Try.underlying22 (hval 0 22 v0 rfl rfl)
  have k0 := h0
  have lt0 : ∀ x ∈ p0, x.block < W.heap.size := by obtain ⟨m, hm⟩ := k0; exact DataW.trod_lt m _ _ _ hm
  obtain ⟨z0, w0⟩ : ∃ zs, IsRow .u8 W a0 len0 cap0 zs := by
    obtain ⟨fuel, hf⟩ := h0
    rcases open_ints Try.underlying22 Try.underlying5 (by kernel_rfl) hf with ⟨hcs, _⟩ | ⟨x, l, c, zs, hcs, _, hl, hm, hz, _, hcell, hwz⟩
    · simp [Value.cells] at hcs
      obtain ⟨rfl, rfl, rfl⟩ := hcs
      exact ⟨[], .inl ⟨rfl, rfl, rfl, rfl⟩⟩
    · simp [Value.cells] at hcs
      obtain ⟨rfl, rfl, rfl⟩ := hcs
      exact ⟨zs, .inr ⟨_, rfl, hl, hm, by simpa using hz, hcell, hwz⟩⟩
  clear hA0 hval0
  refine (walk a0 len0 cap0 z0 W w0).mono fun e W' ⟨he, bel⟩ => ?_
  subst he
  exact ⟨_, rfl, _, _, _, [], _, [], hW', trodAll_mk1 (shut_bool Try.underlying4 _), (trodAll_cons_mk (Below.trod laidOut (by kernel_rfl) (of_decide_eq_true (by kernel_rfl)) k0 bel lt0) trodAll_mk0), rfl, bel.frame _, fun h => by cases h⟩

theorem over : Rows.fnCrcsRow.holds Try.pinned (OpenSpec.ofChange Rows.fnCrcsSpec) :=
  OpenClaim.holds_of_wide 4 Try.f4 rfl rfl rfl rfl rfl rfl rfl ⟨rfl, rfl, rfl, rfl, rfl⟩ rfl rfl rfl rfl rfl (by kernel_rfl) Try.func4 (by kernel_rfl)
    (of_decide_eq_true (by kernel_rfl)) (by unfold Func.isWrapper; first | (rw [if_pos (by decide +kernel)]; kernel_rfl) | (rw [if_neg (by decide +kernel)]; exact ⟨rfl, rfl⟩))
    (fun os started H enc _ => lifted os started H enc)

/-- ████ THE STATEMENT ████ -/
theorem proved : Rows.FnCrcsSaid := over
#print axioms proved
end Go.Proofs.Ytanffpmpknmldaa.fnCrcs
