/- At every slice of bytes the law FnSerials answers true. -/
import Derived.Test.YtbmaolcbphfioaaRows
import Derived.Test.YtbmaolcbphfioaaLaw1
import Derived.WalkSpells
import Derived.WalkLawsBesides
import Derived.WalkKit
import Derived.ProofKit
import Derived.OpenShut
import Derived.ShutString
import Derived.ChangeOld
import Derived.Below
namespace Go.Proofs.Ytbmaolcbphfioaa.fnSerials
open Go.ChangeShapes Go.WideShapes Go.ChangeAt Go.RowKit
open Go.ChangeMaps (open_string shut_string)
set_option linter.unusedVariables false

theorem own : ownKnob Try.prog.godebug = none := by kernel_rfl
theorem laidOut : laidOutB Try.prog = true := by kernel_rfl

/-- WHAT THE WALK IS TOLD OF A SLICE OF INTEGERS THAT CAME IN: it is nil; or it leads to a row of 'cap' cells, the numbers 'zs' (the first 'len' are its elements, the rest its spare room), each fitting its kind. -/
def IsRow (k : IntKind) (w : World) (a : Option Addr) (len cap : Nat) (zs : List Int) : Prop :=
  (a = none ∧ len = 0 ∧ cap = 0 ∧ zs = []) ∨
  ∃ x, a = some x ∧ len ≤ cap ∧ cap ≤ maxLen ∧ zs.length = cap ∧ (∀ i, i < zs.length → w.cell? (x.add i) = some (.int k (zs.getD i 0))) ∧ ∀ n ∈ zs, (Lit.int k n).wf = true


set_option maxRecDepth 100000 in
set_option maxHeartbeats 4000000 in
theorem walk (a0 : Option Addr) (len0 cap0 : Nat) (z0 : List Int) (w : World) (w0 : IsRow .u8 w a0 len0 cap0 z0) :
    Calls Try.prog 4 #[.slice a0 len0 cap0] w fun e w' => e = .returned (.bool true) ∧ Below w.heap.size w w' := by
  obtain ⟨l, rfl, hA, hl, hlc, hcap⟩ := row_bs w0
  clear w0
  by_cases hbig : (1048576 : Int) < (l.length : Int)
  · have hd : decide ((1048576 : Int) < (l.length : Int)) = true := by simpa using hbig
    clear hbig
    go_enter Try.func4, Try.ntmps4
    go_wp2_with (go_at_call 11; refine (big_any _ _ _ _).mono ?_; rintro e w' ⟨rfl, rfl⟩)
    go_ret
    exact ⟨rfl, Below.refl _ _⟩
  · have hlen : (l.length : Int) ≤ 1048576 := by omega
    have hd : decide ((1048576 : Int) < (l.length : Int)) = false := by simpa using hlen
    clear hbig
    have f1 := fldIV
    go_enter Try.func4, Try.ntmps4
    go_wp2_with (go_at_call 11; refine (big_any _ _ _ _).mono ?_; rintro e w' ⟨rfl, rfl⟩)
    refine (drawGap_any _ _ _ _ hA hl hlen).mono ?_
    rintro e w1 ⟨a, b, rfl, hb1⟩
    go_wp2_with fail
    refine (gap_implB _ _ _).mono ?_
    rintro e w2 ⟨rfl, hb2⟩
    have h12 := hb1.size
    have h22 := hb2.size
    have b2 := btr hb1 hb2
    clear hb1 hb2
    go_wp2_with fail
    go_region_held3 (fun w' => w'.cell? ⟨w2.heap.size, 0, none⟩ = some (.int .i64 (addC a b)) ∧ w'.cell? ⟨w2.heap.size, 1, none⟩ = some (.int .i64 (gapV a b)) ∧ w2.heap.size < w'.heap.size ∧ Below w.heap.size w w' ∧ w.heap.size ≤ w'.heap.size) (first | exact two_drew (two_start b2 _ _ _) | exact two_keep ‹_› ‹_› | exact two_drew ‹_›)
      (first | (go_at_call 26; refine (gap_specB _ _ _).mono ?_; rintro e w' ⟨rfl, hb⟩) | (go_at_call 27; refine (less_impl _ _ _).mono ?_; rintro e w' ⟨rfl, hb⟩) | (go_at_call 28; refine (less_specB _ _ _).mono ?_; rintro e w' ⟨rfl, hb⟩))
    rename_i hHeld
    have hH := hHeld
    clear b2 h12 h22
    obtain ⟨q0, q1, qz, b5, qs⟩ := hH
    by_cases hw : IsW a ∧ IsW b
    · have hc0 : (addC a b != 0) = false := by rw [addC_yes hw]; rfl
      obtain ⟨g0, g1, k0, k1, e1, e2, e3, e4⟩ := serial_cases hw
      have X5 := two_keep (B := w.heap.size) (w := w) ⟨q0, q1, qz, b5, qs⟩ (Below.refl _ _)
      rcases e4 with ⟨p1, p2, p3, p4⟩ | ⟨p1, p2, p3, p4⟩ | ⟨p1, p2, p3, p4⟩ | ⟨p1, p2, p3, p4⟩
      all_goals
        clear hHeld q0 q1 qz b5 qs hw
        go_wp2_with fail
        refine (gap_implB _ _ _).mono ?_
        rintro e w6 ⟨rfl, hb6⟩
        replace X5 := two_keep X5 hb6
        have X6 := two_start X5.2.2.2.1 (.int .i64 (addC b a)) (.int .i64 (gapV b a)) 27
        replace X5 := two_keep X5 (bal (Below.refl _ _) (.cells #[.int .i64 (addC b a), .int .i64 (gapV b a)] 27))
        clear hb6
        go_wp2_with (first | (go_at_call 14; refine (add_implB _ _ _).mono ?_; rintro e w7 ⟨rfl, hb7⟩; replace X5 := two_keep X5 hb7; replace X6 := two_keep X6 hb7; clear hb7) | (go_at_call 27; refine (less_impl _ _ _).mono ?_; rintro e w7 ⟨rfl, hb7⟩; replace X5 := two_keep X5 hb7; replace X6 := two_keep X6 hb7; clear hb7))
        go_ret
        exact ⟨rfl, X5.2.2.2.1⟩
    · have hc0 : (addC a b != 0) = true := by rw [addC_no hw]; rfl
      have hlb : lessB a b = false := by rw [lessB, gapV_no hw]; rfl
      have B := hidH b5
      have S := hidH qs
      clear b5 qs hw
      go_wp2_with (go_at_call 27; refine (less_impl _ _ _).mono ?_; rintro e w6 ⟨rfl, hb6⟩)
      go_ret
      exact ⟨rfl, B.out.trans (‹Below w'.heap.size w' w6›.mono S.out)⟩

/-! ### THE ROW's STEP: WRITTEN OUT: LEAVE IT -/
set_option maxRecDepth 100000 in
theorem lifted (os : Os) (started : os.Started) (H : Type) (enc : TypeId × Value → H) :
    ReturnsInHanded {} Try.checked os 4 .any (Rows.fnSerialsSpec.pre6 enc Try.prog Try.f4 Rows.fnSerialsRow.domain false) (Rows.fnSerialsSpec.post enc Try.prog Try.f4 false true false false) := by
  refine returnsInHanded_of_change (C := Try.checked) own started (by kernel_rfl) Try.func4
    (ChangeSpec.witness6 (enc := enc) (C := Try.checked) false ⟨#[], #[.slice none 0 0], []⟩ 8 (by kernel_rfl) (by kernel_rfl) (by kernel_rfl) (by kernel_rfl)) ?_
  intro W base args ds gs before hval0 hW hcnd _
  have hval : ∀ (j : Nat) t v, Try.f4.params[j]? = some t → args[j]? = some v → Value.okWide Try.prog W .any base t v := hval0
  have hW' := hW
  obtain ⟨p, q, hA0, hV, rfl, hfz, hnd⟩ := hW
  have hA : DataW.TrodAll enc Try.prog W 0 (fun _ => true) true Try.f4.params.toList args.toList ds p := hA0
  rw [Try.params4] at hA hval
  obtain ⟨v0, vs0, d0, ds0, p0, q0, hargs, rfl, rfl, h0, r0⟩ := trodAll_cons hA
  obtain ⟨rfl, rfl, rfl⟩ := trodAll_nil r0
  obtain rfl : args = #[v0] := by cases args; simp_all
  obtain ⟨rfl, rfl⟩ := trodVars_none hV
  obtain ⟨a0, len0, cap0, rfl⟩ := okWide_slice Try.underlying22 (hval 0 22 v0 rfl rfl)
  have k0 := h0
  have lt0 : ∀ x ∈ p0, x.block < W.heap.size := by obtain ⟨m, hm⟩ := k0; exact DataW.trod_lt m _ _ _ hm
  obtain ⟨z0, w0⟩ : ∃ zs, IsRow .u8 W a0 len0 cap0 zs := by
    obtain ⟨fuel, hf⟩ := h0
    rcases open_ints Try.underlying22 Try.underlying5 (by kernel_rfl) hf with ⟨hcs, _⟩ | ⟨x, l, c, zs, hcs, _, hl, hm, hz, _, hcell, hwz⟩
    · simp [Value.cells] at hcs
      obtain ⟨rfl, rfl, rfl⟩ := hcs
      exact ⟨[], .inl ⟨rfl, rfl, rfl, rfl⟩⟩
    · simp [Value.cells] at hcs
      obtain ⟨rfl, rfl, rfl⟩ := hcs
      exact ⟨zs, .inr ⟨_, rfl, hl, hm, by simpa using hz, hcell, hwz⟩⟩
  clear hA0 hval0
  refine (walk a0 len0 cap0 z0 W w0).mono fun e W' ⟨he, bel⟩ => ?_
  subst he
  exact ⟨_, rfl, _, _, _, [], _, [], hW', trodAll_mk1 (shut_bool Try.underlying4 _), (trodAll_cons_mk (Below.trod laidOut (by kernel_rfl) (of_decide_eq_true (by kernel_rfl)) k0 bel lt0) trodAll_mk0), rfl, bel.frame _, fun h => by cases h⟩

theorem over : Rows.fnSerialsRow.holds Try.pinned (OpenSpec.ofChange Rows.fnSerialsSpec) :=
  OpenClaim.holds_of_wide 4 Try.f4 rfl rfl rfl rfl rfl rfl rfl ⟨rfl, rfl, rfl, rfl, rfl⟩ rfl rfl rfl rfl rfl (by kernel_rfl) Try.func4 (by kernel_rfl)
    (of_decide_eq_true (by kernel_rfl)) (by unfold Func.isWrapper; first | (rw [if_pos (by decide +kernel)]; kernel_rfl) | (rw [if_neg (by decide +kernel)]; exact ⟨rfl, rfl⟩))
    (fun os started H enc _ => lifted os started H enc)

/-- ████ THE STATEMENT ████ -/
theorem proved : Rows.FnSerialsSaid := over
#print axioms proved
end Go.Proofs.Ytbmaolcbphfioaa.fnSerials
