/- At every integer the program's PackWord answers as its model does, in memory of its own, and the law FnExactPackWord answers true. -/
import Derived.Test.YtbmaolcbphfioaaRows
import Derived.Test.YtbmaolcbphfioaaPack
import Derived.WalkSpells
import Derived.WalkLawsBesides
import Derived.ChangeOld
import Derived.Below
import Derived.WalkKit
import Derived.ProofKit
import Derived.OpenShut
import Derived.ShutString
namespace Go.Proofs.Ytbmaolcbphfioaa.fnExactPackWord
open Go.ChangeShapes Go.WideShapes Go.ChangeAt Go.RowKit
open Go.ChangeMaps (open_string shut_string)
set_option linter.unusedVariables false      -- a walk need not use every 'w<i>' (that an integer argument fits its kind)

theorem own : ownKnob Try.prog.godebug = none := by kernel_rfl

theorem pack_len (x : Int) : ((packL x).length : Int) ≤ 4 := by
  unfold packL; split <;> simp [pk]

set_option maxRecDepth 100000 in
set_option maxHeartbeats 4000000 in
theorem walk (a0 : Int) (w0 : (Lit.int .i64 a0).wf = true) (w : World) :
    Calls Try.prog 7 #[.int .i64 a0] w fun e w' => e = .returned (.bool true) ∧ Below w.heap.size w w' := by
  have hlen := pack_len a0
  go_enter Try.func7, Try.ntmps7
  go_wp2_with fail
  refine (pack_spec _ _).mono ?_
  rintro e w1 ⟨A1, c1, rfl, O1, hb1, _, _⟩
  go_wp2_with fail
  refine (pack_impl _ _).mono ?_
  rintro e w2 ⟨A2, c2, rfl, O2, hb2, _, _⟩
  have h01 := hb1.size
  have h12 := hb2.size
  simp only [World.size_alloc] at h12 O2
  have X1 := (Blk.new w1 30 #[.int .i64 (packC a0), .slice A1 (packL a0).length c1]).below hb2
  have P1 := (O1.below (bal (Below.refl _ _) _)).below hb2
  have hb := btr (bal hb1 _) hb2
  clear hb1 hb2 O1
  obtain ⟨q0, q1, qz⟩ := X1.two
  go_wp2_with fail
  clear q0 q1 qz
  have X2 := Blk.new w2 30 #[.int .i64 (packC a0), .slice A2 (packL a0).length c2]
  refine (eqBR_same _ _ _ _ _ _ _ (O2.below (bal (Below.refl _ _) _)).bs (P1.below (bal (Below.refl _ _) _)).bs (by omega)).mono ?_
  rintro e w3 ⟨rfl, hb3⟩
  have h23 := hb3.size
  simp only [World.size_alloc] at h23
  have Y1 := (X1.alloc _).below hb3
  have Y2 := X2.below hb3
  have O3 := (O2.below (bal (Below.refl _ _) _)).below hb3
  have P3 := (P1.below (bal (Below.refl _ _) _)).below hb3
  have hc := btr (bal hb _) hb3
  clear hb hb3 X1 X2 P1 O2
  obtain ⟨q0, q1, qz⟩ := Y2.two
  go_wp2_with fail
  clear q0 q1 qz
  refine (markBR_any _ _ _ _ _ _ 1 _ O3 (by omega) (by omega)).mono ?_
  rintro e w4 ⟨rfl, W4, M4⟩
  have Z1 := W4.blk Y1 (.inl (Nat.lt_succ_self _))
  have Z2 := W4.blk Y2 (.inr (Nat.le_refl _))
  have P4 := P3.win W4 (.inl (Nat.le_succ _))
  have hd := hc.trans ((W4.below (by omega)).mono (by have := hc.size; omega))
  have h34 := W4.size
  clear O3 P3 hc W4 Y1 Y2
  obtain ⟨q0, q1, qz⟩ := Z2.two
  go_wp2_with fail
  clear q0 q1 qz
  refine (heldBR_any _ _ _ _ 1 _ M4 (by omega)).mono ?_
  rintro e w5 ⟨rfl, hb5⟩
  have V1 := Z1.below hb5
  have V2 := Z2.below hb5
  have P5 := P4.below hb5
  have M5 := bs_below M4 hb5
  have he := btr hd hb5
  have h45 := hb5.size
  clear hd hb5 Z1 Z2 P4 M4
  go_wp2_with fail
  refine (pack_impl _ _).mono ?_
  rintro e w6 ⟨A6, c6, rfl, O6, hb6, _, _⟩
  have h56 := hb6.size
  have U1 := V1.below hb6
  have U2 := V2.below hb6
  have P6 := P5.below hb6
  have M6 := bs_below M5 hb6
  have hf := btr he hb6
  clear he hb6 V1 V2 P5 M5
  obtain ⟨q0, q1, qz⟩ := U1.two
  go_wp2_with fail
  clear q0 q1 qz
  refine (eqBR_same _ _ _ _ _ _ _ (O6.below (bal (Below.refl _ _) _)).bs (P6.below (bal (Below.refl _ _) _)).bs (by omega)).mono ?_
  rintro e w7 ⟨rfl, hb7⟩
  have T2 := (U2.alloc _).below hb7
  have M7 := bs_below (bs_below M6 (bal (Below.refl _ _) _)) hb7
  have hg := btr (bal hf _) hb7
  clear hf hb7 U1 U2 P6 O6 M6
  obtain ⟨q0, q1, qz⟩ := T2.two
  go_wp2_with fail
  clear q0 q1 qz
  refine (heldBR_any _ _ _ _ 1 _ M7 (by omega)).mono ?_
  rintro e w8 ⟨rfl, hb8⟩
  have hh := btr hg hb8
  clear hg hb8 T2 M7
  go_wp2
  go_ret
  exact ⟨rfl, hh⟩

/-! ### THE ROW's STEP: WRITTEN OUT: LEAVE IT -/
set_option maxRecDepth 100000 in
theorem lifted (os : Os) (started : os.Started) (H : Type) (enc : TypeId × Value → H) :
    ReturnsInHanded {} Try.checked os 7 .any (Rows.fnExactPackWordSpec.pre6 enc Try.prog Try.f7 Rows.fnExactPackWordRow.domain false) (Rows.fnExactPackWordSpec.post enc Try.prog Try.f7 false true false false) := by
  refine returnsInHanded_of_change (C := Try.checked) own started (by kernel_rfl) Try.func7
    (ChangeSpec.witness6 (enc := enc) (C := Try.checked) false ⟨#[], #[.int .i64 0], []⟩ 8 (by kernel_rfl) (by kernel_rfl) (by kernel_rfl) (by kernel_rfl)) ?_
  intro W base args ds gs before hval0 hW hcnd _
  have hval : ∀ (j : Nat) t v, Try.f7.params[j]? = some t → args[j]? = some v → Value.okWide Try.prog W .any base t v := hval0
  have hW' := hW
  obtain ⟨p, q, hA0, hV, rfl, hfz, hnd⟩ := hW
  have hA : DataW.TrodAll enc Try.prog W 0 (fun _ => true) true Try.f7.params.toList args.toList ds p := hA0
  rw [Try.params7] at hA hval
  obtain ⟨v0, vs0, d0, ds0, p0, q0, hargs, rfl, rfl, h0, r0⟩ := trodAll_cons hA
  obtain ⟨rfl, rfl, rfl⟩ := trodAll_nil r0
  obtain rfl : args = #[v0] := by cases args; simp_all
  obtain ⟨rfl, rfl⟩ := trodVars_none hV
  obtain ⟨a0, rfl, rfl, rfl, w0⟩ := open_int Try.underlying2 (hval 0 2 v0 rfl rfl) h0
  clear hA0 hval0
  simp only [List.append_nil] at hW'
  refine (walk a0 w0 W).mono fun e W' ⟨he, bel⟩ => ?_
  subst he
  exact ⟨_, rfl, _, _, _, [], [], [], hW', (trodAll_cons_mk (shut_bool Try.underlying4 _) trodAll_mk0), (trodAll_cons_mk (shut_int Try.underlying2 w0) trodAll_mk0), rfl, bel.frame _, fun h => by cases h⟩

theorem over : Rows.fnExactPackWordRow.holds Try.pinned (OpenSpec.ofChange Rows.fnExactPackWordSpec) :=
  OpenClaim.holds_of_wide 7 Try.f7 rfl rfl rfl rfl rfl rfl rfl ⟨rfl, rfl, rfl, rfl, rfl⟩ rfl rfl rfl rfl rfl (by kernel_rfl) Try.func7 (by kernel_rfl)
    (of_decide_eq_true (by kernel_rfl)) (by unfold Func.isWrapper; first | (rw [if_pos (by decide +kernel)]; kernel_rfl) | (rw [if_neg (by decide +kernel)]; exact ⟨rfl, rfl⟩))
    (fun os started H enc _ => lifted os started H enc)

/-- ████ THE STATEMENT ████ -/
theorem proved : Rows.FnExactPackWordSaid :=
  over
#print axioms proved
end Go.Proofs.Ytbmaolcbphfioaa.fnExactPackWord
