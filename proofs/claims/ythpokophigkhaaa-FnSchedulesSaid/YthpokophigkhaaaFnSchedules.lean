/- At every slice of bytes the law FnSchedules answers true. -/
import Derived.Test.YthpokophigkhaaaRows
import Derived.Test.YthpokophigkhaaaLaw3
import Derived.WalkSpells
import Derived.WalkLawsBesides
import Derived.WalkKit
import Derived.ProofKit
import Derived.OpenShut
import Derived.ShutString
import Derived.ChangeOld
import Derived.Below
namespace Go.Proofs.Ythpokophigkhaaa.fnSchedules
open Go.ChangeShapes Go.WideShapes Go.ChangeAt Go.RowKit
open Go.ChangeMaps (open_string shut_string)
set_option linter.unusedVariables false

theorem own : ownKnob Try.prog.godebug = none := by kernel_rfl
theorem laidOut : laidOutB Try.prog = true := by kernel_rfl

/-- WHAT THE WALK IS TOLD OF A SLICE OF INTEGERS THAT CAME IN: it is nil; or it leads to a row of 'cap' cells, the numbers 'zs' (the first 'len' are its elements, the rest its spare room), each fitting its kind. -/
def IsRow (k : IntKind) (w : World) (a : Option Addr) (len cap : Nat) (zs : List Int) : Prop :=
  (a = none ∧ len = 0 ∧ cap = 0 ∧ zs = []) ∨
  ∃ x, a = some x ∧ len ≤ cap ∧ cap ≤ maxLen ∧ zs.length = cap ∧ (∀ i, i < zs.length → w.cell? (x.add i) = some (.int k (zs.getD i 0))) ∧ ∀ n ∈ zs, (Lit.int k n).wf = true


set_option maxRecDepth 100000 in
set_option maxHeartbeats 4000000 in
theorem walk (a0 : Option Addr) (len0 cap0 : Nat) (z0 : List Int) (w : World) (w0 : IsRow .u8 w a0 len0 cap0 z0) :
    Calls Try.prog 6 #[.slice a0 len0 cap0] w fun e w' => e = .returned (.bool true) ∧ Below w.heap.size w w' := by
  obtain ⟨l, rfl, hA, hl, hlc, hcap⟩ := row_bs w0
  clear w0
  by_cases hbig : (1048576 : Int) < (l.length : Int)
  · have hd : decide ((1048576 : Int) < (l.length : Int)) = true := by simpa using hbig
    clear hbig
    go_enter Try.func6, Try.ntmps6
    go_wp2_with (go_at_call 12; refine (big_any _ _ _ _).mono ?_; rintro e w' ⟨rfl, rfl⟩)
    go_ret
    exact ⟨rfl, Below.refl _ _⟩
  · have hlen : (l.length : Int) ≤ 1048576 := by omega
    have hd : decide ((1048576 : Int) < (l.length : Int)) = false := by simpa using hlen
    clear hbig
    have f1 := fldWC
    have f2 := fldWW
    go_enter Try.func6, Try.ntmps6
    go_wp2_with (go_at_call 12; refine (big_any _ _ _ _).mono ?_; rintro e w' ⟨rfl, rfl⟩)
    refine (drawSch_any _ _ _ _ hA hl hlen).mono ?_
    rintro e w1 ⟨D, dc, d, rfl, D1, hdB, hdc, hdm, hdl, b1⟩
    go_wp2_with fail
    refine (sch_impl _ _ _ _ D1 hdB).mono ?_
    rintro e w2 ⟨P, cp, rfl, P2, b2, hcp, hcm⟩
    have X4 := Blk.new w2 42 #[.int .i64 (schC d), .slice P (schM d).length cp]
    have B2 := bal (btr b1 b2) (.cells #[.int .i64 (schC d), .slice P (schM d).length cp] 42)
    have Q2 := is_below P2.is (bal (Below.refl _ _) (.cells #[.int .i64 (schC d), .slice P (schM d).length cp] 42))
    have D2 := bs_below (bs_below D1 b2) (bal (Below.refl _ _) (.cells #[.int .i64 (schC d), .slice P (schM d).length cp] 42))
    clear b1 b2 P2 D1
    go_wp2_with fail
    refine (drawCB_any _ _ _ _ (bs_below hA B2) hl hlen).mono ?_
    rintro e w3 ⟨S, sc, st, O, oc, ot, rfl, S3, O3, hoB, hsc, hsm, hsl, hoc, hom, hol, b3⟩
    have X4' := X4.below b3
    have B3 := btr B2 b3
    have Q3 := is_below Q2 b3
    have D3 := bs_below D2 b3
    clear X4 B2 Q2 D2 b3
    go_wp2_with fail
    refine (com_impl _ _ _ _ _ _ _ S3 O3 hoB).mono ?_
    rintro e w4 ⟨P7, cp7, rfl, P4, b4, hcp7, hcm7⟩
    have X7 := Blk.new w4 42 #[.int .i64 (comC st ot), .slice P7 (comM st ot).length cp7]
    have bn := bal (Below.refl w4.heap.size w4) (.cells #[.int .i64 (comC st ot), .slice P7 (comM st ot).length cp7] 42)
    have V4 : SS w w2.heap.size w4.heap.size (schC d) P (schM d) cp (comC st ot) P7 (comM st ot) cp7 D d S st O ot (w4.alloc (.cells #[.int .i64 (comC st ot), .slice P7 (comM st ot).length cp7] 42)) :=
      ⟨(X4'.below b4).below bn, X7, is_below (is_below Q3 b4) bn, bs_below (bs_below D3 b4) bn, is_below (is_below S3 b4) bn, bs_below (bs_below O3 b4) bn, btr (btr B3 b4) bn⟩
    clear X4' B3 Q3 D3 S3 O3 b4 X7 bn P4
    go_wp2_with fail
    refine (drawRW_any _ _ _ _ (bs_below hA V4.old) hl hlen).mono ?_
    rintro e w5 ⟨ri, rfl, b5⟩
    have V5 := V4.below b5
    clear V4 b5
    go_wp2_with fail
    generalize w2.heap.size = g4 at *
    generalize w4.heap.size = g7 at *
    go_region_held3 (fun w' => (w'.cell? ⟨g4, 0, none⟩ = some (.int .i64 (schC d)) ∧ w'.cell? ⟨g4, 1, none⟩ = some (.slice P (schM d).length cp) ∧ w'.cell? ⟨g7, 0, none⟩ = some (.int .i64 (comC st ot)) ∧ SS w g4 g7 (schC d) P (schM d) cp (comC st ot) P7 (comM st ot) cp7 D d S st O ot w')) (first | assumption | exact (SS.drew (by assumption)).s | exact ((SS.of_s (by assumption)).below (by assumption)).s | exact (SS.of_s (by assumption)).drew.s)
      (first | (go_at_call 36; refine (sch_spec _ _ _ _ (SS.of_s (by assumption)).blk hdB).mono ?_; rintro e w' ⟨A9, c9, rfl, O9, hb, _, _⟩) | (go_at_call 37; refine (com_spec _ _ _ _ _ _ _ (SS.of_s (by assumption)).sta (SS.of_s (by assumption)).oth hoB).mono ?_; rintro e w' ⟨A9, c9, rfl, O9, hb, _, _⟩) | (go_at_call 38; refine (round_impl _ _).mono ?_; rintro e w' ⟨rfl, hb⟩) | (go_at_call 39; refine (round_spec _ _).mono ?_; rintro e w' ⟨rfl, hb⟩))
    rename_i hHeld
    have V := SS.of_s hHeld
    clear hHeld
    by_cases h64 : d.length = 64
    · have hc : schC d = 0 := by rw [schC, if_pos h64]
      have hm : schM d = ci (schedN d) := by rw [schM, if_pos h64]
      have SC : ∀ wx A c, Bs wx A d → Calls Try.prog 36 #[.slice A d.length c] wx (IRes wx 0 (ci (schedN d))) := fun wx A c hA => by
        have := sch_spec A d c wx hA hdB
        rwa [hc, hm] at this
      have hW : ∀ k, k < 16 → (ci (schedN d)).getD k 0 = ((wordN d k : Nat) : Int) := fun k hk => by
        have h1 : (schedTo d 48).getD k 0 = wordN d k := by
          have := part2_get d 48 k (by omega)
          rw [← this, part2, Nat.sub_self, List.replicate_zero, List.append_nil]
          have g : ∀ n, (schedTo d n).getD k 0 = wordN d k := by
            intro n
            induction n with
            | zero => simp [schedTo, List.getD_eq_getElem?_getD, hk]
            | succ n ih => rw [schedTo, List.getD_eq_getElem?_getD, List.getElem?_append_left (by rw [schedTo_len]; omega), ← List.getD_eq_getElem?_getD, ih]
          exact g 48
        have hl : k < (schedN d).length := by rw [schedN, schedTo_len]; omega
        rw [← h1]
        simp [ci, schedN, List.getD_eq_getElem?_getD] at hl ⊢
        simp [hl]
      have hWL : (ci (schedN d)).length = 64 := by rw [ci_len, schedN, schedTo_len]
      rw [hc, hm] at V ⊢
      obtain ⟨W0, hW0⟩ : ∃ W0, ci (schedN d) = W0 := ⟨_, rfl⟩
      rw [hW0] at V hWL ⊢
      simp only [hW0] at hW SC
      rcases V.words with hz | ⟨pb, po, rfl, hpb, hpc⟩
      · rw [hz] at hWL; simp at hWL
      have HSC := hidH SC
      have HW := hidH hW
      have HWL := hidH hWL
      have hn64 : ((W0.length : Int) != 64) = false := by rw [bne_eq_false_iff_eq]; omega
      obtain ⟨q0, q1, q2, _⟩ := V.s
      have HV := hidH V
      have H64 := hidH h64
      clear SC hW hWL V hpb hpc hW0 hc hm h64
      go_wp2
      clear q0 q1 q2
      go_loopw [9] (fun i wr => ∃ k : Nat, k ≤ 16 ∧ i = .int .i64 k ∧ SS w g4 g7 0 (some ⟨pb, po, none⟩) W0 cp (comC st ot) P7 (comM st ot) cp7 D d S st O ot wr) (fun i _ => 16 - (intOf i).toNat)
      case atStart => exact ⟨0, by omega, rfl, HV.out⟩
      case round =>
        obtain ⟨k, hk, rfl, hV⟩ := hrel
        by_cases hlt : k < 16
        · have hk0 : (0 : Int) ≤ (k : Int) := by omega
          have hk1 : (k : Int) < 16 := by omega
          have hkl : k < W0.length := by have := HWL.out; omega
          have hv := HW.out k hlt
          have AT : ∀ wx A c, Bs wx A d → d.length ≤ c → (c : Int) ≤ 9223372036854775807 → Calls Try.prog 19 #[.slice A d.length c, .int .i64 (4 * (k : Int))] wx (IB wx 0 ((wordN d k : Nat) : Int)) := fun wx A c h1 h2 h3 => by
            have := at_impl A d c (4 * (k : Int)) wx h1 hdB h2 h3
            have h64 := H64.out
            rw [atC, atV, if_pos ⟨by omega, by omega⟩, if_pos ⟨by omega, by omega⟩, show (4 * (k : Int)).toNat = 4 * k from by omega, ← wordN_cast hdB] at this
            exact this
          have HAT := hidH AT
          generalize ((wordN d k : Nat) : Int) = v at *
          have m1 : IntKind.i64.wrap (4 * (k : Int)) = 4 * (k : Int) := IntWalk.i64_in _ (by omega)
          have m2 : (k : Int) < (W0.length : Int) := by omega
          obtain ⟨q0, q1, q2, _⟩ := hV.sk hkl hv
          have HV2 := hidH hV
          have HVV := hidH hv
          clear AT hV hv
          go_wp2_with fail
          go_region_held3 (fun w' => (w'.cell? ⟨g4, 0, none⟩ = some (.int .i64 0) ∧ w'.cell? ⟨g4, 1, none⟩ = some (.slice (some ⟨pb, po, none⟩) W0.length cp) ∧ w'.cell? ⟨pb, po + k, none⟩ = some (.int .i64 v) ∧ SS w g4 g7 0 (some ⟨pb, po, none⟩) W0 cp (comC st ot) P7 (comM st ot) cp7 D d S st O ot w')) (first | assumption | exact (SS.drew (HV2.out)).sk hkl HVV.out | exact ((SS.of_k (by assumption)).below (by assumption)).sk hkl HVV.out | exact (SS.of_k (by assumption)).drew.sk hkl HVV.out)
            (first | (go_at_call 19; refine (HAT.out _ _ _ (SS.of_k (by assumption)).blk hdc hdm).mono ?_; rintro e w' ⟨rfl, hb⟩))
          rename_i hHeld
          have V2 := hidH (SS.of_k hHeld)
          clear hHeld HV2 HVV HAT q0 q1 q2 m1
          go_wp2
          go_roundw
          case rel => first | exact ⟨k + 1, by omega, by go_num, V2.out⟩ | ((repeat apply Exists.intro); exact ⟨⟨k + 1, by omega, by go_num, V2.out⟩, rfl⟩)
          case measure => simp [intOf]; omega
        · obtain rfl : k = 16 := by omega
          obtain ⟨q0, q1, q2, _⟩ := hV.s
          have HV2 := hidH hV
          clear hV hlt hk
          go_wp2_with fail
          go_region_held3 (fun w' => (w'.cell? ⟨g4, 0, none⟩ = some (.int .i64 0) ∧ w'.cell? ⟨g4, 1, none⟩ = some (.slice (some ⟨pb, po, none⟩) W0.length cp) ∧ w'.cell? ⟨g7, 0, none⟩ = some (.int .i64 (comC st ot)) ∧ SS w g4 g7 0 (some ⟨pb, po, none⟩) W0 cp (comC st ot) P7 (comM st ot) cp7 D d S st O ot w')) (first | assumption | exact (SS.drew (HV2.out)).s | exact ((SS.of_s (by assumption)).below (by assumption)).s | exact ((SS.of_s (by assumption)).below (below_drewN (Below.refl _ _) _)).s)
            (first | (go_at_call 36; refine (HSC.out _ _ _ (SS.of_s (by assumption)).blk).mono ?_; rintro e w' ⟨A9, c9, rfl, O9, hb, _, _⟩) | (go_at_call 40; refine (lwN_same _ _ _ _ _ _ (SS.of_s (by assumption)).words O9.is (by have := HWL.out; omega)).mono ?_; rintro e w' ⟨rfl, dm, rfl⟩))
          rename_i hHeld
          have V3 := hidH (SS.of_s hHeld)
          clear hHeld HV2 q0 q1 q2
          go_wp2
          go_ret
          exact ⟨rfl, V3.out.old⟩
    · have hc : schC d = 2 := by rw [schC, if_neg h64]
      rw [hc] at V ⊢
      obtain ⟨q0, q1, q2, _⟩ := V.s
      have HV := hidH V
      clear V hc
      go_wp2
      go_ret
      exact ⟨rfl, HV.out.old⟩

/-! ### THE ROW's STEP: WRITTEN OUT: LEAVE IT -/
set_option maxRecDepth 100000 in
theorem lifted (os : Os) (started : os.Started) (H : Type) (enc : TypeId × Value → H) :
    ReturnsInHanded {} Try.checked os 6 .any (Rows.fnSchedulesSpec.pre6 enc Try.prog Try.f6 Rows.fnSchedulesRow.domain false) (Rows.fnSchedulesSpec.post enc Try.prog Try.f6 false true false false) := by
  refine returnsInHanded_of_change (C := Try.checked) own started (by kernel_rfl) Try.func6
    (ChangeSpec.witness6 (enc := enc) (C := Try.checked) false ⟨#[], #[.slice none 0 0], []⟩ 8 (by kernel_rfl) (by kernel_rfl) (by kernel_rfl) (by kernel_rfl)) ?_
  intro W base args ds gs before hval0 hW hcnd _
  have hval : ∀ (j : Nat) t v, Try.f6.params[j]? = some t → args[j]? = some v → Value.okWide Try.prog W .any base t v := hval0
  have hW' := hW
  obtain ⟨p, q, hA0, hV, rfl, hfz, hnd⟩ := hW
  have hA : DataW.TrodAll enc Try.prog W 0 (fun _ => true) true Try.f6.params.toList args.toList ds p := hA0
  rw [Try.params6] at hA hval
  obtain ⟨v0, vs0, d0, ds0, p0, q0, hargs, rfl, rfl, h0, r0⟩ := trodAll_cons hA
  obtain ⟨rfl, rfl, rfl⟩ := trodAll_nil r0
  obtain rfl : args = #[v0] := by cases args; simp_all
  obtain ⟨rfl, rfl⟩ := trodVars_none hV
  obtain ⟨a0, len0, cap0, rfl⟩ := okWide_slice Try.underlying22 (hval 0 22 v0 rfl rfl)
  have k0 := h0
  have lt0 : ∀ x ∈ p0, x.block < W.heap.size := by obtain ⟨m, hm⟩ := k0; exact DataW.trod_lt m _ _ _ hm
  obtain ⟨z0, w0⟩ : ∃ zs, IsRow .u8 W a0 len0 cap0 zs := by
    obtain ⟨fuel, hf⟩ := h0
    rcases open_ints Try.underlying22 Try.underlying5 (by kernel_rfl) hf with ⟨hcs, _⟩ | ⟨x, l, c, zs, hcs, _, hl, hm, hz, _, hcell, hwz⟩
    · simp [Value.cells] at hcs
      obtain ⟨rfl, rfl, rfl⟩ := hcs
      exact ⟨[], .inl ⟨rfl, rfl, rfl, rfl⟩⟩
    · simp [Value.cells] at hcs
      obtain ⟨rfl, rfl, rfl⟩ := hcs
      exact ⟨zs, .inr ⟨_, rfl, hl, hm, by simpa using hz, hcell, hwz⟩⟩
  clear hA0 hval0
  refine (walk a0 len0 cap0 z0 W w0).mono fun e W' ⟨he, bel⟩ => ?_
  subst he
  exact ⟨_, rfl, _, _, _, [], _, [], hW', trodAll_mk1 (shut_bool Try.underlying4 _), (trodAll_cons_mk (Below.trod laidOut (by kernel_rfl) (of_decide_eq_true (by kernel_rfl)) k0 bel lt0) trodAll_mk0), rfl, bel.frame _, fun h => by cases h⟩

theorem over : Rows.fnSchedulesRow.holds Try.pinned (OpenSpec.ofChange Rows.fnSchedulesSpec) :=
  OpenClaim.holds_of_wide 6 Try.f6 rfl rfl rfl rfl rfl rfl rfl ⟨rfl, rfl, rfl, rfl, rfl⟩ rfl rfl rfl rfl rfl (by kernel_rfl) Try.func6 (by kernel_rfl)
    (of_decide_eq_true (by kernel_rfl)) (by unfold Func.isWrapper; first | (rw [if_pos (by decide +kernel)]; kernel_rfl) | (rw [if_neg (by decide +kernel)]; exact ⟨rfl, rfl⟩))
    (fun os started H enc _ => lifted os started H enc)

/-- ████ THE STATEMENT ████ -/
theorem proved : Rows.FnSchedulesSaid := over
#print axioms proved
end Go.Proofs.Ythpokophigkhaaa.fnSchedules
