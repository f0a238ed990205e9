/- At every two lists of pieces the program's SameDatas answers as its model does, it leaves its arguments as they were, and the law FnExactSameDatas answers true. -/
import Derived.Test.YtbfbfimmhpijfaaRows
import Derived.Test.YtbfbfimmhpijfaaS8D
import Derived.Test.YtbfbfimmhpijfaaUniR
import Derived.Test.YtbfbfimmhpijfaaLwBytes
import Derived.WalkSpells
import Derived.WalkLawsBesides
import Derived.WalkKit
import Derived.ProofKit
import Derived.OpenShut
import Derived.ShutString
import Derived.ChangeOld
import Derived.Below
namespace Go.Proofs.Ytbfbfimmhpijfaa.fnExactSameDatas
open Go.ChangeShapes Go.WideShapes Go.ChangeAt Go.RowKit
open Go.ChangeMaps (open_string shut_string)
set_option linter.unusedVariables false

theorem own : ownKnob Try.prog.godebug = none := by kernel_rfl
theorem laidOut : laidOutB Try.prog = true := by kernel_rfl

/-- WHAT THE WALK IS TOLD OF A SLICE OF INTEGERS THAT CAME IN: it is nil; or it leads to a row of 'cap' cells, the numbers 'zs' (the first 'len' are its elements, the rest its spare room), each fitting its kind. -/
def IsRow (k : IntKind) (w : World) (a : Option Addr) (len cap : Nat) (zs : List Int) : Prop :=
  (a = none ∧ len = 0 ∧ cap = 0 ∧ zs = []) ∨
  ∃ x, a = some x ∧ len ≤ cap ∧ cap ≤ maxLen ∧ zs.length = cap ∧ (∀ i, i < zs.length → w.cell? (x.add i) = some (.int k (zs.getD i 0))) ∧ ∀ n ∈ zs, (Lit.int k n).wf = true


set_option maxRecDepth 100000 in
set_option maxHeartbeats 4000000 in
theorem walk (r0 : List DataM) (A0 : Option Addr) (c0 : Nat) (r1 : List DataM) (A1 : Option Addr) (c1 : Nat) (w : World) (w0 : Rd w (st_Data r0) (.slice A0 r0.length c0) ∧ WfV (st_Data r0)) (w1 : Rd w (st_Data r1) (.slice A1 r1.length c1) ∧ WfV (st_Data r1)) :
    Calls Try.prog 8 #[.slice A0 r0.length c0, .slice A1 r1.length c1] w fun e w' => e = .returned (.bool true) ∧ Below w.heap.size w w' := by
  obtain ⟨hr0, hwf0⟩ := w0
  obtain ⟨hr1, hwf1⟩ := w1
  have K : Below w.heap.size w w := Below.refl _ _
  have HRD0 := hidH (fun (u : World) (h : Below w.heap.size w u) => Rd.below h _ hr0)
  have HWF0 := hidH hwf0
  have HRD1 := hidH (fun (u : World) (h : Below w.heap.size w u) => Rd.below h _ hr1)
  have HWF1 := hidH hwf1
  clear hr0 hwf0 hr1 hwf1
  go_enter Try.func8, Try.ntmps8
  go_wp2_with fail
  refine (szS_Data r0 _ 1048576 _ (HRD0.out _ K) (by omega) (by omega)).mono ?_
  rintro e w11 ⟨z0, rfl, hz0, hb⟩
  have sz := hb.size
  try simp only [World.size_alloc] at sz
  replace K := btr K hb
  clear hb
  have HZ0 := hidH hz0
  clear hz0
  by_cases h0 : z0 < 0
  · go_wp2
    go_ret
    exact ⟨rfl, K⟩
  · have ht0 : tot (st_Data r0) ≤ 1048576 := by have := HZ0.out.2.2 (by omega); omega
    have hzp0 : 0 ≤ z0 := by omega
    have hzl0 : z0 ≤ 1048576 := by have := HZ0.out.2.1; omega
    clear h0
    go_wp2_with fail
    refine (szS_Data r1 _ z0 _ (HRD1.out _ K) (by omega) (by omega)).mono ?_
    rintro e w12 ⟨z1, rfl, hz1, hb⟩
    have sz := hb.size
    try simp only [World.size_alloc] at sz
    replace K := btr K hb
    clear hb
    have HZ1 := hidH hz1
    clear hz1
    by_cases h0 : z1 < 0
    · go_wp2
      go_ret
      exact ⟨rfl, K⟩
    · have ht1 : tot (st_Data r1) ≤ 1048576 := by have := HZ1.out.2.2 (by omega); omega
      have hzp1 : 0 ≤ z1 := by omega
      have hzl1 : z1 ≤ 1048576 := by have := HZ1.out.2.1; omega
      clear h0
      have TO0 := hidH (fun (u : World) (h : Below w.heap.size w u) => toS_Data r0 _ u (HRD0.out u h) ht0)
      have TO1 := hidH (fun (u : World) (h : Below w.heap.size w u) => toS_Data r1 _ u (HRD1.out u h) ht1)
      have SP := hidH (fun (u : World) (v0 : Value) (v1 : Value) (h0 : Rd u (st_Data r0) v0) (h1 : Rd u (st_Data r1) v1) => sds_spec r0 v0 r1 v1 u h0 HWF0.out ht0 h1 HWF1.out ht1)
      have IM := hidH (fun (u : World) (v0 : Value) (v1 : Value) (h0 : Rd u (st_Data r0) v0) (h1 : Rd u (st_Data r1) v1) => sds_impl r0 v0 r1 v1 u h0 HWF0.out ht0 h1 HWF1.out ht1)
      obtain ⟨z, hz⟩ : ∃ z, sameG r0 r1 = z := ⟨_, rfl⟩
      rw [hz] at SP IM
      clear hz ht0 ht1
      clear HZ0 HZ1
      go_wp2_with fail
      refine (TO0.out _ K).mono ?_
      rintro e w13 ⟨vs, rfl, Qa0, hb⟩
      obtain ⟨Ea0, ea0, rfl⟩ := st_Data_sh Qa0.rd
      try simp only [World.size_alloc] at Qa0
      have sz := hb.size
      try simp only [World.size_alloc] at sz
      replace K := btr K hb
      clear hb
      go_wp2_with fail
      refine (TO1.out _ K).mono ?_
      rintro e w14 ⟨vs, rfl, Qa1, hb⟩
      obtain ⟨Ea1, ea1, rfl⟩ := st_Data_sh Qa1.rd
      try simp only [World.size_alloc] at Qa1
      have sz := hb.size
      try simp only [World.size_alloc] at sz
      replace Qa0 := Qa0.below hb
      replace K := btr K hb
      clear hb
      go_wp2_with fail
      refine (SP.out _ _ _ Qa0.rd Qa1.rd).mono ?_
      rintro e w15 ⟨rfl, hb⟩
      have sz := hb.size
      try simp only [World.size_alloc] at sz
      replace Qa0 := Qa0.below hb
      replace Qa1 := Qa1.below hb
      replace K := btr K hb
      clear hb
      clear Qa0
      clear Qa1
      go_wp2_with fail
      refine (TO0.out _ K).mono ?_
      rintro e w16 ⟨vs, rfl, Qx0, hb⟩
      obtain ⟨Ex0, ex0, rfl⟩ := st_Data_sh Qx0.rd
      try simp only [World.size_alloc] at Qx0
      have sz := hb.size
      try simp only [World.size_alloc] at sz
      replace K := btr K hb
      clear hb
      go_wp2_with fail
      refine (TO1.out _ K).mono ?_
      rintro e w17 ⟨vs, rfl, Qx1, hb⟩
      obtain ⟨Ex1, ex1, rfl⟩ := st_Data_sh Qx1.rd
      try simp only [World.size_alloc] at Qx1
      have sz := hb.size
      try simp only [World.size_alloc] at sz
      replace Qx0 := Qx0.below hb
      replace K := btr K hb
      clear hb
      go_wp2_with fail
      refine (IM.out _ _ _ Qx0.rd Qx1.rd).mono ?_
      rintro e w18 ⟨rfl, hb⟩
      have sz := hb.size
      try simp only [World.size_alloc] at sz
      replace Qx0 := Qx0.below hb
      replace Qx1 := Qx1.below hb
      replace K := btr K hb
      clear hb
      go_wp2_with fail
      refine (TO0.out _ K).mono ?_
      rintro e w19 ⟨vs, rfl, Qe0, hb⟩
      obtain ⟨Ee0, ee0, rfl⟩ := st_Data_sh Qe0.rd
      try simp only [World.size_alloc] at Qe0
      have sz := hb.size
      try simp only [World.size_alloc] at sz
      replace Qx0 := Qx0.below hb
      replace Qx1 := Qx1.below hb
      replace K := btr K hb
      clear hb
      go_wp2_with fail
      refine (eqS_Data r0 _ _ _ Qx0.rd Qe0.rd).mono ?_
      rintro e w20 ⟨rfl, hb⟩
      have sz := hb.size
      try simp only [World.size_alloc] at sz
      replace Qx0 := Qx0.below hb
      replace Qx1 := Qx1.below hb
      replace Qe0 := Qe0.below hb
      replace K := btr K hb
      clear hb
      clear Qe0
      go_wp2_with fail
      refine (TO1.out _ K).mono ?_
      rintro e w21 ⟨vs, rfl, Qe1, hb⟩
      obtain ⟨Ee1, ee1, rfl⟩ := st_Data_sh Qe1.rd
      try simp only [World.size_alloc] at Qe1
      have sz := hb.size
      try simp only [World.size_alloc] at sz
      replace Qx0 := Qx0.below hb
      replace Qx1 := Qx1.below hb
      replace K := btr K hb
      clear hb
      go_wp2_with fail
      refine (eqS_Data r1 _ _ _ Qx1.rd Qe1.rd).mono ?_
      rintro e w22 ⟨rfl, hb⟩
      have sz := hb.size
      try simp only [World.size_alloc] at sz
      replace Qx0 := Qx0.below hb
      replace Qx1 := Qx1.below hb
      replace Qe1 := Qe1.below hb
      replace K := btr K hb
      clear hb
      clear Qe1
      go_wp2
      go_ret
      exact ⟨rfl, K⟩

/-- An input that the row's conditions hold of: the witness laid as theorems of their own (inside the refine Lean does not come to an end). -/
def wit : Input := ⟨#[], #[.slice none 0 0, .slice none 0 0], []⟩
theorem wit1 (os : Os) : (World.plainHolding Try.checked.prog os wit).variablesB Try.checked.prog = true := by kernel_rfl
theorem wit2 (os : Os) : ((World.plainHolding Try.checked.prog os wit).heap.toList.drop Try.checked.prog.globals.size).take ((begin Try.checked.prog (fun _ _ => 0) default).world.heap.size - Try.checked.prog.globals.size) =
    (begin Try.checked.prog (fun _ _ => 0) default).world.heap.toList.drop Try.checked.prog.globals.size := by kernel_rfl
theorem wit3 (os : Os) : Input.okWideB Try.checked.prog (World.plainHolding Try.checked.prog os wit) 8 ⟨#[], wit.args, []⟩ = true := by kernel_rfl
theorem wit4 (os : Os) (H : Type) (enc : TypeId × Value → H) : Rows.fnExactSameDatasSpec.preB enc Try.checked.prog Try.f8 Rows.fnExactSameDatasRow.domain false (World.plainHolding Try.checked.prog os wit).memory wit.args 8 = true := by kernel_rfl
theorem wit5 (os : Os) (H : Type) (enc : TypeId × Value → H) : Rows.fnExactSameDatasSpec.sizedB enc Try.checked.prog Try.f8 false (World.plainHolding Try.checked.prog os wit).memory wit.args 8 = true := by kernel_rfl

/-! ### THE ROW's STEP: WRITTEN OUT: LEAVE IT -/
set_option maxRecDepth 100000 in
theorem lifted (os : Os) (started : os.Started) (H : Type) (enc : TypeId × Value → H) :
    ReturnsInHanded {} Try.checked os 8 .any (Rows.fnExactSameDatasSpec.pre6 enc Try.prog Try.f8 Rows.fnExactSameDatasRow.domain false) (Rows.fnExactSameDatasSpec.post enc Try.prog Try.f8 false true false false) := by
  have hw := ChangeSpec.witness6 (enc := enc) (C := Try.checked) (fn := Try.f8) (s := Rows.fnExactSameDatasSpec) (conds := Rows.fnExactSameDatasRow.domain) (apart := false) false wit 8 (wit1 os) (wit2 os) (wit3 os) (wit4 os H enc) (wit5 os H enc)
  refine returnsInHanded_of_change (C := Try.checked) own started (by kernel_rfl) Try.func8 hw ?_
  intro W base args ds gs before hval0 hW hcnd _
  have hval : ∀ (j : Nat) t v, Try.f8.params[j]? = some t → args[j]? = some v → Value.okWide Try.prog W .any base t v := hval0
  have hW' := hW
  obtain ⟨p, q, hA0, hV, rfl, hfz, hnd⟩ := hW
  have hA : DataW.TrodAll enc Try.prog W 0 (fun _ => true) true Try.f8.params.toList args.toList ds p := hA0
  rw [Try.params8] at hA hval
  obtain ⟨v0, vs0, d0, ds0, p0, q0, hargs, rfl, rfl, h0, r0⟩ := trodAll_cons hA
  obtain ⟨v1, vs1, d1, ds1, p1, q1, rfl, rfl, rfl, h1, r1⟩ := trodAll_cons r0
  obtain ⟨rfl, rfl, rfl⟩ := trodAll_nil r1
  obtain rfl : args = #[v0, v1] := by cases args; simp_all
  obtain ⟨rfl, rfl⟩ := trodVars_none hV
  obtain ⟨aa0, ll0, cc0, rfl⟩ := okWide_slice Try.underlying50 (hval 0 50 v0 rfl rfl)
  have k0 := h0
  have lt0 : ∀ x ∈ p0, x.block < W.heap.size := by obtain ⟨m, hm⟩ := k0; exact DataW.trod_lt m _ _ _ hm
  obtain ⟨lz0, Az0, cz0, ez0, w0⟩ : ∃ (l : List DataM) (A : Option Addr) (c : Nat), Value.slice aa0 ll0 cc0 = .slice A l.length c ∧ Rd W (st_Data l) (.slice A l.length c) ∧ WfV (st_Data l) := by
    obtain ⟨fuel, hf⟩ := h0
    obtain ⟨l, hr, hw⟩ := openS_Data (v := .slice aa0 ll0 cc0) hf
    obtain ⟨A, c, e⟩ := st_Data_sh hr
    exact ⟨l, A, c, e, e ▸ hr, hw⟩
  obtain ⟨rfl, rfl, rfl⟩ := Value.slice.inj ez0
  obtain ⟨aa1, ll1, cc1, rfl⟩ := okWide_slice Try.underlying50 (hval 1 50 v1 rfl rfl)
  have k1 := h1
  have lt1 : ∀ x ∈ p1, x.block < W.heap.size := by obtain ⟨m, hm⟩ := k1; exact DataW.trod_lt m _ _ _ hm
  obtain ⟨lz1, Az1, cz1, ez1, w1⟩ : ∃ (l : List DataM) (A : Option Addr) (c : Nat), Value.slice aa1 ll1 cc1 = .slice A l.length c ∧ Rd W (st_Data l) (.slice A l.length c) ∧ WfV (st_Data l) := by
    obtain ⟨fuel, hf⟩ := h1
    obtain ⟨l, hr, hw⟩ := openS_Data (v := .slice aa1 ll1 cc1) hf
    obtain ⟨A, c, e⟩ := st_Data_sh hr
    exact ⟨l, A, c, e, e ▸ hr, hw⟩
  obtain ⟨rfl, rfl, rfl⟩ := Value.slice.inj ez1
  clear hA0 hval0
  refine (walk _ _ _ _ _ _ W w0 w1).mono fun e W' ⟨he, bel⟩ => ?_
  subst he
  exact ⟨_, rfl, _, _, _, [], _, [], hW', trodAll_mk1 (shut_bool Try.underlying4 _), (trodAll_cons_mk (Below.trod laidOut (by kernel_rfl) (of_decide_eq_true (by kernel_rfl)) k0 bel lt0) (trodAll_cons_mk (Below.trod laidOut (by kernel_rfl) (of_decide_eq_true (by kernel_rfl)) k1 bel lt1) trodAll_mk0)), rfl, bel.frame _, fun h => by cases h⟩

theorem over : Rows.fnExactSameDatasRow.holds Try.pinned (OpenSpec.ofChange Rows.fnExactSameDatasSpec) :=
  OpenClaim.holds_of_wide 8 Try.f8 rfl rfl rfl rfl rfl rfl rfl ⟨rfl, rfl, rfl, rfl, rfl⟩ rfl rfl rfl rfl rfl (by kernel_rfl) Try.func8 (by kernel_rfl)
    (of_decide_eq_true (by kernel_rfl)) (by unfold Func.isWrapper; first | (rw [if_pos (by decide +kernel)]; kernel_rfl) | (rw [if_neg (by decide +kernel)]; exact ⟨rfl, rfl⟩))
    (fun os started H enc _ => lifted os started H enc)

/-- ████ THE STATEMENT ████ -/
theorem proved : Rows.FnExactSameDatasSaid := over
#print axioms proved
end Go.Proofs.Ytbfbfimmhpijfaa.fnExactSameDatas
