/- At every two senders the program's SameSends answers as its model does, it leaves its arguments as they were, and the law FnExactSameSends answers true. -/
import Derived.Test.YthljdikcpdokdaaRows
import Derived.Test.YthljdikcpdokdaaS10SM
import Derived.Test.YthljdikcpdokdaaUniR
import Derived.Test.YthljdikcpdokdaaLwBytes
import Derived.Test.YthljdikcpdokdaaFnExactSameSendsC
import Derived.Test.YthljdikcpdokdaaFnExactSameSendsR
import Derived.WalkSpells
import Derived.WalkLawsBesides
import Derived.WalkKit
import Derived.ProofKit
import Derived.OpenShut
import Derived.ShutString
import Derived.ChangeOld
import Derived.Below
namespace Go.Proofs.Ythljdikcpdokdaa.fnExactSameSends
open Go.ChangeShapes Go.WideShapes Go.ChangeAt Go.RowKit
open Go.ChangeMaps (open_string shut_string)
set_option linter.unusedVariables false

theorem own : ownKnob Try.prog.godebug = none := by kernel_rfl
theorem laidOut : laidOutB Try.prog = true := by kernel_rfl

/-- WHAT THE WALK IS TOLD OF A SLICE OF INTEGERS THAT CAME IN: it is nil; or it leads to a row of 'cap' cells, the numbers 'zs' (the first 'len' are its elements, the rest its spare room), each fitting its kind. -/
def IsRow (k : IntKind) (w : World) (a : Option Addr) (len cap : Nat) (zs : List Int) : Prop :=
  (a = none ∧ len = 0 ∧ cap = 0 ∧ zs = []) ∨
  ∃ x, a = some x ∧ len ≤ cap ∧ cap ≤ maxLen ∧ zs.length = cap ∧ (∀ i, i < zs.length → w.cell? (x.add i) = some (.int k (zs.getD i 0))) ∧ ∀ n ∈ zs, (Lit.int k n).wf = true


set_option maxRecDepth 100000 in
set_option maxHeartbeats 4000000 in
theorem walk (y0 : SendM) (A0_2 : Option Addr) (c0_2 : Nat) (A0_3 : Option Addr) (c0_3 : Nat) (y1 : SendM) (A1_2 : Option Addr) (c1_2 : Nat) (A1_3 : Option Addr) (c1_3 : Nat) (w : World) (w0 : RdA w y0.vs [.int .i64 y0.Next, .int .i64 y0.Acked, .slice A0_2 y0.Seqs.length c0_2, .slice A0_3 y0.Items.length c0_3] ∧ WfA y0.vs) (w1 : RdA w y1.vs [.int .i64 y1.Next, .int .i64 y1.Acked, .slice A1_2 y1.Seqs.length c1_2, .slice A1_3 y1.Items.length c1_3] ∧ WfA y1.vs) :
    Calls Try.prog 12 #[.agg #[.int .i64 y0.Next, .int .i64 y0.Acked, .slice A0_2 y0.Seqs.length c0_2, .slice A0_3 y0.Items.length c0_3], .agg #[.int .i64 y1.Next, .int .i64 y1.Acked, .slice A1_2 y1.Seqs.length c1_2, .slice A1_3 y1.Items.length c1_3]] w fun e w' => e = .returned (.bool true) ∧ Below w.heap.size w w' := by
  obtain ⟨hr0, hwf0⟩ := w0
  obtain ⟨hr1, hwf1⟩ := w1
  have K : Below w.heap.size w w := Below.refl _ _
  have KB0 := Blk.new w 73 #[.int .i64 y0.Next, .int .i64 y0.Acked, .slice A0_2 y0.Seqs.length c0_2, .slice A0_3 y0.Items.length c0_3]
  replace K := bal K (.cells #[.int .i64 y0.Next, .int .i64 y0.Acked, .slice A0_2 y0.Seqs.length c0_2, .slice A0_3 y0.Items.length c0_3] 73)
  have KB1 := Blk.new (w.alloc (.cells #[.int .i64 y0.Next, .int .i64 y0.Acked, .slice A0_2 y0.Seqs.length c0_2, .slice A0_3 y0.Items.length c0_3] 73)) 73 #[.int .i64 y1.Next, .int .i64 y1.Acked, .slice A1_2 y1.Seqs.length c1_2, .slice A1_3 y1.Items.length c1_3]
  replace KB0 := KB0.alloc (.cells #[.int .i64 y1.Next, .int .i64 y1.Acked, .slice A1_2 y1.Seqs.length c1_2, .slice A1_3 y1.Items.length c1_3] 73)
  replace K := bal K (.cells #[.int .i64 y1.Next, .int .i64 y1.Acked, .slice A1_2 y1.Seqs.length c1_2, .slice A1_3 y1.Items.length c1_3] 73)
  obtain ⟨w10, hw1⟩ : ∃ w10, ((w.alloc (.cells #[.int .i64 y0.Next, .int .i64 y0.Acked, .slice A0_2 y0.Seqs.length c0_2, .slice A0_3 y0.Items.length c0_3] 73)).alloc (.cells #[.int .i64 y1.Next, .int .i64 y1.Acked, .slice A1_2 y1.Seqs.length c1_2, .slice A1_3 y1.Items.length c1_3] 73)) = w10 := ⟨_, rfl⟩
  rw [hw1] at K KB0 KB1
  have HW1 := hidH hw1
  clear hw1
  have hKB0 := KB0.lt
  simp only [World.size_alloc] at KB1
  have hKB1 := KB1.lt
  have KK := hidH K
  clear KK
  have HRD0 := hidH (fun (u : World) (h : Below w.heap.size w u) => RdA.below h hr0)
  have HWF0 := hidH hwf0
  have HRD1 := hidH (fun (u : World) (h : Below w.heap.size w u) => RdA.below h hr1)
  have HWF1 := hidH hwf1
  clear hr0 hwf0 hr1 hwf1
  go_enter Try.func12, Try.ntmps12
  go_wp2_with fail
  rw [HW1.out]
  refine (szA_Send y0 (left := 1048576) (HRD0.out _ K) (by omega) (by omega)).mono ?_
  rintro e w11 ⟨z0, rfl, hz0, hb⟩
  have sz := hb.size
  try simp only [World.size_alloc] at sz
  replace KB0 := KB0.below hb
  replace KB1 := KB1.below hb
  replace K := btr K hb
  clear hb
  have HZ0 := hidH hz0
  clear hz0
  by_cases h0 : z0 < 0
  · go_wp2
    go_ret
    exact ⟨rfl, K⟩
  · have ht0 : tot.totL y0.vs ≤ 1048576 := by have := HZ0.out.2.2 (by omega); omega
    have hzp0 : 0 ≤ z0 := by omega
    have hzl0 : z0 ≤ 1048576 := by have := HZ0.out.2.1; omega
    clear h0
    have p0 := KB1.cell 0
    have p1 := KB1.cell 1
    have p2 := KB1.cell 2
    have p3 := KB1.cell 3
    simp only [List.getElem?_toArray, List.getElem?_cons_succ, List.getElem?_cons_zero] at p0 p1 p2 p3
    have gp := KB1.lt
    go_wp2_with fail
    clear p0 p1 p2 p3 gp
    refine (szA_Send y1 (left := z0) (HRD1.out _ K) (by omega) (by omega)).mono ?_
    rintro e w12 ⟨z1, rfl, hz1, hb⟩
    have sz := hb.size
    try simp only [World.size_alloc] at sz
    replace KB0 := KB0.below hb
    replace KB1 := KB1.below hb
    replace K := btr K hb
    clear hb
    have HZ1 := hidH hz1
    clear hz1
    by_cases h0 : z1 < 0
    · go_wp2
      go_ret
      exact ⟨rfl, K⟩
    · have ht1 : tot.totL y1.vs ≤ 1048576 := by have := HZ1.out.2.2 (by omega); omega
      have hzp1 : 0 ≤ z1 := by omega
      have hzl1 : z1 ≤ 1048576 := by have := HZ1.out.2.1; omega
      clear h0
      have TO0 := hidH (fun (u : World) (h : Below w.heap.size w u) => toA_Send y0 (HRD0.out u h) ht0)
      have TO1 := hidH (fun (u : World) (h : Below w.heap.size w u) => toA_Send y1 (HRD1.out u h) ht1)
      have SP := hidH (fun (u : World) (v0 : List Value) (v1 : List Value) (h0 : RdA u y0.vs v0) (h1 : RdA u y1.vs v1) => ss_spec y0 v0 y1 v1 u h0 HWF0.out ht0 h1 HWF1.out ht1)
      have IM := hidH (fun (u : World) (v0 : List Value) (v1 : List Value) (h0 : RdA u y0.vs v0) (h1 : RdA u y1.vs v1) => ss_impl y0 v0 y1 v1 u h0 HWF0.out ht0 h1 HWF1.out ht1)
      obtain ⟨z, hz⟩ : ∃ z, sameG y0 y1 = z := ⟨_, rfl⟩
      rw [hz] at SP IM
      clear hz ht0 ht1
      clear HZ0 HZ1
      go_wp2_with fail
      refine wp_region_any (by kernel_rfl) ?_
      refine reg2FnExactSameSends _ _ _ _ _ _ _ _ _ _ _ _ _ _ _ _ _ w12 _ _ y0 y1 _ _ _ _ _ _ _ _ _ (fun u h => TO0.out u (btr K h)) (fun u h => TO1.out u (btr K h)) (fun u vs us h0 h1 => SP.out u vs us h0 h1) (by kernel_rfl) (by kernel_rfl) (by kernel_rfl) rfl (KB0.below (Below.refl _ _).drew) (KB1.below (Below.refl _ _).drew) ((Below.refl _ _).drew) ?_
      intros
      rename_i w13 hb
      have sz := hb.size
      try simp only [World.size_alloc] at sz
      replace KB0 := KB0.below hb
      replace KB1 := KB1.below hb
      replace K := btr K hb
      clear hb
      have p0 := KB0.cell 0
      have p1 := KB0.cell 1
      have p2 := KB0.cell 2
      have p3 := KB0.cell 3
      simp only [List.getElem?_toArray, List.getElem?_cons_succ, List.getElem?_cons_zero] at p0 p1 p2 p3
      have gp := KB0.lt
      go_wp2_with fail
      clear p0 p1 p2 p3 gp
      refine (TO0.out _ K).mono ?_
      rintro e w14 ⟨vs, rfl, Qx0, hb⟩
      obtain ⟨Ex0_2, ex0_2, Ex0_3, ex0_3, rfl⟩ := shape_Send Qx0.rd
      try simp only [World.size_alloc] at Qx0
      have sz := hb.size
      try simp only [World.size_alloc] at sz
      replace KB0 := KB0.below hb
      replace KB1 := KB1.below hb
      replace K := btr K hb
      clear hb
      have XX0 := Blk.new w14 47 #[.int .i64 y0.Next, .int .i64 y0.Acked, .slice Ex0_2 y0.Seqs.length ex0_2, .slice Ex0_3 y0.Items.length ex0_3]
      replace KB0 := KB0.alloc (.cells #[.int .i64 y0.Next, .int .i64 y0.Acked, .slice Ex0_2 y0.Seqs.length ex0_2, .slice Ex0_3 y0.Items.length ex0_3] 47)
      replace KB1 := KB1.alloc (.cells #[.int .i64 y0.Next, .int .i64 y0.Acked, .slice Ex0_2 y0.Seqs.length ex0_2, .slice Ex0_3 y0.Items.length ex0_3] 47)
      replace Qx0 := Qx0.below (bal (Below.refl _ _) (.cells #[.int .i64 y0.Next, .int .i64 y0.Acked, .slice Ex0_2 y0.Seqs.length ex0_2, .slice Ex0_3 y0.Items.length ex0_3] 47))
      replace K := bal K (.cells #[.int .i64 y0.Next, .int .i64 y0.Acked, .slice Ex0_2 y0.Seqs.length ex0_2, .slice Ex0_3 y0.Items.length ex0_3] 47)
      have p0 := KB1.cell 0
      have p1 := KB1.cell 1
      have p2 := KB1.cell 2
      have p3 := KB1.cell 3
      simp only [List.getElem?_toArray, List.getElem?_cons_succ, List.getElem?_cons_zero] at p0 p1 p2 p3
      have gp := KB1.lt
      go_wp2_with fail
      clear p0 p1 p2 p3 gp
      refine (TO1.out _ K).mono ?_
      rintro e w15 ⟨vs, rfl, Qx1, hb⟩
      obtain ⟨Ex1_2, ex1_2, Ex1_3, ex1_3, rfl⟩ := shape_Send Qx1.rd
      try simp only [World.size_alloc] at Qx1
      have sz := hb.size
      try simp only [World.size_alloc] at sz
      replace KB0 := KB0.below hb
      replace KB1 := KB1.below hb
      replace Qx0 := Qx0.below hb
      replace XX0 := XX0.below hb
      replace K := btr K hb
      clear hb
      have XX1 := Blk.new w15 47 #[.int .i64 y1.Next, .int .i64 y1.Acked, .slice Ex1_2 y1.Seqs.length ex1_2, .slice Ex1_3 y1.Items.length ex1_3]
      replace KB0 := KB0.alloc (.cells #[.int .i64 y1.Next, .int .i64 y1.Acked, .slice Ex1_2 y1.Seqs.length ex1_2, .slice Ex1_3 y1.Items.length ex1_3] 47)
      replace KB1 := KB1.alloc (.cells #[.int .i64 y1.Next, .int .i64 y1.Acked, .slice Ex1_2 y1.Seqs.length ex1_2, .slice Ex1_3 y1.Items.length ex1_3] 47)
      replace Qx0 := Qx0.below (bal (Below.refl _ _) (.cells #[.int .i64 y1.Next, .int .i64 y1.Acked, .slice Ex1_2 y1.Seqs.length ex1_2, .slice Ex1_3 y1.Items.length ex1_3] 47))
      replace XX0 := XX0.alloc (.cells #[.int .i64 y1.Next, .int .i64 y1.Acked, .slice Ex1_2 y1.Seqs.length ex1_2, .slice Ex1_3 y1.Items.length ex1_3] 47)
      replace Qx1 := Qx1.below (bal (Below.refl _ _) (.cells #[.int .i64 y1.Next, .int .i64 y1.Acked, .slice Ex1_2 y1.Seqs.length ex1_2, .slice Ex1_3 y1.Items.length ex1_3] 47))
      replace K := bal K (.cells #[.int .i64 y1.Next, .int .i64 y1.Acked, .slice Ex1_2 y1.Seqs.length ex1_2, .slice Ex1_3 y1.Items.length ex1_3] 47)
      have b00 := XX0.cell 0
      have b01 := XX0.cell 1
      have b02 := XX0.cell 2
      have b03 := XX0.cell 3
      simp only [List.getElem?_toArray, List.getElem?_cons_succ, List.getElem?_cons_zero] at b00 b01 b02 b03
      have gb0 := XX0.lt
      have b10 := XX1.cell 0
      have b11 := XX1.cell 1
      have b12 := XX1.cell 2
      have b13 := XX1.cell 3
      simp only [List.getElem?_toArray, List.getElem?_cons_succ, List.getElem?_cons_zero] at b10 b11 b12 b13
      have gb1 := XX1.lt
      go_wp2_with fail
      clear b00 b01 b02 b03 gb0
      clear b10 b11 b12 b13 gb1
      refine (IM.out _ _ _ Qx0.rd Qx1.rd).mono ?_
      rintro e w16 ⟨rfl, hb⟩
      have sz := hb.size
      try simp only [World.size_alloc] at sz
      replace KB0 := KB0.below hb
      replace KB1 := KB1.below hb
      replace Qx0 := Qx0.below hb
      replace XX0 := XX0.below hb
      replace Qx1 := Qx1.below hb
      replace XX1 := XX1.below hb
      replace K := btr K hb
      clear hb
      go_wp2_with fail
      refine wp_region_any (by kernel_rfl) ?_
      refine regFnExactSameSends_0 _ _ _ _ _ _ _ _ _ _ _ _ _ _ _ _ _ _ _ _ _ _ _ _ _ _ _ _ _ _ _ _ _ w16 _ _ y0 _ _ _ _ _ _ _ _ (fun u h => TO0.out u (btr K h)) (fun u vs h k => eqA_Send y0 (RdA.below h Qx0.rd) k) (by kernel_rfl) (by kernel_rfl) (by kernel_rfl) rfl (KB0.below (Below.refl _ _).drew) (XX0.below (Below.refl _ _).drew) ((Below.refl _ _).drew) (Below.refl _ _) ?_
      intros
      rename_i w17 m1 m2 m3 hb
      clear m1 m2 m3
      replace hb := (Below.refl _ _).drew.trans hb
      have sz := hb.size
      try simp only [World.size_alloc] at sz
      replace KB0 := KB0.below hb
      replace KB1 := KB1.below hb
      replace Qx0 := Qx0.below hb
      replace XX0 := XX0.below hb
      replace Qx1 := Qx1.below hb
      replace XX1 := XX1.below hb
      replace K := btr K hb
      clear hb
      go_wp2_with fail
      refine wp_region_any (by kernel_rfl) ?_
      refine regFnExactSameSends_1 _ _ _ _ _ _ _ _ _ _ _ _ _ _ _ _ _ _ _ _ _ _ _ _ _ _ _ _ _ _ _ _ _ _ _ _ _ _ w17 _ _ y1 _ _ _ _ _ _ _ _ (fun u h => TO1.out u (btr K h)) (fun u vs h k => eqA_Send y1 (RdA.below h Qx1.rd) k) (by kernel_rfl) (by kernel_rfl) (by kernel_rfl) rfl (KB1.below (Below.refl _ _).drew) (XX1.below (Below.refl _ _).drew) ((Below.refl _ _).drew) (Below.refl _ _) ?_
      intros
      rename_i w18 m1 m2 m3 hb
      clear m1 m2 m3
      replace hb := (Below.refl _ _).drew.trans hb
      have sz := hb.size
      try simp only [World.size_alloc] at sz
      replace KB0 := KB0.below hb
      replace KB1 := KB1.below hb
      replace Qx0 := Qx0.below hb
      replace XX0 := XX0.below hb
      replace Qx1 := Qx1.below hb
      replace XX1 := XX1.below hb
      replace K := btr K hb
      clear hb
      go_wp2
      go_ret
      exact ⟨rfl, K⟩

/-- An input that the row's conditions hold of: the witness laid as theorems of their own (inside the refine Lean does not come to an end). -/
def wit : Input := ⟨#[], #[.agg #[.int .i64 0, .int .i64 0, .slice none 0 0, .slice none 0 0], .agg #[.int .i64 0, .int .i64 0, .slice none 0 0, .slice none 0 0]], []⟩
theorem wit1 (os : Os) : (World.plainHolding Try.checked.prog os wit).variablesB Try.checked.prog = true := by kernel_rfl
theorem wit2 (os : Os) : ((World.plainHolding Try.checked.prog os wit).heap.toList.drop Try.checked.prog.globals.size).take ((begin Try.checked.prog (fun _ _ => 0) default).world.heap.size - Try.checked.prog.globals.size) =
    (begin Try.checked.prog (fun _ _ => 0) default).world.heap.toList.drop Try.checked.prog.globals.size := by kernel_rfl
theorem wit3 (os : Os) : Input.okWideB Try.checked.prog (World.plainHolding Try.checked.prog os wit) 12 ⟨#[], wit.args, []⟩ = true := by kernel_rfl
theorem wit4 (os : Os) (H : Type) (enc : TypeId × Value → H) : Rows.fnExactSameSendsSpec.preB enc Try.checked.prog Try.f12 Rows.fnExactSameSendsRow.domain false (World.plainHolding Try.checked.prog os wit).memory wit.args 8 = true := by kernel_rfl
theorem wit5 (os : Os) (H : Type) (enc : TypeId × Value → H) : Rows.fnExactSameSendsSpec.sizedB enc Try.checked.prog Try.f12 false (World.plainHolding Try.checked.prog os wit).memory wit.args 8 = true := by kernel_rfl

/-! ### THE ROW's STEP: WRITTEN OUT: LEAVE IT -/
set_option maxRecDepth 100000 in
theorem lifted (os : Os) (started : os.Started) (H : Type) (enc : TypeId × Value → H) :
    ReturnsInHanded {} Try.checked os 12 .any (Rows.fnExactSameSendsSpec.pre6 enc Try.prog Try.f12 Rows.fnExactSameSendsRow.domain false) (Rows.fnExactSameSendsSpec.post enc Try.prog Try.f12 false true false false) := by
  have hw := ChangeSpec.witness6 (enc := enc) (C := Try.checked) (fn := Try.f12) (s := Rows.fnExactSameSendsSpec) (conds := Rows.fnExactSameSendsRow.domain) (apart := false) false wit 8 (wit1 os) (wit2 os) (wit3 os) (wit4 os H enc) (wit5 os H enc)
  refine returnsInHanded_of_change (C := Try.checked) own started (by kernel_rfl) Try.func12 hw ?_
  intro W base args ds gs before hval0 hW hcnd _
  have hval : ∀ (j : Nat) t v, Try.f12.params[j]? = some t → args[j]? = some v → Value.okWide Try.prog W .any base t v := hval0
  have hW' := hW
  obtain ⟨p, q, hA0, hV, rfl, hfz, hnd⟩ := hW
  have hA : DataW.TrodAll enc Try.prog W 0 (fun _ => true) true Try.f12.params.toList args.toList ds p := hA0
  rw [Try.params12] at hA hval
  obtain ⟨v0, vs0, d0, ds0, p0, q0, hargs, rfl, rfl, h0, r0⟩ := trodAll_cons hA
  obtain ⟨v1, vs1, d1, ds1, p1, q1, rfl, rfl, rfl, h1, r1⟩ := trodAll_cons r0
  obtain ⟨rfl, rfl, rfl⟩ := trodAll_nil r1
  obtain rfl : args = #[v0, v1] := by cases args; simp_all
  obtain ⟨rfl, rfl⟩ := trodVars_none hV
  obtain ⟨cells0, rfl, hsz0⟩ := okWide_struct Try.underlying73 (hval 0 73 v0 rfl rfl)
  have k0 := h0
  have lt0 : ∀ x ∈ p0, x.block < W.heap.size := by obtain ⟨m, hm⟩ := k0; exact DataW.trod_lt m _ _ _ hm
  obtain ⟨y0, A0_2, c0_2, A0_3, c0_3, rfl, wr0, wf0⟩ := opened_Send h0
  have w0 := And.intro wr0 wf0
  obtain ⟨cells1, rfl, hsz1⟩ := okWide_struct Try.underlying73 (hval 1 73 v1 rfl rfl)
  have k1 := h1
  have lt1 : ∀ x ∈ p1, x.block < W.heap.size := by obtain ⟨m, hm⟩ := k1; exact DataW.trod_lt m _ _ _ hm
  obtain ⟨y1, A1_2, c1_2, A1_3, c1_3, rfl, wr1, wf1⟩ := opened_Send h1
  have w1 := And.intro wr1 wf1
  clear hA0 hval0
  refine (walk y0 A0_2 c0_2 A0_3 c0_3 y1 A1_2 c1_2 A1_3 c1_3 W w0 w1).mono fun e W' ⟨he, bel⟩ => ?_
  subst he
  exact ⟨_, rfl, _, _, _, [], _, [], hW', trodAll_mk1 (shut_bool Try.underlying4 _), (trodAll_cons_mk (Below.trod laidOut (by kernel_rfl) (of_decide_eq_true (by kernel_rfl)) k0 bel lt0) (trodAll_cons_mk (Below.trod laidOut (by kernel_rfl) (of_decide_eq_true (by kernel_rfl)) k1 bel lt1) trodAll_mk0)), rfl, bel.frame _, fun h => by cases h⟩

theorem over : Rows.fnExactSameSendsRow.holds Try.pinned (OpenSpec.ofChange Rows.fnExactSameSendsSpec) :=
  OpenClaim.holds_of_wide 12 Try.f12 rfl rfl rfl rfl rfl rfl rfl ⟨rfl, rfl, rfl, rfl, rfl⟩ rfl rfl rfl rfl rfl (by kernel_rfl) Try.func12 (by kernel_rfl)
    (of_decide_eq_true (by kernel_rfl)) (by unfold Func.isWrapper; first | (rw [if_pos (by decide +kernel)]; kernel_rfl) | (rw [if_neg (by decide +kernel)]; exact ⟨rfl, rfl⟩))
    (fun os started H enc _ => lifted os started H enc)

/-- ████ THE STATEMENT ████ -/
theorem proved : Rows.FnExactSameSendsSaid := over
#print axioms proved
end Go.Proofs.Ythljdikcpdokdaa.fnExactSameSends
