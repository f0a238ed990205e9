/- At any two packets the program's SamePackets answers as its model does, it leaves its arguments as they were, and the law FnExactSamePackets answers true. -/
import Derived.Test.YtepcikghhnfacaaRows
import Derived.Test.YtepcikghhnfacaaPkO
import Derived.Test.YtepcikghhnfacaaSpI
import Derived.Test.YtepcikghhnfacaaPkT
import Derived.Test.YtepcikghhnfacaaPkR
import Derived.WalkSpells
import Derived.WalkLawsBesides
import Derived.WalkKit
import Derived.ProofKit
import Derived.OpenShut
import Derived.ShutString
import Derived.ChangeOld
import Derived.Below
namespace Go.Proofs.Ytepcikghhnfacaa.fnExactSamePackets
open Go.ChangeShapes Go.WideShapes Go.ChangeAt Go.RowKit
open Go.ChangeMaps (open_string shut_string)
set_option linter.unusedVariables false

theorem own : ownKnob Try.prog.godebug = none := by kernel_rfl
theorem laidOut : laidOutB Try.prog = true := by kernel_rfl

/-- WHAT THE WALK IS TOLD OF A SLICE OF INTEGERS THAT CAME IN: it is nil; or it leads to a row of 'cap' cells, the numbers 'zs' (the first 'len' are its elements, the rest its spare room), each fitting its kind. -/
def IsRow (k : IntKind) (w : World) (a : Option Addr) (len cap : Nat) (zs : List Int) : Prop :=
  (a = none ∧ len = 0 ∧ cap = 0 ∧ zs = []) ∨
  ∃ x, a = some x ∧ len ≤ cap ∧ cap ≤ maxLen ∧ zs.length = cap ∧ (∀ i, i < zs.length → w.cell? (x.add i) = some (.int k (zs.getD i 0))) ∧ ∀ n ∈ zs, (Lit.int k n).wf = true


set_option maxRecDepth 100000 in
set_option maxHeartbeats 4000000 in
theorem walk (t0 : Int) (P0 : Option Addr) (len0 cap0 : Nat) (cs0 : List Chk) (t1 : Int) (P1 : Option Addr) (len1 cap1 : Nat) (cs1 : List Chk) (w : World) (w0 : InCs w P0 len0 cap0 cs0) (w1 : InCs w P1 len1 cap1 cs1) :
    Calls Try.prog 9 #[.agg #[.int .i64 t0, .slice P0 len0 cap0], .agg #[.int .i64 t1, .slice P1 len1 cap1]] w fun e w' => e = .returned (.bool true) ∧ Below w.heap.size w w' := by
  obtain ⟨rfl, hby0, hbo0, hP0, hle0, hcap0⟩ := w0
  obtain ⟨rfl, hby1, hbo1, hP1, hle1, hcap1⟩ := w1
  have hn0 : (cs0.length : Int) ≤ 9223372036854775807 := by omega
  have hn1 : (cs1.length : Int) ≤ 9223372036854775807 := by omega
  have K0 := (Blk.new w 46 #[.int .i64 t0, .slice P0 cs0.length cap0]).alloc (.cells #[.int .i64 t1, .slice P1 cs1.length cap1] 46)
  have K1 := Blk.new (w.alloc (.cells #[.int .i64 t0, .slice P0 cs0.length cap0] 46)) 46 #[.int .i64 t1, .slice P1 cs1.length cap1]
  simp only [World.size_alloc] at K1
  have B1 := bal (bal (Below.refl w.heap.size w) (.cells #[.int .i64 t0, .slice P0 cs0.length cap0] 46)) (.cells #[.int .i64 t1, .slice P1 cs1.length cap1] 46)
  have A0 := hP0.below (bal (bal (Below.refl _ w) (.cells #[.int .i64 t0, .slice P0 cs0.length cap0] 46)) (.cells #[.int .i64 t1, .slice P1 cs1.length cap1] 46))
  have A1 := hP1.below (bal (bal (Below.refl _ w) (.cells #[.int .i64 t0, .slice P0 cs0.length cap0] 46)) (.cells #[.int .i64 t1, .slice P1 cs1.length cap1] 46))
  obtain ⟨w1, hw1⟩ : ∃ w1, (w.alloc (.cells #[.int .i64 t0, .slice P0 cs0.length cap0] 46)).alloc (.cells #[.int .i64 t1, .slice P1 cs1.length cap1] 46) = w1 := ⟨_, rfl⟩
  rw [hw1] at K0 K1 B1 A0 A1
  have HW1 := hidH hw1
  have SZ0 := hidH (fun (u : World) (h : Cs u P0 cs0) => szPk_any t0 P0 cs0 cap0 1048576 u h hn0 hbo0 (by omega) (by omega))
  have SZ1 := hidH (fun (u : World) (z : Int) (h : Cs u P1 cs1) (h0 : 0 ≤ z) (h1 : z ≤ 1048576) => szPk_any t1 P1 cs1 cap1 z u h hn1 hbo1 h0 h1)
  have SP := hidH (fun (u : World) (A B : Option Addr) (h : Cs u A cs0) (h2 : Cs u B cs1) => samePk_spec t0 t1 A B cs0 cs1 cs0.length cs1.length u h h2 hby0 hby1 hn0 hn1)
  have SI := hidH (fun (u : World) (A B : Option Addr) (h : Cs u A cs0) (h2 : Cs u B cs1) => samePk_impl t0 t1 A B cs0 cs1 cs0.length cs1.length u h h2 hby0 hby1 hn0 hn1)
  have E0 := hidH (fun (u : World) (A B : Option Addr) (hA : Cs u A cs0) (hB : Cs u B cs0) => eqPk_same t0 A B cs0 cs0.length cs0.length u hA hB hn0 hbo0)
  have E1 := hidH (fun (u : World) (A B : Option Addr) (hA : Cs u A cs1) (hB : Cs u B cs1) => eqPk_same t1 A B cs1 cs1.length cs1.length u hA hB hn1 hbo1)
  unfold pkV at SZ0 SZ1 SP SI E0 E1
  clear hw1 hP0 hby0 hbo0 hle0 hcap0 hP1 hby1 hbo1 hle1 hcap1
  go_enter Try.func9, Try.ntmps9
  go_wp2_with fail
  rw [HW1.out]
  refine (SZ0.out _ A0).mono ?_
  rintro e w2 ⟨z, rfl, hz, b2⟩
  have K20 := K0.below b2
  have K21 := K1.below b2
  have A20 := A0.below b2
  have A21 := A1.below b2
  have B2 := btr B1 b2
  have HZ := hidH hz
  clear K0 K1 A0 A1 B1 b2 SZ0 HW1 hz
  by_cases h0 : z < 0
  · clear K20 K21 A20 A21
    go_wp2
    go_ret
    exact ⟨rfl, B2⟩
  · have h1 : 0 ≤ z := by omega
    have hm0 := HZ.out.2.2 h1
    have hz1 : z ≤ 1048576 := HZ.out.2.1
    have c0 := K21.cell 0
    have c1 := K21.cell 1
    simp only [List.getElem?_toArray, List.getElem?_cons_succ, List.getElem?_cons_zero] at c0 c1
    have hlt := K21.lt
    have S1 := hidH (SZ1.out w2 z A21 h1 hz1)
    have TA := hidH (fun (u : World) (h : Cs u P0 cs0) => toPk_any t0 P0 cs0 cap0 u h (by omega) (fun x hx => by have := totB_le cs0 x hx; omega))
    unfold pkV at TA
    clear HZ h0 SZ1
    go_wp2_with fail
    refine S1.out.mono ?_
    rintro e w3 ⟨y, rfl, hy, b3⟩
    have K30 := K20.below b3
    have K31 := K21.below b3
    have A30 := A20.below b3
    have A31 := A21.below b3
    have B3 := btr B2 b3
    have HY := hidH hy
    clear K20 K21 A20 A21 B2 b3 S1 hy c0 c1 hlt
    by_cases h0 : y < 0
    · clear K30 K31 A30 A31 TA
      go_wp2
      go_ret
      exact ⟨rfl, B3⟩
    · have h2 : 0 ≤ y := by omega
      have hm1 := HY.out.2.2 h2
      have TB := hidH (fun (u : World) (h : Cs u P1 cs1) => toPk_any t1 P1 cs1 cap1 u h (by omega) (fun x hx => by have := totB_le cs1 x hx; omega))
      unfold pkV at TB
      clear HY hm0 hm1 hz1 h1 h2 hn0 hn1
      go_wp2_with fail
      refine wp_region_any (by kernel_rfl) ?_
      refine regS0 _ _ _ _ _ _ _ _ _ _ _ _ _ _ _ _ _ _ w w.heap.size (w.heap.size + 1) t0 t1 P0 P1 cs0 cs1 cap0 cap1 TA.out TB.out SP.out (by kernel_rfl) (by kernel_rfl) (by kernel_rfl) rfl (K30.below (Below.refl _ _).drew) (K31.below (Below.refl _ _).drew) (A30.below (Below.refl _ _).drew) (A31.below (Below.refl _ _).drew) (btr B3 (Below.refl _ _).drew) ?_
      intro s20 s21 s22 s23 s24 s6 w4 K40 K41 A40 A41 B4 hr
      obtain ⟨r, rfl, hr⟩ := hr
      have HR := hidH hr
      clear K30 K31 A30 A31 B3 hr SP
      have c0 := K40.cell 0
      have c1 := K40.cell 1
      simp only [List.getElem?_toArray, List.getElem?_cons_succ, List.getElem?_cons_zero] at c0 c1
      have hlt := K40.lt
      go_wp2_with fail
      refine (TA.out w4 A40).mono ?_
      rintro e w5 ⟨X0, rfl, O0, b5⟩
      have o := bal (Below.refl w5.heap.size w5) (.cells #[.int .i64 t0, .slice X0 cs0.length cs0.length] 51)
      have X5 := Blk.new w5 51 #[.int .i64 t0, .slice X0 cs0.length cs0.length]
      have S5 := O0.cs.below o
      have B5 := btr (btr B4 b5) o
      have K50 := (K40.below b5).below o
      have c0' := (K41.below b5).cell 0
      have c1' := (K41.below b5).cell 1
      have hlt' := (K41.below b5).lt
      have K51 := (K41.below b5).below o
      have A50 := (A40.below b5).below o
      have A51 := (A41.below b5).below o
      obtain ⟨w6, hw6⟩ : ∃ w6, w5.alloc (.cells #[.int .i64 t0, .slice X0 cs0.length cs0.length] 51) = w6 := ⟨_, rfl⟩
      rw [hw6] at X5 S5 B5 K50 K51 A50 A51
      have HW6 := hidH hw6
      clear O0 b5 o A40 A41 B4 K40 K41 c0 c1 hlt hw6
      simp only [List.getElem?_toArray, List.getElem?_cons_succ, List.getElem?_cons_zero] at c0' c1'
      go_wp2_with fail
      rw [HW6.out]
      refine (TB.out w6 A51).mono ?_
      rintro e w7 ⟨X1, rfl, O1, b7⟩
      have o := bal (Below.refl w7.heap.size w7) (.cells #[.int .i64 t1, .slice X1 cs1.length cs1.length] 51)
      have Y7 := Blk.new w7 51 #[.int .i64 t1, .slice X1 cs1.length cs1.length]
      have S7 := O1.cs.below o
      have B7 := btr (btr B5 b7) o
      have x0 := (X5.below b7).cell 0
      have x1 := (X5.below b7).cell 1
      have xlt := (X5.below b7).lt
      have X7 := (X5.below b7).below o
      have T7 := (S5.below b7).below o
      have K70 := (K50.below b7).below o
      have K71 := (K51.below b7).below o
      have A70 := (A50.below b7).below o
      have A71 := (A51.below b7).below o
      obtain ⟨w8, hw8⟩ : ∃ w8, w7.alloc (.cells #[.int .i64 t1, .slice X1 cs1.length cs1.length] 51) = w8 := ⟨_, rfl⟩
      rw [hw8] at Y7 S7 B7 X7 T7 K70 K71 A70 A71
      have HW8 := hidH hw8
      clear O1 b7 o HW6 X5 S5 B5 K50 K51 A50 A51 c0' c1' hlt' hw8
      simp only [List.getElem?_toArray, List.getElem?_cons_succ, List.getElem?_cons_zero] at x0 x1
      go_wp2_with fail
      rw [HW8.out]
      refine (SI.out w8 X0 X1 T7 S7).mono ?_
      rintro e w9 ⟨r', rfl, hr', b9⟩
      obtain rfl : r' = r := Bool.eq_iff_iff.2 (hr'.trans HR.out.symm)
      have MA : EP w w.heap.size w5.heap.size t0 P0 cs0 cap0 X0 w9 := ⟨K70.below b9, X7.below b9, A70.below b9, T7.below b9, btr B7 b9⟩
      have MB : EP w (w.heap.size + 1) w7.heap.size t1 P1 cs1 cap1 X1 w9 := ⟨K71.below b9, Y7.below b9, A71.below b9, S7.below b9, btr B7 b9⟩
      clear hr' b9 SI HW8 X7 Y7 S7 B7 T7 K70 K71 A70 A71 x0 x1 xlt HR
      have hne : (r' != r') = false := by cases r' <;> rfl
      go_wp2_with fail
      refine wp_region_any (by kernel_rfl) ?_
      refine regEqS1 _ _ _ _ _ _ _ _ _ _ _ _ _ _ _ _ _ _ _ _ _ _ _ _ _ _ _ _ _ _ _ _ _ w w.heap.size w5.heap.size t0 P0 cs0 cap0 X0 TA.out E0.out (w.heap.size + 1) w7.heap.size t1 P1 cs1 cap1 X1 (by kernel_rfl) (by kernel_rfl) (by kernel_rfl) rfl (MA.below (Below.refl _ _).drew) (MB.below (Below.refl _ _).drew) (Below.refl _ _) ?_
      intro _ _ _ _ w10 MA MB _
      clear TA E0
      go_wp2_with fail
      refine wp_region_any (by kernel_rfl) ?_
      refine regEqS2 _ _ _ _ _ _ _ _ _ _ _ _ _ _ _ _ _ _ _ _ _ _ _ _ _ _ _ _ _ _ _ _ _ _ _ _ _ _ w (w.heap.size + 1) w7.heap.size t1 P1 cs1 cap1 X1 TB.out E1.out w.heap.size w5.heap.size t0 P0 cs0 cap0 X0 (by kernel_rfl) (by kernel_rfl) (by kernel_rfl) rfl (MB.below (Below.refl _ _).drew) (MA.below (Below.refl _ _).drew) (Below.refl _ _) ?_
      intro _ _ _ _ w11 MB MA _
      clear TB E1
      go_wp2
      go_ret
      exact ⟨rfl, MA.old⟩

/-- An input that the row's conditions hold of: the witness laid as theorems of their own (inside the refine Lean does not come to an end). -/
def wit : Input := ⟨#[], #[.agg #[.int .i64 0, .slice none 0 0], .agg #[.int .i64 0, .slice none 0 0]], []⟩
theorem wit1 (os : Os) : (World.plainHolding Try.checked.prog os wit).variablesB Try.checked.prog = true := by kernel_rfl
theorem wit2 (os : Os) : ((World.plainHolding Try.checked.prog os wit).heap.toList.drop Try.checked.prog.globals.size).take ((begin Try.checked.prog (fun _ _ => 0) default).world.heap.size - Try.checked.prog.globals.size) =
    (begin Try.checked.prog (fun _ _ => 0) default).world.heap.toList.drop Try.checked.prog.globals.size := by kernel_rfl
theorem wit3 (os : Os) : Input.okWideB Try.checked.prog (World.plainHolding Try.checked.prog os wit) 9 ⟨#[], wit.args, []⟩ = true := by kernel_rfl
theorem wit4 (os : Os) (H : Type) (enc : TypeId × Value → H) : Rows.fnExactSamePacketsSpec.preB enc Try.checked.prog Try.f9 Rows.fnExactSamePacketsRow.domain false (World.plainHolding Try.checked.prog os wit).memory wit.args 8 = true := by kernel_rfl
theorem wit5 (os : Os) (H : Type) (enc : TypeId × Value → H) : Rows.fnExactSamePacketsSpec.sizedB enc Try.checked.prog Try.f9 false (World.plainHolding Try.checked.prog os wit).memory wit.args 8 = true := by kernel_rfl

/-! ### THE ROW's STEP: WRITTEN OUT: LEAVE IT -/
set_option maxRecDepth 100000 in
theorem lifted (os : Os) (started : os.Started) (H : Type) (enc : TypeId × Value → H) :
    ReturnsInHanded {} Try.checked os 9 .any (Rows.fnExactSamePacketsSpec.pre6 enc Try.prog Try.f9 Rows.fnExactSamePacketsRow.domain false) (Rows.fnExactSamePacketsSpec.post enc Try.prog Try.f9 false true false false) := by
  have hw := ChangeSpec.witness6 (enc := enc) (C := Try.checked) (fn := Try.f9) (s := Rows.fnExactSamePacketsSpec) (conds := Rows.fnExactSamePacketsRow.domain) (apart := false) false wit 8 (wit1 os) (wit2 os) (wit3 os) (wit4 os H enc) (wit5 os H enc)
  refine returnsInHanded_of_change (C := Try.checked) own started (by kernel_rfl) Try.func9 hw ?_
  intro W base args ds gs before hval0 hW hcnd _
  have hval : ∀ (j : Nat) t v, Try.f9.params[j]? = some t → args[j]? = some v → Value.okWide Try.prog W .any base t v := hval0
  have hW' := hW
  obtain ⟨p, q, hA0, hV, rfl, hfz, hnd⟩ := hW
  have hA : DataW.TrodAll enc Try.prog W 0 (fun _ => true) true Try.f9.params.toList args.toList ds p := hA0
  rw [Try.params9] at hA hval
  obtain ⟨v0, vs0, d0, ds0, p0, q0, hargs, rfl, rfl, h0, r0⟩ := trodAll_cons hA
  obtain ⟨v1, vs1, d1, ds1, p1, q1, rfl, rfl, rfl, h1, r1⟩ := trodAll_cons r0
  obtain ⟨rfl, rfl, rfl⟩ := trodAll_nil r1
  obtain rfl : args = #[v0, v1] := by cases args; simp_all
  obtain ⟨rfl, rfl⟩ := trodVars_none hV
  obtain ⟨cells0, rfl, hsz0⟩ := okWide_struct Try.underlying46 (hval 0 46 v0 rfl rfl)
  have k0 := h0
  have lt0 : ∀ x ∈ p0, x.block < W.heap.size := by obtain ⟨m, hm⟩ := k0; exact DataW.trod_lt m _ _ _ hm
  obtain ⟨t0, P0, len0, cap0, cs0, rfl, w0⟩ := open_pk (hsz0.trans pk2) h0
  obtain ⟨cells1, rfl, hsz1⟩ := okWide_struct Try.underlying46 (hval 1 46 v1 rfl rfl)
  have k1 := h1
  have lt1 : ∀ x ∈ p1, x.block < W.heap.size := by obtain ⟨m, hm⟩ := k1; exact DataW.trod_lt m _ _ _ hm
  obtain ⟨t1, P1, len1, cap1, cs1, rfl, w1⟩ := open_pk (hsz1.trans pk2) h1
  clear hA0 hval0
  refine (walk t0 P0 len0 cap0 cs0 t1 P1 len1 cap1 cs1 W w0 w1).mono fun e W' ⟨he, bel⟩ => ?_
  subst he
  exact ⟨_, rfl, _, _, _, [], _, [], hW', trodAll_mk1 (shut_bool Try.underlying4 _), (trodAll_cons_mk (Below.trod laidOut (by kernel_rfl) (of_decide_eq_true (by kernel_rfl)) k0 bel lt0) (trodAll_cons_mk (Below.trod laidOut (by kernel_rfl) (of_decide_eq_true (by kernel_rfl)) k1 bel lt1) trodAll_mk0)), rfl, bel.frame _, fun h => by cases h⟩

theorem over : Rows.fnExactSamePacketsRow.holds Try.pinned (OpenSpec.ofChange Rows.fnExactSamePacketsSpec) :=
  OpenClaim.holds_of_wide 9 Try.f9 rfl rfl rfl rfl rfl rfl rfl ⟨rfl, rfl, rfl, rfl, rfl⟩ rfl rfl rfl rfl rfl (by kernel_rfl) Try.func9 (by kernel_rfl)
    (of_decide_eq_true (by kernel_rfl)) (by unfold Func.isWrapper; first | (rw [if_pos (by decide +kernel)]; kernel_rfl) | (rw [if_neg (by decide +kernel)]; exact ⟨rfl, rfl⟩))
    (fun os started H enc _ => lifted os started H enc)

/-- ████ THE STATEMENT ████ -/
theorem proved : Rows.FnExactSamePacketsSaid := over
#print axioms proved
end Go.Proofs.Ytepcikghhnfacaa.fnExactSamePackets
