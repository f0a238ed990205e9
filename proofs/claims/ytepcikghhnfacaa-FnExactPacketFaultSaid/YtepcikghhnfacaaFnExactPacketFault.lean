/- At every packet the program's PacketFault answers as its model does, it leaves its argument as it was, and the law FnExactPacketFault answers true. -/
import Derived.Test.YtepcikghhnfacaaRows
import Derived.Test.YtepcikghhnfacaaPkO
import Derived.Test.YtepcikghhnfacaaPfI
import Derived.Test.YtepcikghhnfacaaPkT
import Derived.Test.YtepcikghhnfacaaPkR
import Derived.WalkSpells
import Derived.WalkLawsBesides
import Derived.WalkKit
import Derived.ProofKit
import Derived.OpenShut
import Derived.ShutString
import Derived.ChangeOld
import Derived.Below
namespace Go.Proofs.Ytepcikghhnfacaa.fnExactPacketFault
open Go.ChangeShapes Go.WideShapes Go.ChangeAt Go.RowKit
open Go.ChangeMaps (open_string shut_string)
set_option linter.unusedVariables false

theorem own : ownKnob Try.prog.godebug = none := by kernel_rfl
theorem laidOut : laidOutB Try.prog = true := by kernel_rfl

/-- WHAT THE WALK IS TOLD OF A SLICE OF INTEGERS THAT CAME IN: it is nil; or it leads to a row of 'cap' cells, the numbers 'zs' (the first 'len' are its elements, the rest its spare room), each fitting its kind. -/
def IsRow (k : IntKind) (w : World) (a : Option Addr) (len cap : Nat) (zs : List Int) : Prop :=
  (a = none ∧ len = 0 ∧ cap = 0 ∧ zs = []) ∨
  ∃ x, a = some x ∧ len ≤ cap ∧ cap ≤ maxLen ∧ zs.length = cap ∧ (∀ i, i < zs.length → w.cell? (x.add i) = some (.int k (zs.getD i 0))) ∧ ∀ n ∈ zs, (Lit.int k n).wf = true


set_option maxRecDepth 100000 in
set_option maxHeartbeats 4000000 in
theorem walk (t0 : Int) (P0 : Option Addr) (len0 cap0 : Nat) (cs0 : List Chk) (w : World) (w0 : InCs w P0 len0 cap0 cs0) :
    Calls Try.prog 6 #[.agg #[.int .i64 t0, .slice P0 len0 cap0]] w fun e w' => e = .returned (.bool true) ∧ Below w.heap.size w w' := by
  obtain ⟨rfl, hby, hbo, hP, hle, hcap⟩ := w0
  have hn : (cs0.length : Int) ≤ 9223372036854775807 := by omega
  have K1 := Blk.new w 46 #[.int .i64 t0, .slice P0 cs0.length cap0]
  have B1 := bal (Below.refl w.heap.size w) (.cells #[.int .i64 t0, .slice P0 cs0.length cap0] 46)
  have A1 := hP.below (bal (Below.refl _ w) (.cells #[.int .i64 t0, .slice P0 cs0.length cap0] 46))
  obtain ⟨w1, hw1⟩ : ∃ w1, w.alloc (.cells #[.int .i64 t0, .slice P0 cs0.length cap0] 46) = w1 := ⟨_, rfl⟩
  rw [hw1] at K1 B1 A1
  have HW1 := hidH hw1
  have SZ := hidH (fun (u : World) (h : Cs u P0 cs0) => szPk_any t0 P0 cs0 cap0 1048576 u h hn hbo (by omega) (by omega))
  have FA := hidH (fun (u : World) (A : Option Addr) (h : Cs u A cs0) => pkFault_spec t0 A cs0 cs0.length u h hn hbo)
  have HBO := hidH hbo
  unfold pkV at SZ FA
  clear hw1 hP hby hbo hle hcap
  go_enter Try.func6, Try.ntmps6
  go_wp2_with fail
  rw [HW1.out]
  refine (SZ.out _ A1).mono ?_
  rintro e w2 ⟨z, rfl, hz, b2⟩
  have K2 := K1.below b2
  have A2 := A1.below b2
  have B2 := btr B1 b2
  have HZ := hidH hz
  clear K1 A1 B1 b2 SZ HW1 hz
  by_cases h0 : z < 0
  · go_wp2
    go_ret
    exact ⟨rfl, B2⟩
  · have h1 : 0 ≤ z := by omega
    have hm := HZ.out.2.2 h1
    have c0 := K2.cell 0
    have c1 := K2.cell 1
    simp only [List.getElem?_toArray, List.getElem?_cons_succ, List.getElem?_cons_zero] at c0 c1
    have hlt := K2.lt
    have TO := hidH (fun (u : World) (h : Cs u P0 cs0) => toPk_any t0 P0 cs0 cap0 u h (by omega) (fun x hx => by have := totB_le cs0 x hx; omega))
    have FI := hidH (fun (u : World) (A : Option Addr) (h : Cs u A cs0) => pkFault_impl t0 A cs0 cs0.length u h hn HBO.out)
    have EQ := hidH (fun (u : World) (A B : Option Addr) (hA : Cs u A cs0) (hB : Cs u B cs0) => eqPk_same t0 A B cs0 cs0.length cs0.length u hA hB hn HBO.out)
    unfold pkV at TO FI EQ
    clear HBO HZ hm hn h0
    go_wp2_with fail
    refine (TO.out w2 A2).mono ?_
    rintro e w3 ⟨AA, rfl, OA, b3⟩
    have A3 := A2.below b3
    have B3 := btr B2 b3
    have K3 := K2.below b3
    have C3 := OA.cs
    clear OA b3 A2 B2 K2 c0 c1 hlt
    go_wp2_with fail
    refine (FA.out w3 AA C3).mono ?_
    rintro e w4 ⟨rfl, b4⟩
    have A4 := A3.below b4
    have B4 := btr B3 b4
    have K4 := K3.below b4
    clear A3 B3 K3 b4 FA C3
    have c0 := K4.cell 0
    have c1 := K4.cell 1
    simp only [List.getElem?_toArray, List.getElem?_cons_succ, List.getElem?_cons_zero] at c0 c1
    have hlt := K4.lt
    obtain ⟨F, hF⟩ : ∃ F, pkF t0 cs0 = F := ⟨_, rfl⟩
    rw [hF] at FI ⊢
    clear hF
    go_wp2_with fail
    refine (TO.out w4 A4).mono ?_
    rintro e w5 ⟨AX, rfl, OX, b5⟩
    have o := bal (Below.refl w5.heap.size w5) (.cells #[.int .i64 t0, .slice AX cs0.length cs0.length] 51)
    have X5 := Blk.new w5 51 #[.int .i64 t0, .slice AX cs0.length cs0.length]
    have A5 := (A4.below b5).below o
    have S5 := OX.cs.below o
    have B5 := btr (btr B4 b5) o
    have K5 := (K4.below b5).below o
    clear OX b5 A4 B4 K4 c0 c1 hlt o
    go_wp2_with fail
    refine (FI.out _ AX S5).mono ?_
    rintro e w6 ⟨rfl, b6⟩
    have A6 := A5.below b6
    have S6 := S5.below b6
    have B6 := btr B5 b6
    have K6 := K5.below b6
    have X6 := X5.below b6
    clear A5 S5 B5 K5 X5 b6 FI
    have hne : (F != F) = false := by rw [bne_eq_false_iff_eq]
    go_wp2_with fail
    refine wp_region_any (by kernel_rfl) ?_
    refine regEqPF _ _ _ _ _ _ _ _ _ _ _ _ _ _ _ _ _ _ _ _ w w.heap.size w5.heap.size t0 P0 cs0 cap0 AX TO.out EQ.out (by kernel_rfl) (by kernel_rfl) (by kernel_rfl) rfl ((EP.mk K6 X6 A6 S6 B6 : EP w w.heap.size w5.heap.size t0 P0 cs0 cap0 AX w6).below (Below.refl _ _).drew) (Below.refl _ _) ?_
    intros
    rename_i W hM _
    clear K6 X6 A6 S6 B6 TO EQ
    go_wp2
    go_ret
    exact ⟨rfl, hM.old⟩

/-- An input that the row's conditions hold of: the witness laid as theorems of their own (inside the refine Lean does not come to an end). -/
def wit : Input := ⟨#[], #[.agg #[.int .i64 0, .slice none 0 0]], []⟩
theorem wit1 (os : Os) : (World.plainHolding Try.checked.prog os wit).variablesB Try.checked.prog = true := by kernel_rfl
theorem wit2 (os : Os) : ((World.plainHolding Try.checked.prog os wit).heap.toList.drop Try.checked.prog.globals.size).take ((begin Try.checked.prog (fun _ _ => 0) default).world.heap.size - Try.checked.prog.globals.size) =
    (begin Try.checked.prog (fun _ _ => 0) default).world.heap.toList.drop Try.checked.prog.globals.size := by kernel_rfl
theorem wit3 (os : Os) : Input.okWideB Try.checked.prog (World.plainHolding Try.checked.prog os wit) 6 ⟨#[], wit.args, []⟩ = true := by kernel_rfl
theorem wit4 (os : Os) (H : Type) (enc : TypeId × Value → H) : Rows.fnExactPacketFaultSpec.preB enc Try.checked.prog Try.f6 Rows.fnExactPacketFaultRow.domain false (World.plainHolding Try.checked.prog os wit).memory wit.args 8 = true := by kernel_rfl
theorem wit5 (os : Os) (H : Type) (enc : TypeId × Value → H) : Rows.fnExactPacketFaultSpec.sizedB enc Try.checked.prog Try.f6 false (World.plainHolding Try.checked.prog os wit).memory wit.args 8 = true := by kernel_rfl

/-! ### THE ROW's STEP: WRITTEN OUT: LEAVE IT -/
set_option maxRecDepth 100000 in
theorem lifted (os : Os) (started : os.Started) (H : Type) (enc : TypeId × Value → H) :
    ReturnsInHanded {} Try.checked os 6 .any (Rows.fnExactPacketFaultSpec.pre6 enc Try.prog Try.f6 Rows.fnExactPacketFaultRow.domain false) (Rows.fnExactPacketFaultSpec.post enc Try.prog Try.f6 false true false false) := by
  have hw := ChangeSpec.witness6 (enc := enc) (C := Try.checked) (fn := Try.f6) (s := Rows.fnExactPacketFaultSpec) (conds := Rows.fnExactPacketFaultRow.domain) (apart := false) false wit 8 (wit1 os) (wit2 os) (wit3 os) (wit4 os H enc) (wit5 os H enc)
  refine returnsInHanded_of_change (C := Try.checked) own started (by kernel_rfl) Try.func6 hw ?_
  intro W base args ds gs before hval0 hW hcnd _
  have hval : ∀ (j : Nat) t v, Try.f6.params[j]? = some t → args[j]? = some v → Value.okWide Try.prog W .any base t v := hval0
  have hW' := hW
  obtain ⟨p, q, hA0, hV, rfl, hfz, hnd⟩ := hW
  have hA : DataW.TrodAll enc Try.prog W 0 (fun _ => true) true Try.f6.params.toList args.toList ds p := hA0
  rw [Try.params6] at hA hval
  obtain ⟨v0, vs0, d0, ds0, p0, q0, hargs, rfl, rfl, h0, r0⟩ := trodAll_cons hA
  obtain ⟨rfl, rfl, rfl⟩ := trodAll_nil r0
  obtain rfl : args = #[v0] := by cases args; simp_all
  obtain ⟨rfl, rfl⟩ := trodVars_none hV
  obtain ⟨cells0, rfl, hsz0⟩ := okWide_struct Try.underlying46 (hval 0 46 v0 rfl rfl)
  have k0 := h0
  have lt0 : ∀ x ∈ p0, x.block < W.heap.size := by obtain ⟨m, hm⟩ := k0; exact DataW.trod_lt m _ _ _ hm
  obtain ⟨t0, P0, len0, cap0, cs0, rfl, w0⟩ := open_pk (hsz0.trans pk2) h0
  clear hA0 hval0
  refine (walk t0 P0 len0 cap0 cs0 W w0).mono fun e W' ⟨he, bel⟩ => ?_
  subst he
  exact ⟨_, rfl, _, _, _, [], _, [], hW', trodAll_mk1 (shut_bool Try.underlying4 _), (trodAll_cons_mk (Below.trod laidOut (by kernel_rfl) (of_decide_eq_true (by kernel_rfl)) k0 bel lt0) trodAll_mk0), rfl, bel.frame _, fun h => by cases h⟩

theorem over : Rows.fnExactPacketFaultRow.holds Try.pinned (OpenSpec.ofChange Rows.fnExactPacketFaultSpec) :=
  OpenClaim.holds_of_wide 6 Try.f6 rfl rfl rfl rfl rfl rfl rfl ⟨rfl, rfl, rfl, rfl, rfl⟩ rfl rfl rfl rfl rfl (by kernel_rfl) Try.func6 (by kernel_rfl)
    (of_decide_eq_true (by kernel_rfl)) (by unfold Func.isWrapper; first | (rw [if_pos (by decide +kernel)]; kernel_rfl) | (rw [if_neg (by decide +kernel)]; exact ⟨rfl, rfl⟩))
    (fun os started H enc _ => lifted os started H enc)

/-- ████ THE STATEMENT ████ -/
theorem proved : Rows.FnExactPacketFaultSaid := over
#print axioms proved
end Go.Proofs.Ytepcikghhnfacaa.fnExactPacketFault
