/- At every packet the program's PackPacket answers as its model does, in memory of its own, it leaves its argument as it was, and the law FnExactPackPacket answers true. -/
import Derived.Test.YtepcikghhnfacaaRows
import Derived.Test.YtepcikghhnfacaaPkO
import Derived.Test.YtepcikghhnfacaaPpI
import Derived.Test.YtepcikghhnfacaaPkM
import Derived.Test.YtepcikghhnfacaaPkR
import Derived.WalkSpells
import Derived.WalkLawsBesides
import Derived.WalkKit
import Derived.ProofKit
import Derived.OpenShut
import Derived.ShutString
import Derived.ChangeOld
import Derived.Below
namespace Go.Proofs.Ytepcikghhnfacaa.fnExactPackPacket
open Go.ChangeShapes Go.WideShapes Go.ChangeAt Go.RowKit
open Go.ChangeMaps (open_string shut_string)
set_option linter.unusedVariables false

theorem own : ownKnob Try.prog.godebug = none := by kernel_rfl
theorem laidOut : laidOutB Try.prog = true := by kernel_rfl

/-- WHAT THE WALK IS TOLD OF A SLICE OF INTEGERS THAT CAME IN: it is nil; or it leads to a row of 'cap' cells, the numbers 'zs' (the first 'len' are its elements, the rest its spare room), each fitting its kind. -/
def IsRow (k : IntKind) (w : World) (a : Option Addr) (len cap : Nat) (zs : List Int) : Prop :=
  (a = none ∧ len = 0 ∧ cap = 0 ∧ zs = []) ∨
  ∃ x, a = some x ∧ len ≤ cap ∧ cap ≤ maxLen ∧ zs.length = cap ∧ (∀ i, i < zs.length → w.cell? (x.add i) = some (.int k (zs.getD i 0))) ∧ ∀ n ∈ zs, (Lit.int k n).wf = true


set_option maxRecDepth 100000 in
set_option maxHeartbeats 4000000 in
theorem walk (t0 : Int) (P0 : Option Addr) (len0 cap0 : Nat) (cs0 : List Chk) (w : World) (w0 : InCs w P0 len0 cap0 cs0) :
    Calls Try.prog 7 #[.agg #[.int .i64 t0, .slice P0 len0 cap0]] w fun e w' => e = .returned (.bool true) ∧ Below w.heap.size w w' := by
  obtain ⟨rfl, hby, hbo, hP0, hle, hcap⟩ := w0
  have hn : (cs0.length : Int) ≤ 9223372036854775807 := by omega
  have K1 := Blk.new w 46 #[.int .i64 t0, .slice P0 cs0.length cap0]
  have B1 := bal (Below.refl w.heap.size w) (.cells #[.int .i64 t0, .slice P0 cs0.length cap0] 46)
  have A1 := hP0.below (bal (Below.refl _ w) (.cells #[.int .i64 t0, .slice P0 cs0.length cap0] 46))
  obtain ⟨w1, hw1⟩ : ∃ w1, w.alloc (.cells #[.int .i64 t0, .slice P0 cs0.length cap0] 46) = w1 := ⟨_, rfl⟩
  rw [hw1] at K1 B1 A1
  have HW1 := hidH hw1
  have SZ := hidH (fun (u : World) (h : Cs u P0 cs0) => szPk_any t0 P0 cs0 cap0 1048576 u h hn hbo (by omega) (by omega))
  have SP := hidH (fun (u : World) (A : Option Addr) (h : Cs u A cs0) => packPacket_spec t0 A cs0 cs0.length u h hn hbo hby)
  have IM := hidH (fun (u : World) (A : Option Addr) (h : Cs u A cs0) => packPacket_impl t0 A cs0 cs0.length u h hn hbo hby)
  have HBO := hidH hbo
  have hM := pkM_le t0 cs0
  obtain ⟨C0, hC0⟩ : ∃ C0, pkF t0 cs0 = C0 := ⟨_, rfl⟩
  obtain ⟨M0, hM0⟩ : ∃ M0, pkM t0 cs0 = M0 := ⟨_, rfl⟩
  rw [hC0, hM0] at SP IM
  rw [hM0] at hM
  unfold pkV at SZ SP IM
  clear hw1 hby hbo hle hcap hC0 hM0
  go_enter Try.func7, Try.ntmps7
  go_wp2_with fail
  rw [HW1.out]
  refine (SZ.out _ A1).mono ?_
  rintro e w12 ⟨z, rfl, hz, b2⟩
  have KB := K1.below b2
  have K := btr B1 b2
  have HZ := hidH hz
  clear K1 B1 b2 SZ HW1 hz A1
  by_cases h0 : z < 0
  · go_wp2
    go_ret
    exact ⟨rfl, K⟩
  · have h1 : 0 ≤ z := by omega
    have hm := HZ.out.2.2 h1
    have hz0 := HZ.out.2.1
    have hlt := KB.lt
    have TO := hidH (fun (u : World) (h : Cs u P0 cs0) => toPk_any t0 P0 cs0 cap0 u h (by omega) (fun x hx => by have := totB_le cs0 x hx; omega))
    have EQ := hidH (fun (u : World) (A B : Option Addr) (hA : Cs u A cs0) (hB : Cs u B cs0) => eqPk_same t0 A B cs0 cs0.length cs0.length u hA hB hn HBO.out)
    have MK := hidH (fun (u : World) (B C : Nat) (A : Option Addr) (h : OCs B C u A cs0) => markPk_any B C t0 A cs0 cs0.length 1 u h (by omega) (by omega) (by omega))
    obtain ⟨kk, hkk⟩ : ∃ kk, kAt 1 cs0 cs0.length = kk := ⟨_, rfl⟩
    rw [hkk] at MK
    unfold pkV at TO EQ MK
    clear HBO HZ h0 hn hkk
    obtain ⟨p3, q3, z3⟩ := KB.two
    go_wp2_with fail
    clear p3 q3 z3
    refine (TO.out _ (hP0.below K)).mono ?_
    rintro e w13 ⟨TQa0, rfl, Qa0, hb⟩
    try simp only [World.size_alloc] at Qa0
    have sz := hb.size
    try simp only [World.size_alloc] at sz
    replace KB := KB.below hb
    replace K := btr K hb
    clear hb
    go_wp2_with fail
    refine (SP.out _ TQa0 Qa0.cs).mono ?_
    rintro e w14 ⟨A1, c1, rfl, P1, hb, h1a, h1b⟩
    try simp only [World.size_alloc] at P1
    have sz := hb.size
    try simp only [World.size_alloc] at sz
    replace KB := KB.below hb
    replace Qa0 := Qa0.below hb
    replace K := btr K hb
    clear hb
    have X1 := Blk.new w14 28 #[.int .i64 C0, .slice A1 M0.length c1]
    replace KB := KB.alloc (.cells #[.int .i64 C0, .slice A1 M0.length c1] 28)
    replace Qa0 := Qa0.below (bal (Below.refl _ _) (.cells #[.int .i64 C0, .slice A1 M0.length c1] 28))
    replace P1 := P1.below (bal (Below.refl _ _) (.cells #[.int .i64 C0, .slice A1 M0.length c1] 28))
    replace K := bal K (.cells #[.int .i64 C0, .slice A1 M0.length c1] 28)
    clear h1a
    clear Qa0
    obtain ⟨p3, q3, z3⟩ := KB.two
    go_wp2_with fail
    clear p3 q3 z3
    refine (TO.out _ (hP0.below K)).mono ?_
    rintro e w15 ⟨TQx0, rfl, Qx0, hb⟩
    try simp only [World.size_alloc] at Qx0
    have sz := hb.size
    try simp only [World.size_alloc] at sz
    replace KB := KB.below hb
    replace P1 := P1.below hb
    replace X1 := X1.below hb
    replace K := btr K hb
    clear hb
    have XX := Blk.new w15 51 #[.int .i64 t0, .slice TQx0 cs0.length cs0.length]
    replace KB := KB.alloc (.cells #[.int .i64 t0, .slice TQx0 cs0.length cs0.length] 51)
    replace P1 := P1.below (bal (Below.refl _ _) (.cells #[.int .i64 t0, .slice TQx0 cs0.length cs0.length] 51))
    replace X1 := X1.alloc (.cells #[.int .i64 t0, .slice TQx0 cs0.length cs0.length] 51)
    replace Qx0 := Qx0.below (bal (Below.refl _ _) (.cells #[.int .i64 t0, .slice TQx0 cs0.length cs0.length] 51))
    replace K := bal K (.cells #[.int .i64 t0, .slice TQx0 cs0.length cs0.length] 51)
    obtain ⟨p3, q3, z3⟩ := XX.two
    go_wp2_with fail
    clear p3 q3 z3
    refine (IM.out _ TQx0 Qx0.cs).mono ?_
    rintro e w16 ⟨A2, c2, rfl, P2, hb, h2a, h2b⟩
    try simp only [World.size_alloc] at P2
    have sz := hb.size
    try simp only [World.size_alloc] at sz
    replace KB := KB.below hb
    replace P1 := P1.below hb
    replace X1 := X1.below hb
    replace Qx0 := Qx0.below hb
    replace XX := XX.below hb
    replace K := btr K hb
    clear hb
    have X2 := Blk.new w16 28 #[.int .i64 C0, .slice A2 M0.length c2]
    replace KB := KB.alloc (.cells #[.int .i64 C0, .slice A2 M0.length c2] 28)
    replace P1 := P1.below (bal (Below.refl _ _) (.cells #[.int .i64 C0, .slice A2 M0.length c2] 28))
    replace X1 := X1.alloc (.cells #[.int .i64 C0, .slice A2 M0.length c2] 28)
    replace Qx0 := Qx0.below (bal (Below.refl _ _) (.cells #[.int .i64 C0, .slice A2 M0.length c2] 28))
    replace XX := XX.alloc (.cells #[.int .i64 C0, .slice A2 M0.length c2] 28)
    replace P2 := P2.below (bal (Below.refl _ _) (.cells #[.int .i64 C0, .slice A2 M0.length c2] 28))
    replace K := bal K (.cells #[.int .i64 C0, .slice A2 M0.length c2] 28)
    clear h2a
    obtain ⟨p2, q2, z2⟩ := X2.two
    obtain ⟨p1, q1, z1⟩ := X1.two
    go_wp2_with fail
    clear p2 q2 z2 p1 q1 z1
    refine (eqBR_same _ _ _ _ _ _ _ P2.bs P1.bs (by omega)).mono ?_
    rintro e w17 ⟨rfl, hb⟩
    have sz := hb.size
    try simp only [World.size_alloc] at sz
    replace KB := KB.below hb
    replace P1 := P1.below hb
    replace X1 := X1.below hb
    replace Qx0 := Qx0.below hb
    replace XX := XX.below hb
    replace P2 := P2.below hb
    replace X2 := X2.below hb
    replace K := btr K hb
    clear hb
    go_wp2_with fail
    refine wp_region_any (by kernel_rfl) ?_
    refine regEqPP _ _ _ _ _ _ _ _ _ _ _ _ _ _ _ _ _ _ _ _ _ _ _ _ _ w _ _ t0 P0 cs0 cap0 TQx0 TO.out EQ.out (by kernel_rfl) (by kernel_rfl) (by kernel_rfl) rfl ((EP.mk KB XX (hP0.below K) Qx0.cs K : EP w _ _ t0 P0 cs0 cap0 TQx0 _).below (Below.refl _ _).drew) (Below.refl _ _) ?_
    intros
    rename_i w18 hEC hb
    clear hEC
    replace hb := (Below.refl _ _).drew.trans hb
    have sz := hb.size
    try simp only [World.size_alloc] at sz
    replace KB := KB.below hb
    replace P1 := P1.below hb
    replace X1 := X1.below hb
    replace Qx0 := Qx0.below hb
    replace XX := XX.below hb
    replace P2 := P2.below hb
    replace X2 := X2.below hb
    replace K := btr K hb
    clear hb
    obtain ⟨p3, q3, z3⟩ := XX.two
    go_wp2_with fail
    clear p3 q3 z3
    refine (MK.out _ _ _ _ Qx0).mono ?_
    rintro e w19 ⟨rfl, W, _⟩
    have sz := W.size
    replace KB := W.blk KB (.inl (by omega))
    replace P1 := P1.win W (.inl (by omega))
    replace X1 := W.blk X1 (.inl (by omega))
    replace XX := W.blk XX (.inr (by omega))
    replace P2 := P2.win W (.inr (by omega))
    replace X2 := W.blk X2 (.inr (by omega))
    replace K := K.trans ((W.below (by omega)).mono (by omega))
    clear W
    clear Qx0
    have kpos : ¬ (((kk : Nat) : Int) < 0) := by omega
    obtain ⟨p2, q2, z2⟩ := X2.two
    obtain ⟨p1, q1, z1⟩ := X1.two
    go_wp2_with fail
    clear p2 q2 z2 p1 q1 z1
    refine (eqBR_same _ _ _ _ _ _ _ P2.bs P1.bs (by omega)).mono ?_
    rintro e w20 ⟨rfl, hb⟩
    have sz := hb.size
    try simp only [World.size_alloc] at sz
    replace KB := KB.below hb
    replace P1 := P1.below hb
    replace X1 := X1.below hb
    replace XX := XX.below hb
    replace P2 := P2.below hb
    replace X2 := X2.below hb
    replace K := btr K hb
    clear hb
    clear kpos
    obtain ⟨p2, q2, z2⟩ := X2.two
    go_wp2_with fail
    clear p2 q2 z2
    refine (markBR_any _ _ _ _ _ _ 1 _ P2 (by omega) (by omega)).mono ?_
    rintro e w21 ⟨rfl, W, M2⟩
    have sz := W.size
    replace KB := W.blk KB (.inl (by omega))
    replace P1 := P1.win W (.inl (by omega))
    replace X1 := W.blk X1 (.inl (by omega))
    replace XX := W.blk XX (.inl (by omega))
    replace X2 := W.blk X2 (.inr (by omega))
    replace K := K.trans ((W.below (by omega)).mono (by omega))
    clear W
    clear P2
    obtain ⟨p2, q2, z2⟩ := X2.two
    go_wp2_with fail
    clear p2 q2 z2
    refine (heldBR_any _ _ _ _ 1 _ M2 (by omega)).mono ?_
    rintro e w22 ⟨rfl, hb⟩
    have sz := hb.size
    try simp only [World.size_alloc] at sz
    replace KB := KB.below hb
    replace P1 := P1.below hb
    replace X1 := X1.below hb
    replace XX := XX.below hb
    replace X2 := X2.below hb
    replace M2 := bs_below M2 hb
    replace K := btr K hb
    clear hb
    obtain ⟨p3, q3, z3⟩ := KB.two
    go_wp2_with fail
    clear p3 q3 z3
    refine (TO.out _ (hP0.below K)).mono ?_
    rintro e w23 ⟨TQh0, rfl, Qh0, hb⟩
    try simp only [World.size_alloc] at Qh0
    have sz := hb.size
    try simp only [World.size_alloc] at sz
    replace KB := KB.below hb
    replace P1 := P1.below hb
    replace X1 := X1.below hb
    replace XX := XX.below hb
    replace X2 := X2.below hb
    replace M2 := bs_below M2 hb
    replace K := btr K hb
    clear hb
    go_wp2_with fail
    refine (IM.out _ TQh0 Qh0.cs).mono ?_
    rintro e w24 ⟨A3, c3, rfl, P3, hb, h3a, h3b⟩
    try simp only [World.size_alloc] at P3
    have sz := hb.size
    try simp only [World.size_alloc] at sz
    replace KB := KB.below hb
    replace P1 := P1.below hb
    replace X1 := X1.below hb
    replace XX := XX.below hb
    replace X2 := X2.below hb
    replace M2 := bs_below M2 hb
    replace Qh0 := Qh0.below hb
    replace K := btr K hb
    clear hb
    have X3 := Blk.new w24 28 #[.int .i64 C0, .slice A3 M0.length c3]
    replace KB := KB.alloc (.cells #[.int .i64 C0, .slice A3 M0.length c3] 28)
    replace P1 := P1.below (bal (Below.refl _ _) (.cells #[.int .i64 C0, .slice A3 M0.length c3] 28))
    replace X1 := X1.alloc (.cells #[.int .i64 C0, .slice A3 M0.length c3] 28)
    replace XX := XX.alloc (.cells #[.int .i64 C0, .slice A3 M0.length c3] 28)
    replace X2 := X2.alloc (.cells #[.int .i64 C0, .slice A3 M0.length c3] 28)
    replace M2 := bs_below M2 (bal (Below.refl _ _) (.cells #[.int .i64 C0, .slice A3 M0.length c3] 28))
    replace Qh0 := Qh0.below (bal (Below.refl _ _) (.cells #[.int .i64 C0, .slice A3 M0.length c3] 28))
    replace P3 := P3.below (bal (Below.refl _ _) (.cells #[.int .i64 C0, .slice A3 M0.length c3] 28))
    replace K := bal K (.cells #[.int .i64 C0, .slice A3 M0.length c3] 28)
    clear h3a
    clear Qh0
    obtain ⟨p3, q3, z3⟩ := X3.two
    obtain ⟨p1, q1, z1⟩ := X1.two
    go_wp2_with fail
    clear p3 q3 z3 p1 q1 z1
    refine (eqBR_same _ _ _ _ _ _ _ P3.bs P1.bs (by omega)).mono ?_
    rintro e w25 ⟨rfl, hb⟩
    have sz := hb.size
    try simp only [World.size_alloc] at sz
    replace KB := KB.below hb
    replace P1 := P1.below hb
    replace X1 := X1.below hb
    replace XX := XX.below hb
    replace X2 := X2.below hb
    replace M2 := bs_below M2 hb
    replace P3 := P3.below hb
    replace X3 := X3.below hb
    replace K := btr K hb
    clear hb
    clear P3
    clear X3
    clear P1
    clear X1
    obtain ⟨p2, q2, z2⟩ := X2.two
    go_wp2_with fail
    clear p2 q2 z2
    refine (heldBR_any _ _ _ _ 1 _ M2 (by omega)).mono ?_
    rintro e w26 ⟨rfl, hb⟩
    have sz := hb.size
    try simp only [World.size_alloc] at sz
    replace KB := KB.below hb
    replace XX := XX.below hb
    replace X2 := X2.below hb
    replace M2 := bs_below M2 hb
    replace K := btr K hb
    clear hb
    go_wp2
    go_ret
    exact ⟨rfl, K⟩

/-- An input that the row's conditions hold of: the witness laid as theorems of their own (inside the refine Lean does not come to an end). -/
def wit : Input := ⟨#[], #[.agg #[.int .i64 0, .slice none 0 0]], []⟩
theorem wit1 (os : Os) : (World.plainHolding Try.checked.prog os wit).variablesB Try.checked.prog = true := by kernel_rfl
theorem wit2 (os : Os) : ((World.plainHolding Try.checked.prog os wit).heap.toList.drop Try.checked.prog.globals.size).take ((begin Try.checked.prog (fun _ _ => 0) default).world.heap.size - Try.checked.prog.globals.size) =
    (begin Try.checked.prog (fun _ _ => 0) default).world.heap.toList.drop Try.checked.prog.globals.size := by kernel_rfl
theorem wit3 (os : Os) : Input.okWideB Try.checked.prog (World.plainHolding Try.checked.prog os wit) 7 ⟨#[], wit.args, []⟩ = true := by kernel_rfl
theorem wit4 (os : Os) (H : Type) (enc : TypeId × Value → H) : Rows.fnExactPackPacketSpec.preB enc Try.checked.prog Try.f7 Rows.fnExactPackPacketRow.domain false (World.plainHolding Try.checked.prog os wit).memory wit.args 8 = true := by kernel_rfl
theorem wit5 (os : Os) (H : Type) (enc : TypeId × Value → H) : Rows.fnExactPackPacketSpec.sizedB enc Try.checked.prog Try.f7 false (World.plainHolding Try.checked.prog os wit).memory wit.args 8 = true := by kernel_rfl

/-! ### THE ROW's STEP: WRITTEN OUT: LEAVE IT -/
set_option maxRecDepth 100000 in
theorem lifted (os : Os) (started : os.Started) (H : Type) (enc : TypeId × Value → H) :
    ReturnsInHanded {} Try.checked os 7 .any (Rows.fnExactPackPacketSpec.pre6 enc Try.prog Try.f7 Rows.fnExactPackPacketRow.domain false) (Rows.fnExactPackPacketSpec.post enc Try.prog Try.f7 false true false false) := by
  have hw := ChangeSpec.witness6 (enc := enc) (C := Try.checked) (fn := Try.f7) (s := Rows.fnExactPackPacketSpec) (conds := Rows.fnExactPackPacketRow.domain) (apart := false) false wit 8 (wit1 os) (wit2 os) (wit3 os) (wit4 os H enc) (wit5 os H enc)
  refine returnsInHanded_of_change (C := Try.checked) own started (by kernel_rfl) Try.func7 hw ?_
  intro W base args ds gs before hval0 hW hcnd _
  have hval : ∀ (j : Nat) t v, Try.f7.params[j]? = some t → args[j]? = some v → Value.okWide Try.prog W .any base t v := hval0
  have hW' := hW
  obtain ⟨p, q, hA0, hV, rfl, hfz, hnd⟩ := hW
  have hA : DataW.TrodAll enc Try.prog W 0 (fun _ => true) true Try.f7.params.toList args.toList ds p := hA0
  rw [Try.params7] at hA hval
  obtain ⟨v0, vs0, d0, ds0, p0, q0, hargs, rfl, rfl, h0, r0⟩ := trodAll_cons hA
  obtain ⟨rfl, rfl, rfl⟩ := trodAll_nil r0
  obtain rfl : args = #[v0] := by cases args; simp_all
  obtain ⟨rfl, rfl⟩ := trodVars_none hV
  obtain ⟨cells0, rfl, hsz0⟩ := okWide_struct Try.underlying46 (hval 0 46 v0 rfl rfl)
  have k0 := h0
  have lt0 : ∀ x ∈ p0, x.block < W.heap.size := by obtain ⟨m, hm⟩ := k0; exact DataW.trod_lt m _ _ _ hm
  obtain ⟨t0, P0, len0, cap0, cs0, rfl, w0⟩ := open_pk (hsz0.trans pk2) h0
  clear hA0 hval0
  refine (walk t0 P0 len0 cap0 cs0 W w0).mono fun e W' ⟨he, bel⟩ => ?_
  subst he
  exact ⟨_, rfl, _, _, _, [], _, [], hW', trodAll_mk1 (shut_bool Try.underlying4 _), (trodAll_cons_mk (Below.trod laidOut (by kernel_rfl) (of_decide_eq_true (by kernel_rfl)) k0 bel lt0) trodAll_mk0), rfl, bel.frame _, fun h => by cases h⟩

theorem over : Rows.fnExactPackPacketRow.holds Try.pinned (OpenSpec.ofChange Rows.fnExactPackPacketSpec) :=
  OpenClaim.holds_of_wide 7 Try.f7 rfl rfl rfl rfl rfl rfl rfl ⟨rfl, rfl, rfl, rfl, rfl⟩ rfl rfl rfl rfl rfl (by kernel_rfl) Try.func7 (by kernel_rfl)
    (of_decide_eq_true (by kernel_rfl)) (by unfold Func.isWrapper; first | (rw [if_pos (by decide +kernel)]; kernel_rfl) | (rw [if_neg (by decide +kernel)]; exact ⟨rfl, rfl⟩))
    (fun os started H enc _ => lifted os started H enc)

/-- ████ THE STATEMENT ████ -/
theorem proved : Rows.FnExactPackPacketSaid := over
#print axioms proved
end Go.Proofs.Ytepcikghhnfacaa.fnExactPackPacket
