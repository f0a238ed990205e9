/- At every slice of bytes the program's ReadPacket answers as its model does, in memory of its own, it leaves its argument as it was, and the law FnExactReadPacket answers true. -/
import Derived.Test.YtepcikghhnfacaaDoorRows
import Derived.Test.YtepcikghhnfacaaDoorCards
import Derived.Test.YtepcikghhnfacaaDoorTie
import Derived.SevenTiedAt
import Derived.LaidMore
import Derived.LaidLaws
import Derived.ChangeVars
import Derived.RowKitTokens
import Derived.Stop.Joined
import Derived.Stop.LaidErr
import Derived.Test.YtepcikghhnfacaaDoorRqI
import Derived.Test.YtepcikghhnfacaaDoorPkH
import Derived.Test.YtepcikghhnfacaaDoorLawKit0
import Derived.WalkSpells
import Derived.WalkLawsBesides
import Derived.WalkKit
import Derived.ProofKit
import Derived.OpenShut
import Derived.ShutString
import Derived.ChangeOld
import Derived.Below
namespace Go.Proofs.YtepcikghhnfacaaDoor.fnExactReadPacket
open Go.ChangeShapes Go.WideShapes Go.ChangeAt Go.RowKit
open Go.ChangeMaps (open_string shut_string)
set_option linter.unusedVariables false

theorem own : ownKnob Tryd.prog.godebug = none := by kernel_rfl
theorem laidOut : laidOutB Tryd.prog = true := by kernel_rfl

/-- WHAT THE WALK IS TOLD OF A SLICE OF INTEGERS THAT CAME IN: it is nil; or it leads to a row of 'cap' cells, the numbers 'zs' (the first 'len' are its elements, the rest its spare room), each fitting its kind. -/
def IsRow (k : IntKind) (w : World) (a : Option Addr) (len cap : Nat) (zs : List Int) : Prop :=
  (a = none ∧ len = 0 ∧ cap = 0 ∧ zs = []) ∨
  ∃ x, a = some x ∧ len ≤ cap ∧ cap ≤ maxLen ∧ zs.length = cap ∧ (∀ i, i < zs.length → w.cell? (x.add i) = some (.int k (zs.getD i 0))) ∧ ∀ n ∈ zs, (Lit.int k n).wf = true


set_option maxRecDepth 100000 in
set_option maxHeartbeats 4000000 in
theorem walk (a0 : Option Addr) (len0 cap0 : Nat) (z0 : List Int) (w : World) (w0 : IsRow .u8 w a0 len0 cap0 z0) (ty : TypeId) (pv : Value) (hE : w.cell? ⟨0, 0, none⟩ = some (.iface ty pv)) :
    Calls Tryd.prog 4 #[.slice a0 len0 cap0] w fun e w' => e = .returned (.bool true) ∧ Below w.heap.size w w' := by
  obtain ⟨l, rfl, hA0, hl0, hlc0, hcap0⟩ := row_bs w0
  clear w0
  by_cases hbig0 : (1048576 : Int) < (l.length : Int)
  · go_enter Tryd.func4, Tryd.ntmps4
    go_wp2
    go_ret
    exact ⟨rfl, Below.refl _ _⟩
  have hlen0 : (l.length : Int) ≤ 1048576 := by omega
  clear hbig0
  have hpos : 0 < w.heap.size := World.block_lt_of_cell? _ _ hE
  have HEK := hidH (fun (u : World) (h : Below w.heap.size w u) => ((h.cell (p := ⟨0, 0, none⟩) hpos).trans hE))
  have SP := hidH (fun (u : World) (A : Option Addr) (h : Bs u A l) => readPacket_spec A l l.length u h hl0 (by omega) (Nat.le_refl _) (by omega))
  have IM := hidH (fun (u : World) (A : Option Addr) (h : Bs u A l) (he : u.cell? ⟨0, 0, none⟩ = some (.iface ty pv)) => readPacket_impl A l l.length u ty pv h hl0 (by omega) (Nat.le_refl _) (by omega) he)
  have hok := rdCs_ok hl0
  unfold RdOwn at SP IM
  obtain ⟨C0, hC0⟩ : ∃ C0, rdC l = C0 := ⟨_, rfl⟩
  obtain ⟨T0, hT0⟩ : ∃ T0, rdT l = T0 := ⟨_, rfl⟩
  obtain ⟨S0, hS0⟩ : ∃ S0, rdCs l = S0 := ⟨_, rfl⟩
  rw [hC0, hT0, hS0] at SP IM
  rw [hS0] at hok
  obtain ⟨hok1, hok2, hok3⟩ := hok
  have EQ := hidH (fun (u : World) (A B : Option Addr) (c d : Nat) (hA : Cs u A S0) (hB : Cs u B S0) => eqPR_same C0 T0 A B S0 c d u hA hB (by omega) (fun x hx => by have := hok3 x hx; omega))
  have MK := hidH (fun (u : World) (B C : Nat) (A : Option Addr) (c : Nat) (h : OCs B C u A S0) => markPR_any B C C0 T0 A S0 c 1 u h (by omega) (by omega) (by omega))
  have HL := hidH (fun (u : World) (A : Option Addr) (c : Nat) (h : Cs u A (markCs 1 S0)) => heldPR_any C0 T0 A S0 c 1 u h (by omega) (by omega) (by omega))
  obtain ⟨kk, hkk⟩ : ∃ kk, kAt 1 S0 S0.length = kk := ⟨_, rfl⟩
  rw [hkk] at MK HL
  unfold prV at EQ MK HL
  clear hC0 hT0 hS0 hok1 hok2 hok3 hkk hE hpos
  have K : Below w.heap.size w w := Below.refl _ _
  go_enter Tryd.func4, Tryd.ntmps4
  go_wp2_with fail
  refine (toB' _ _ _ _ (bs_below hA0 K) (by omega)).mono ?_
  rintro e w11 ⟨TQa0, rfl, Qa0, hb⟩
  try simp only [World.size_alloc] at Qa0
  have sz := hb.size
  try simp only [World.size_alloc] at sz
  replace K := btr K hb
  clear hb
  go_wp2_with fail
  refine (SP.out _ _ Qa0.bs).mono ?_
  rintro e w12 ⟨A1, c1, rfl, P1, hb⟩
  try simp only [World.size_alloc] at P1
  have sz := hb.size
  try simp only [World.size_alloc] at sz
  replace Qa0 := Qa0.below hb
  replace K := btr K hb
  clear hb
  have X1 := Blk.new w12 33 #[.int .i64 C0, .int .i64 T0, .slice A1 S0.length c1]
  replace Qa0 := Qa0.below (bal (Below.refl _ _) (.cells #[.int .i64 C0, .int .i64 T0, .slice A1 S0.length c1] 33))
  replace P1 := P1.below (bal (Below.refl _ _) (.cells #[.int .i64 C0, .int .i64 T0, .slice A1 S0.length c1] 33))
  replace K := bal K (.cells #[.int .i64 C0, .int .i64 T0, .slice A1 S0.length c1] 33)
  clear Qa0
  go_wp2_with fail
  refine (toB' _ _ _ _ (bs_below hA0 K) (by omega)).mono ?_
  rintro e w13 ⟨TQx0, rfl, Qx0, hb⟩
  try simp only [World.size_alloc] at Qx0
  have sz := hb.size
  try simp only [World.size_alloc] at sz
  replace P1 := P1.below hb
  replace X1 := X1.below hb
  replace K := btr K hb
  clear hb
  go_wp2_with fail
  refine (IM.out _ _ Qx0.bs (HEK.out _ K)).mono ?_
  rintro e w14 ⟨A2, c2, rfl, P2, hb⟩
  try simp only [World.size_alloc] at P2
  have sz := hb.size
  try simp only [World.size_alloc] at sz
  replace P1 := P1.below hb
  replace X1 := X1.below hb
  replace Qx0 := Qx0.below hb
  replace K := btr K hb
  clear hb
  have X2 := Blk.new w14 33 #[.int .i64 C0, .int .i64 T0, .slice A2 S0.length c2]
  replace P1 := P1.below (bal (Below.refl _ _) (.cells #[.int .i64 C0, .int .i64 T0, .slice A2 S0.length c2] 33))
  replace X1 := X1.alloc (.cells #[.int .i64 C0, .int .i64 T0, .slice A2 S0.length c2] 33)
  replace Qx0 := Qx0.below (bal (Below.refl _ _) (.cells #[.int .i64 C0, .int .i64 T0, .slice A2 S0.length c2] 33))
  replace P2 := P2.below (bal (Below.refl _ _) (.cells #[.int .i64 C0, .int .i64 T0, .slice A2 S0.length c2] 33))
  replace K := bal K (.cells #[.int .i64 C0, .int .i64 T0, .slice A2 S0.length c2] 33)
  obtain ⟨p2, q2, r2, z2⟩ := X2.three
  obtain ⟨p1, q1, r1, z1⟩ := X1.three
  go_wp2_with fail
  clear p2 q2 r2 z2 p1 q1 r1 z1
  refine (EQ.out _ _ _ _ _ P2.cs P1.cs).mono ?_
  rintro e w15 ⟨rfl, hb⟩
  have sz := hb.size
  try simp only [World.size_alloc] at sz
  replace P1 := P1.below hb
  replace X1 := X1.below hb
  replace Qx0 := Qx0.below hb
  replace P2 := P2.below hb
  replace X2 := X2.below hb
  replace K := btr K hb
  clear hb
  go_wp2_with fail
  refine (toB' _ _ _ _ (bs_below hA0 K) (by omega)).mono ?_
  rintro e w16 ⟨TQe0, rfl, Qe0, hb⟩
  try simp only [World.size_alloc] at Qe0
  have sz := hb.size
  try simp only [World.size_alloc] at sz
  replace P1 := P1.below hb
  replace X1 := X1.below hb
  replace Qx0 := Qx0.below hb
  replace P2 := P2.below hb
  replace X2 := X2.below hb
  replace K := btr K hb
  clear hb
  go_wp2_with fail
  refine (eqB_same _ _ _ _ _ _ Qx0.bs Qe0.bs (by omega)).mono ?_
  rintro e w17 ⟨rfl, dd, rfl⟩
  have hb := below_drewN (Below.refl w16.heap.size w16) dd
  clear Qe0
  replace P1 := P1.below hb
  replace X1 := X1.below hb
  replace Qx0 := Qx0.below hb
  replace P2 := P2.below hb
  replace X2 := X2.below hb
  have sz := hb.size
  replace K := btr K hb
  clear hb
  go_wp2_with fail
  refine (markB_any _ _ _ _ _ (1) _ Qx0 (by omega) (by omega)).mono ?_
  rintro e w18 ⟨rfl, W, _⟩
  have sz := W.size
  replace P1 := P1.win W (.inl (by omega))
  replace X1 := W.blk X1 (.inl (by omega))
  replace P2 := P2.win W (.inr (by omega))
  replace X2 := W.blk X2 (.inr (by omega))
  replace K := K.trans ((W.below (by omega)).mono (by omega))
  clear W
  clear Qx0
  have kpos : ¬ (((1 + l.length : Nat) : Int) < 0) := by omega
  obtain ⟨p2, q2, r2, z2⟩ := X2.three
  obtain ⟨p1, q1, r1, z1⟩ := X1.three
  go_wp2_with fail
  clear p2 q2 r2 z2 p1 q1 r1 z1
  refine (EQ.out _ _ _ _ _ P2.cs P1.cs).mono ?_
  rintro e w19 ⟨rfl, hb⟩
  have sz := hb.size
  try simp only [World.size_alloc] at sz
  replace P1 := P1.below hb
  replace X1 := X1.below hb
  replace P2 := P2.below hb
  replace X2 := X2.below hb
  replace K := btr K hb
  clear hb
  clear kpos
  obtain ⟨p2, q2, r2, z2⟩ := X2.three
  go_wp2_with fail
  clear p2 q2 r2 z2
  refine (MK.out _ _ _ _ _ P2).mono ?_
  rintro e w20 ⟨rfl, W, M2⟩
  have sz := W.size
  replace P1 := P1.win W (.inl (by omega))
  replace X1 := W.blk X1 (.inl (by omega))
  replace X2 := W.blk X2 (.inr (by omega))
  replace K := K.trans ((W.below (by omega)).mono (by omega))
  clear W
  clear P2
  obtain ⟨p2, q2, r2, z2⟩ := X2.three
  go_wp2_with fail
  clear p2 q2 r2 z2
  refine (HL.out _ _ _ M2).mono ?_
  rintro e w21 ⟨rfl, hb⟩
  have sz := hb.size
  try simp only [World.size_alloc] at sz
  replace P1 := P1.below hb
  replace X1 := X1.below hb
  replace X2 := X2.below hb
  replace M2 := M2.below hb
  replace K := btr K hb
  clear hb
  go_wp2_with fail
  refine (toB' _ _ _ _ (bs_below hA0 K) (by omega)).mono ?_
  rintro e w22 ⟨TQh0, rfl, Qh0, hb⟩
  try simp only [World.size_alloc] at Qh0
  have sz := hb.size
  try simp only [World.size_alloc] at sz
  replace P1 := P1.below hb
  replace X1 := X1.below hb
  replace X2 := X2.below hb
  replace M2 := M2.below hb
  replace K := btr K hb
  clear hb
  go_wp2_with fail
  refine (IM.out _ _ Qh0.bs (HEK.out _ K)).mono ?_
  rintro e w23 ⟨A3, c3, rfl, P3, hb⟩
  try simp only [World.size_alloc] at P3
  have sz := hb.size
  try simp only [World.size_alloc] at sz
  replace P1 := P1.below hb
  replace X1 := X1.below hb
  replace X2 := X2.below hb
  replace M2 := M2.below hb
  replace Qh0 := Qh0.below hb
  replace K := btr K hb
  clear hb
  have X3 := Blk.new w23 33 #[.int .i64 C0, .int .i64 T0, .slice A3 S0.length c3]
  replace P1 := P1.below (bal (Below.refl _ _) (.cells #[.int .i64 C0, .int .i64 T0, .slice A3 S0.length c3] 33))
  replace X1 := X1.alloc (.cells #[.int .i64 C0, .int .i64 T0, .slice A3 S0.length c3] 33)
  replace X2 := X2.alloc (.cells #[.int .i64 C0, .int .i64 T0, .slice A3 S0.length c3] 33)
  replace M2 := M2.below (bal (Below.refl _ _) (.cells #[.int .i64 C0, .int .i64 T0, .slice A3 S0.length c3] 33))
  replace Qh0 := Qh0.below (bal (Below.refl _ _) (.cells #[.int .i64 C0, .int .i64 T0, .slice A3 S0.length c3] 33))
  replace P3 := P3.below (bal (Below.refl _ _) (.cells #[.int .i64 C0, .int .i64 T0, .slice A3 S0.length c3] 33))
  replace K := bal K (.cells #[.int .i64 C0, .int .i64 T0, .slice A3 S0.length c3] 33)
  clear Qh0
  obtain ⟨p3, q3, r3, z3⟩ := X3.three
  obtain ⟨p1, q1, r1, z1⟩ := X1.three
  go_wp2_with fail
  clear p3 q3 r3 z3 p1 q1 r1 z1
  refine (EQ.out _ _ _ _ _ P3.cs P1.cs).mono ?_
  rintro e w24 ⟨rfl, hb⟩
  have sz := hb.size
  try simp only [World.size_alloc] at sz
  replace P1 := P1.below hb
  replace X1 := X1.below hb
  replace X2 := X2.below hb
  replace M2 := M2.below hb
  replace P3 := P3.below hb
  replace X3 := X3.below hb
  replace K := btr K hb
  clear hb
  clear P3
  clear X3
  clear P1
  clear X1
  obtain ⟨p2, q2, r2, z2⟩ := X2.three
  go_wp2_with fail
  clear p2 q2 r2 z2
  refine (HL.out _ _ _ M2).mono ?_
  rintro e w25 ⟨rfl, hb⟩
  have sz := hb.size
  try simp only [World.size_alloc] at sz
  replace X2 := X2.below hb
  replace M2 := M2.below hb
  replace K := btr K hb
  clear hb
  go_wp2
  go_ret
  exact ⟨rfl, K⟩

/-! ### WHAT THE ROW LISTS: the sentinel -/
theorem gE : Tryd.prog.globalNamed "loop.example/g00670/impl.errUnreadable" = some 0 := by kernel_rfl
theorem tE : (Tryd.prog.globals[0]?).map (·.type) = some 90 := by kernel_rfl
theorem cellsE : Tryd.prog.cellsOf 116 = 1 := by kernel_rfl
theorem cellsS : Tryd.prog.cellsOf 9 = 1 := by kernel_rfl
theorem star : "*" ++ "errors.errorString" = "*errors.errorString" := by decide
theorem rowE (u : TypeId) (h : Tryd.prog.typeName? 3 u = some "*errors.errorString") : u = 99 :=
  typeName_ptr_named (nm := "errors.errorString") (by rw [star]; kernel_rfl) (by kernel_rfl) (by decide) u (by rw [star]; exact h)
/-- The door's own heap meets the condition. -/
theorem door_met (os : Os) (args : Array Value) : laidMetH Tryd.prog Rows.fnExactReadPacketRow.laid ((World.doorLaid Tryd.prog 28 os).forCall (fun _ _ => 0) ⟨#[], args, []⟩).memory :=
  laidMetH_of_parts3 (fuel := 8) (laidMet_of_run' 8 (by kernel_rfl) (by kernel_rfl)) (by kernel_rfl) (by kernel_rfl)

/-! ### THE ROW's STEP: WRITTEN OUT: LEAVE IT -/
set_option maxRecDepth 100000 in
theorem lifted (os : Os) (started : os.Started) (H : Type) (enc : TypeId × Value → H) :
    ReturnsInHanded {} Tryd.checked os 4 .any (fun w args => (Rows.fnExactReadPacketSpec.pre enc Tryd.prog Tryd.f4 [] false w args ∧ laidMetH Tryd.prog Rows.fnExactReadPacketRow.laid w) ∧ sizedMet enc Tryd.prog Tryd.f4 (OpenSpec.ofChange Rows.fnExactReadPacketSpec) false w args) (Rows.fnExactReadPacketSpec.post enc Tryd.prog Tryd.f4 false true false false) := by
  refine returnsInHanded_of_change_and (C := Tryd.checked) (X := fun w _ => laidMetH Tryd.prog Rows.fnExactReadPacketRow.laid w) (fun _ _ _ hh h => h.of_heap hh) own started (by kernel_rfl) Tryd.func4
    (ChangeSpec.witness_shaped (enc := enc) (C := Tryd.checked) (os := os) (X := fun w _ => laidMetH Tryd.prog Rows.fnExactReadPacketRow.laid w) false (World.doorLaid Tryd.prog 28 os) #[.slice none 0 0] 8 rfl (World.shaped_of_RefB (by kernel_rfl) (by kernel_rfl)) (by kernel_rfl) (by kernel_rfl) (by kernel_rfl) (door_met os _)) ?_
  intro W base args ds gs before hval0 hW _ _ hL _
  have hval : ∀ (j : Nat) t v, Tryd.f4.params[j]? = some t → args[j]? = some v → Value.okWide Tryd.prog W .any base t v := hval0
  have hW' := hW
  obtain ⟨p, q, hA0, hV, rfl, hfz, hnd⟩ := hW
  have hA : DataW.TrodAll enc Tryd.prog W 0 (fun _ => true) true Tryd.f4.params.toList args.toList ds p := hA0
  rw [Tryd.params4] at hA hval
  obtain ⟨v0, vs0, d0, ds0, p0, q0, hargs, rfl, rfl, h0, r0⟩ := trodAll_cons hA
  obtain ⟨rfl, rfl, rfl⟩ := trodAll_nil r0
  obtain rfl : args = #[v0] := by cases args; simp_all
  have hV1 : DataW.TrodVars enc Tryd.prog W (fun _ => true) ["loop.example/g00670/impl.errUnreadable"] gs q := hV
  have hL1 := hL
  rw [MakeChecks.laidMetH_plain _ _ _ (by kernel_rfl)] at hL1
  obtain ⟨ae, se, hve, hce, hse, hze⟩ := laid_sentinel hL1 gE tE Tryd.underlying90 rowE Tryd.underlying99 Tryd.underlying116 rfl rfl Tryd.underlying9 cellsE cellsS
  obtain ⟨rfl, rfl⟩ := hV1.unique (vars_read1 enc gE tE Tryd.underlying90 hve trivial _)
  have hE : W.cell? ⟨0, 0, none⟩ = some (.iface 99 (.pointer (some ae))) := by simpa using World.var?_cell gE hve 0
  obtain ⟨a0, len0, cap0, rfl⟩ := okWide_slice Tryd.underlying22 (hval 0 22 v0 rfl rfl)
  have k0 := h0
  have lt0 : ∀ x ∈ p0, x.block < W.heap.size := by obtain ⟨m, hm⟩ := k0; exact DataW.trod_lt m _ _ _ hm
  obtain ⟨z0, w0⟩ : ∃ zs, IsRow .u8 W a0 len0 cap0 zs := by
    obtain ⟨fuel, hf⟩ := h0
    rcases open_ints Tryd.underlying22 Tryd.underlying5 (by kernel_rfl) hf with ⟨hcs, _⟩ | ⟨x, l, c, zs, hcs, _, hl, hm, hz, _, hcell, hwz⟩
    · simp [Value.cells] at hcs
      obtain ⟨rfl, rfl, rfl⟩ := hcs
      exact ⟨[], .inl ⟨rfl, rfl, rfl, rfl⟩⟩
    · simp [Value.cells] at hcs
      obtain ⟨rfl, rfl, rfl⟩ := hcs
      exact ⟨zs, .inr ⟨_, rfl, hl, hm, by simpa using hz, hcell, hwz⟩⟩
  clear hA0 hval0
  refine (walk a0 len0 cap0 z0 W w0 _ _ hE).mono fun e W' ⟨he, bel⟩ => ?_
  subst he
  have hve2 : W'.var? Tryd.prog "loop.example/g00670/impl.errUnreadable" = some #[.iface 99 (.pointer (some ae))] := by
    have hb0 := bel.block 0 (World.block_lt_of_cell? _ _ hE)
    simpa [World.var?, gE, hb0] using hve
  exact ⟨_, rfl, _, _, _, [], _, [.cell 0 0], hW', trodAll_mk1 (shut_bool Tryd.underlying4 _), (trodAll_cons_mk (Below.trod laidOut (by kernel_rfl) (of_decide_eq_true (by kernel_rfl)) k0 bel lt0) trodAll_mk0), vars_read1 enc gE tE Tryd.underlying90 hve2 trivial _, bel.frame _, fun h => by cases h⟩

theorem over : Rows.fnExactReadPacketRow.holds Tryd.pinned (OpenSpec.ofChange Rows.fnExactReadPacketSpec) :=
  OpenClaim.holds_of_wide 4 Tryd.f4 rfl rfl rfl rfl rfl rfl rfl ⟨rfl, rfl, rfl, rfl, rfl⟩ rfl rfl rfl rfl rfl (by kernel_rfl) Tryd.func4 (by kernel_rfl)
    (of_decide_eq_true (by kernel_rfl)) (by unfold Func.isWrapper; first | (rw [if_pos (by decide +kernel)]; kernel_rfl) | (rw [if_neg (by decide +kernel)]; exact ⟨rfl, rfl⟩))
    (fun os started H enc _ => lifted os started H enc)

/-- ████ THE STATEMENT: THE TIED CARD ████ -/
theorem proved : Rows.FnExactReadPacketCardSaid :=
  Claim7.holds_tied_plain_at .later [] [.sentinel] true (true, "c4d118b3e77b0ba63057f23a4a909063bfe29afee880fc7c4e4ba8f26c7b8265") false
    over (fun _ h => by cases h) (by kernel_rfl) (fun _ h => by cases h) fnExactReadPacket_row_tie rfl ⟨rfl, rfl⟩ (by kernel_rfl) rfl
    (fun f fn hf hfn => by
      obtain rfl : f = 4 := Option.some.inj ((show Tryd.prog.funcNamed "loop.example/g00670/laws.FnExactReadPacket" = some 4 by kernel_rfl).symm.trans hf) |>.symm
      obtain rfl : fn = Tryd.f4 := (Option.some.inj (Tryd.func4.symm.trans hfn)).symm
      exact ⟨by kernel_rfl, fun j t ht => by
        rw [Tryd.params4] at ht
        have hm : t ∈ [22] := by simpa using Array.mem_of_getElem? ht
        have hall : ([22].all fun u => !Tryd.prog.wantsStandIn u) = true := by kernel_rfl
        exact (show Tryd.prog.wantsStandIn t = false by simpa using List.all_eq_true.1 hall t hm)⟩)
    (by kernel_rfl)
#print axioms proved
end Go.Proofs.YtepcikghhnfacaaDoor.fnExactReadPacket
