/- At every two slices of bytes the program's HmacSha answers as its model does, in memory of its own, it leaves its arguments as they were, and the law FnExactHmacSha answers true. -/
import Derived.Test.YtanffpmpknmldaaRows
import Derived.Test.YtanffpmpknmldaaLawKit
import Derived.Test.YtanffpmpknmldaaHmI
import Derived.WalkSpells
import Derived.WalkLawsBesides
import Derived.WalkKit
import Derived.ProofKit
import Derived.OpenShut
import Derived.ShutString
import Derived.ChangeOld
import Derived.Below
namespace Go.Proofs.Ytanffpmpknmldaa.fnExactHmacSha
open Go.ChangeShapes Go.WideShapes Go.ChangeAt Go.RowKit
open Go.ChangeMaps (open_string shut_string)
set_option linter.unusedVariables false

theorem own : ownKnob Try.prog.godebug = none := by kernel_rfl
theorem laidOut : laidOutB Try.prog = true := by kernel_rfl

/-- WHAT THE WALK IS TOLD OF A SLICE OF INTEGERS THAT CAME IN: it is nil; or it leads to a row of 'cap' cells, the numbers 'zs' (the first 'len' are its elements, the rest its spare room), each fitting its kind. -/
def IsRow (k : IntKind) (w : World) (a : Option Addr) (len cap : Nat) (zs : List Int) : Prop :=
  (a = none ∧ len = 0 ∧ cap = 0 ∧ zs = []) ∨
  ∃ x, a = some x ∧ len ≤ cap ∧ cap ≤ maxLen ∧ zs.length = cap ∧ (∀ i, i < zs.length → w.cell? (x.add i) = some (.int k (zs.getD i 0))) ∧ ∀ n ∈ zs, (Lit.int k n).wf = true


set_option maxRecDepth 100000 in
set_option maxHeartbeats 4000000 in
theorem walk (a0 : Option Addr) (len0 cap0 : Nat) (z0 : List Int) (a1 : Option Addr) (len1 cap1 : Nat) (z1 : List Int) (w : World) (w0 : IsRow .u8 w a0 len0 cap0 z0) (w1 : IsRow .u8 w a1 len1 cap1 z1) :
    Calls Try.prog 5 #[.slice a0 len0 cap0, .slice a1 len1 cap1] w fun e w' => e = .returned (.bool true) ∧ Below w.heap.size w w' := by
  obtain ⟨l, rfl, hA0, hl0, hlc0, hcap0⟩ := row_bs w0
  clear w0
  obtain ⟨m, rfl, hA1, hl1, hlc1, hcap1⟩ := row_bs w1
  clear w1
  by_cases hbig0 : (1048576 : Int) < (l.length : Int)
  · go_enter Try.func5, Try.ntmps5
    go_wp2
    go_ret
    exact ⟨rfl, Below.refl _ _⟩
  have hlen0 : (l.length : Int) ≤ 1048576 := by omega
  clear hbig0
  by_cases hbig1 : (1048576 : Int) < (m.length : Int)
  · go_enter Try.func5, Try.ntmps5
    go_wp2
    go_ret
    exact ⟨rfl, Below.refl _ _⟩
  have hlen1 : (m.length : Int) ≤ 1048576 := by omega
  clear hbig1
  have hM : ((hmM l m).length : Int) ≤ 100000 := hmM_le l m
  have K : Below w.heap.size w w := Below.refl _ _
  go_enter Try.func5, Try.ntmps5
  go_wp2_with fail
  refine (toB' _ _ _ _ (bs_below hA0 K) (by omega)).mono ?_
  rintro e w11 ⟨TQa0, rfl, Qa0, hb⟩
  try simp only [World.size_alloc] at Qa0
  have sz := hb.size
  try simp only [World.size_alloc] at sz
  replace K := btr K hb
  clear hb
  go_wp2_with fail
  refine (toB' _ _ _ _ (bs_below hA1 K) (by omega)).mono ?_
  rintro e w12 ⟨TQa1, rfl, Qa1, hb⟩
  try simp only [World.size_alloc] at Qa1
  have sz := hb.size
  try simp only [World.size_alloc] at sz
  replace Qa0 := Qa0.below hb
  replace K := btr K hb
  clear hb
  go_wp2_with fail
  refine (hmac_spec _ _ _ _ _ _ _ Qa0.bs Qa1.bs hl0 hl1 (by omega) (by omega)).mono ?_
  rintro e w13 ⟨A1, c1, rfl, P1, hb, h1a, h1b⟩
  try simp only [World.size_alloc] at P1
  have sz := hb.size
  try simp only [World.size_alloc] at sz
  replace Qa0 := Qa0.below hb
  replace Qa1 := Qa1.below hb
  replace K := btr K hb
  clear hb
  have X1 := Blk.new w13 27 #[.int .i64 (hmC l m), .slice A1 (hmM l m).length c1]
  replace Qa0 := Qa0.below (bal (Below.refl _ _) (.cells #[.int .i64 (hmC l m), .slice A1 (hmM l m).length c1] 27))
  replace Qa1 := Qa1.below (bal (Below.refl _ _) (.cells #[.int .i64 (hmC l m), .slice A1 (hmM l m).length c1] 27))
  replace P1 := P1.below (bal (Below.refl _ _) (.cells #[.int .i64 (hmC l m), .slice A1 (hmM l m).length c1] 27))
  replace K := bal K (.cells #[.int .i64 (hmC l m), .slice A1 (hmM l m).length c1] 27)
  clear h1a
  clear Qa0
  clear Qa1
  go_wp2_with fail
  refine (toB' _ _ _ _ (bs_below hA0 K) (by omega)).mono ?_
  rintro e w14 ⟨TQx0, rfl, Qx0, hb⟩
  try simp only [World.size_alloc] at Qx0
  have sz := hb.size
  try simp only [World.size_alloc] at sz
  replace P1 := P1.below hb
  replace X1 := X1.below hb
  replace K := btr K hb
  clear hb
  go_wp2_with fail
  refine (toB' _ _ _ _ (bs_below hA1 K) (by omega)).mono ?_
  rintro e w15 ⟨TQx1, rfl, Qx1, hb⟩
  try simp only [World.size_alloc] at Qx1
  have sz := hb.size
  try simp only [World.size_alloc] at sz
  replace P1 := P1.below hb
  replace X1 := X1.below hb
  replace Qx0 := Qx0.below hb
  replace K := btr K hb
  clear hb
  go_wp2_with fail
  refine (hmac_impl _ _ _ _ _ _ _ Qx0.bs Qx1.bs hl0 hl1 (by omega) (by omega)).mono ?_
  rintro e w16 ⟨A2, c2, rfl, P2, hb, h2a, h2b⟩
  try simp only [World.size_alloc] at P2
  have sz := hb.size
  try simp only [World.size_alloc] at sz
  replace P1 := P1.below hb
  replace X1 := X1.below hb
  replace Qx0 := Qx0.below hb
  replace Qx1 := Qx1.below hb
  replace K := btr K hb
  clear hb
  have X2 := Blk.new w16 27 #[.int .i64 (hmC l m), .slice A2 (hmM l m).length c2]
  replace P1 := P1.below (bal (Below.refl _ _) (.cells #[.int .i64 (hmC l m), .slice A2 (hmM l m).length c2] 27))
  replace X1 := X1.alloc (.cells #[.int .i64 (hmC l m), .slice A2 (hmM l m).length c2] 27)
  replace Qx0 := Qx0.below (bal (Below.refl _ _) (.cells #[.int .i64 (hmC l m), .slice A2 (hmM l m).length c2] 27))
  replace Qx1 := Qx1.below (bal (Below.refl _ _) (.cells #[.int .i64 (hmC l m), .slice A2 (hmM l m).length c2] 27))
  replace P2 := P2.below (bal (Below.refl _ _) (.cells #[.int .i64 (hmC l m), .slice A2 (hmM l m).length c2] 27))
  replace K := bal K (.cells #[.int .i64 (hmC l m), .slice A2 (hmM l m).length c2] 27)
  clear h2a
  obtain ⟨p2, q2, z2⟩ := X2.two
  obtain ⟨p1, q1, z1⟩ := X1.two
  go_wp2_with fail
  clear p2 q2 z2 p1 q1 z1
  refine (eqBR_same _ _ _ _ _ _ _ P2.bs P1.bs (by omega)).mono ?_
  rintro e w17 ⟨rfl, hb⟩
  have sz := hb.size
  try simp only [World.size_alloc] at sz
  replace P1 := P1.below hb
  replace X1 := X1.below hb
  replace Qx0 := Qx0.below hb
  replace Qx1 := Qx1.below hb
  replace P2 := P2.below hb
  replace X2 := X2.below hb
  replace K := btr K hb
  clear hb
  go_wp2_with fail
  refine (toB' _ _ _ _ (bs_below hA0 K) (by omega)).mono ?_
  rintro e w18 ⟨TQe0, rfl, Qe0, hb⟩
  try simp only [World.size_alloc] at Qe0
  have sz := hb.size
  try simp only [World.size_alloc] at sz
  replace P1 := P1.below hb
  replace X1 := X1.below hb
  replace Qx0 := Qx0.below hb
  replace Qx1 := Qx1.below hb
  replace P2 := P2.below hb
  replace X2 := X2.below hb
  replace K := btr K hb
  clear hb
  go_wp2_with fail
  refine (eqB_same _ _ _ _ _ _ Qx0.bs Qe0.bs (by omega)).mono ?_
  rintro e w19 ⟨rfl, dd, rfl⟩
  have hb := below_drewN (Below.refl w18.heap.size w18) dd
  clear Qe0
  replace P1 := P1.below hb
  replace X1 := X1.below hb
  replace Qx0 := Qx0.below hb
  replace Qx1 := Qx1.below hb
  replace P2 := P2.below hb
  replace X2 := X2.below hb
  have sz := hb.size
  replace K := btr K hb
  clear hb
  go_wp2_with fail
  refine (toB' _ _ _ _ (bs_below hA1 K) (by omega)).mono ?_
  rintro e w20 ⟨TQe1, rfl, Qe1, hb⟩
  try simp only [World.size_alloc] at Qe1
  have sz := hb.size
  try simp only [World.size_alloc] at sz
  replace P1 := P1.below hb
  replace X1 := X1.below hb
  replace Qx0 := Qx0.below hb
  replace Qx1 := Qx1.below hb
  replace P2 := P2.below hb
  replace X2 := X2.below hb
  replace K := btr K hb
  clear hb
  go_wp2_with fail
  refine (eqB_same _ _ _ _ _ _ Qx1.bs Qe1.bs (by omega)).mono ?_
  rintro e w21 ⟨rfl, dd, rfl⟩
  have hb := below_drewN (Below.refl w20.heap.size w20) dd
  clear Qe1
  replace P1 := P1.below hb
  replace X1 := X1.below hb
  replace Qx0 := Qx0.below hb
  replace Qx1 := Qx1.below hb
  replace P2 := P2.below hb
  replace X2 := X2.below hb
  have sz := hb.size
  replace K := btr K hb
  clear hb
  go_wp2_with fail
  refine (markB_any _ _ _ _ _ (1) _ Qx0 (by omega) (by omega)).mono ?_
  rintro e w22 ⟨rfl, W, _⟩
  have sz := W.size
  replace P1 := P1.win W (.inl (by omega))
  replace X1 := W.blk X1 (.inl (by omega))
  replace Qx1 := Qx1.win W (.inr (by omega))
  replace P2 := P2.win W (.inr (by omega))
  replace X2 := W.blk X2 (.inr (by omega))
  replace K := K.trans ((W.below (by omega)).mono (by omega))
  clear W
  clear Qx0
  go_wp2_with fail
  refine (markB_any _ _ _ _ _ (1 + l.length) _ Qx1 (by omega) (by omega)).mono ?_
  rintro e w23 ⟨rfl, W, _⟩
  have sz := W.size
  replace P1 := P1.win W (.inl (by omega))
  replace X1 := W.blk X1 (.inl (by omega))
  replace P2 := P2.win W (.inr (by omega))
  replace X2 := W.blk X2 (.inr (by omega))
  replace K := K.trans ((W.below (by omega)).mono (by omega))
  clear W
  clear Qx1
  have kpos : ¬ (((1 + l.length + m.length : Nat) : Int) < 0) := by omega
  obtain ⟨p2, q2, z2⟩ := X2.two
  obtain ⟨p1, q1, z1⟩ := X1.two
  go_wp2_with fail
  clear p2 q2 z2 p1 q1 z1
  refine (eqBR_same _ _ _ _ _ _ _ P2.bs P1.bs (by omega)).mono ?_
  rintro e w24 ⟨rfl, hb⟩
  have sz := hb.size
  try simp only [World.size_alloc] at sz
  replace P1 := P1.below hb
  replace X1 := X1.below hb
  replace P2 := P2.below hb
  replace X2 := X2.below hb
  replace K := btr K hb
  clear hb
  clear kpos
  obtain ⟨p2, q2, z2⟩ := X2.two
  go_wp2_with fail
  clear p2 q2 z2
  refine (markBR_any _ _ _ _ _ _ 1 _ P2 (by omega) (by omega)).mono ?_
  rintro e w25 ⟨rfl, W, M2⟩
  have sz := W.size
  replace P1 := P1.win W (.inl (by omega))
  replace X1 := W.blk X1 (.inl (by omega))
  replace X2 := W.blk X2 (.inr (by omega))
  replace K := K.trans ((W.below (by omega)).mono (by omega))
  clear W
  clear P2
  obtain ⟨p2, q2, z2⟩ := X2.two
  go_wp2_with fail
  clear p2 q2 z2
  refine (heldBR_any _ _ _ _ 1 _ M2 (by omega)).mono ?_
  rintro e w26 ⟨rfl, hb⟩
  have sz := hb.size
  try simp only [World.size_alloc] at sz
  replace P1 := P1.below hb
  replace X1 := X1.below hb
  replace X2 := X2.below hb
  replace M2 := bs_below M2 hb
  replace K := btr K hb
  clear hb
  go_wp2_with fail
  refine (toB' _ _ _ _ (bs_below hA0 K) (by omega)).mono ?_
  rintro e w27 ⟨TQh0, rfl, Qh0, hb⟩
  try simp only [World.size_alloc] at Qh0
  have sz := hb.size
  try simp only [World.size_alloc] at sz
  replace P1 := P1.below hb
  replace X1 := X1.below hb
  replace X2 := X2.below hb
  replace M2 := bs_below M2 hb
  replace K := btr K hb
  clear hb
  go_wp2_with fail
  refine (toB' _ _ _ _ (bs_below hA1 K) (by omega)).mono ?_
  rintro e w28 ⟨TQh1, rfl, Qh1, hb⟩
  try simp only [World.size_alloc] at Qh1
  have sz := hb.size
  try simp only [World.size_alloc] at sz
  replace P1 := P1.below hb
  replace X1 := X1.below hb
  replace X2 := X2.below hb
  replace M2 := bs_below M2 hb
  replace Qh0 := Qh0.below hb
  replace K := btr K hb
  clear hb
  go_wp2_with fail
  refine (hmac_impl _ _ _ _ _ _ _ Qh0.bs Qh1.bs hl0 hl1 (by omega) (by omega)).mono ?_
  rintro e w29 ⟨A3, c3, rfl, P3, hb, h3a, h3b⟩
  try simp only [World.size_alloc] at P3
  have sz := hb.size
  try simp only [World.size_alloc] at sz
  replace P1 := P1.below hb
  replace X1 := X1.below hb
  replace X2 := X2.below hb
  replace M2 := bs_below M2 hb
  replace Qh0 := Qh0.below hb
  replace Qh1 := Qh1.below hb
  replace K := btr K hb
  clear hb
  have X3 := Blk.new w29 27 #[.int .i64 (hmC l m), .slice A3 (hmM l m).length c3]
  replace P1 := P1.below (bal (Below.refl _ _) (.cells #[.int .i64 (hmC l m), .slice A3 (hmM l m).length c3] 27))
  replace X1 := X1.alloc (.cells #[.int .i64 (hmC l m), .slice A3 (hmM l m).length c3] 27)
  replace X2 := X2.alloc (.cells #[.int .i64 (hmC l m), .slice A3 (hmM l m).length c3] 27)
  replace M2 := bs_below M2 (bal (Below.refl _ _) (.cells #[.int .i64 (hmC l m), .slice A3 (hmM l m).length c3] 27))
  replace Qh0 := Qh0.below (bal (Below.refl _ _) (.cells #[.int .i64 (hmC l m), .slice A3 (hmM l m).length c3] 27))
  replace Qh1 := Qh1.below (bal (Below.refl _ _) (.cells #[.int .i64 (hmC l m), .slice A3 (hmM l m).length c3] 27))
  replace P3 := P3.below (bal (Below.refl _ _) (.cells #[.int .i64 (hmC l m), .slice A3 (hmM l m).length c3] 27))
  replace K := bal K (.cells #[.int .i64 (hmC l m), .slice A3 (hmM l m).length c3] 27)
  clear h3a
  clear Qh0
  clear Qh1
  obtain ⟨p3, q3, z3⟩ := X3.two
  obtain ⟨p1, q1, z1⟩ := X1.two
  go_wp2_with fail
  clear p3 q3 z3 p1 q1 z1
  refine (eqBR_same _ _ _ _ _ _ _ P3.bs P1.bs (by omega)).mono ?_
  rintro e w30 ⟨rfl, hb⟩
  have sz := hb.size
  try simp only [World.size_alloc] at sz
  replace P1 := P1.below hb
  replace X1 := X1.below hb
  replace X2 := X2.below hb
  replace M2 := bs_below M2 hb
  replace P3 := P3.below hb
  replace X3 := X3.below hb
  replace K := btr K hb
  clear hb
  clear P3
  clear X3
  clear P1
  clear X1
  obtain ⟨p2, q2, z2⟩ := X2.two
  go_wp2_with fail
  clear p2 q2 z2
  refine (heldBR_any _ _ _ _ 1 _ M2 (by omega)).mono ?_
  rintro e w31 ⟨rfl, hb⟩
  have sz := hb.size
  try simp only [World.size_alloc] at sz
  replace X2 := X2.below hb
  replace M2 := bs_below M2 hb
  replace K := btr K hb
  clear hb
  go_wp2
  go_ret
  exact ⟨rfl, K⟩

/-! ### THE ROW's STEP: WRITTEN OUT: LEAVE IT -/
set_option maxRecDepth 100000 in
theorem lifted (os : Os) (started : os.Started) (H : Type) (enc : TypeId × Value → H) :
    ReturnsInHanded {} Try.checked os 5 .any (Rows.fnExactHmacShaSpec.pre6 enc Try.prog Try.f5 Rows.fnExactHmacShaRow.domain false) (Rows.fnExactHmacShaSpec.post enc Try.prog Try.f5 false true false false) := by
  refine returnsInHanded_of_change (C := Try.checked) own started (by kernel_rfl) Try.func5
    (ChangeSpec.witness6 (enc := enc) (C := Try.checked) false ⟨#[], #[.slice none 0 0, .slice none 0 0], []⟩ 8 (by kernel_rfl) (by kernel_rfl) (by kernel_rfl) (by kernel_rfl)) ?_
  intro W base args ds gs before hval0 hW hcnd _
  have hval : ∀ (j : Nat) t v, Try.f5.params[j]? = some t → args[j]? = some v → Value.okWide Try.prog W .any base t v := hval0
  have hW' := hW
  obtain ⟨p, q, hA0, hV, rfl, hfz, hnd⟩ := hW
  have hA : DataW.TrodAll enc Try.prog W 0 (fun _ => true) true Try.f5.params.toList args.toList ds p := hA0
  rw [Try.params5] at hA hval
  obtain ⟨v0, vs0, d0, ds0, p0, q0, hargs, rfl, rfl, h0, r0⟩ := trodAll_cons hA
  obtain ⟨v1, vs1, d1, ds1, p1, q1, rfl, rfl, rfl, h1, r1⟩ := trodAll_cons r0
  obtain ⟨rfl, rfl, rfl⟩ := trodAll_nil r1
  obtain rfl : args = #[v0, v1] := by cases args; simp_all
  obtain ⟨rfl, rfl⟩ := trodVars_none hV
  obtain ⟨a0, len0, cap0, rfl⟩ := okWide_slice Try.underlying22 (hval 0 22 v0 rfl rfl)
  have k0 := h0
  have lt0 : ∀ x ∈ p0, x.block < W.heap.size := by obtain ⟨m, hm⟩ := k0; exact DataW.trod_lt m _ _ _ hm
  obtain ⟨z0, w0⟩ : ∃ zs, IsRow .u8 W a0 len0 cap0 zs := by
    obtain ⟨fuel, hf⟩ := h0
    rcases open_ints Try.underlying22 Try.underlying5 (by kernel_rfl) hf with ⟨hcs, _⟩ | ⟨x, l, c, zs, hcs, _, hl, hm, hz, _, hcell, hwz⟩
    · simp [Value.cells] at hcs
      obtain ⟨rfl, rfl, rfl⟩ := hcs
      exact ⟨[], .inl ⟨rfl, rfl, rfl, rfl⟩⟩
    · simp [Value.cells] at hcs
      obtain ⟨rfl, rfl, rfl⟩ := hcs
      exact ⟨zs, .inr ⟨_, rfl, hl, hm, by simpa using hz, hcell, hwz⟩⟩
  obtain ⟨a1, len1, cap1, rfl⟩ := okWide_slice Try.underlying22 (hval 1 22 v1 rfl rfl)
  have k1 := h1
  have lt1 : ∀ x ∈ p1, x.block < W.heap.size := by obtain ⟨m, hm⟩ := k1; exact DataW.trod_lt m _ _ _ hm
  obtain ⟨z1, w1⟩ : ∃ zs, IsRow .u8 W a1 len1 cap1 zs := by
    obtain ⟨fuel, hf⟩ := h1
    rcases open_ints Try.underlying22 Try.underlying5 (by kernel_rfl) hf with ⟨hcs, _⟩ | ⟨x, l, c, zs, hcs, _, hl, hm, hz, _, hcell, hwz⟩
    · simp [Value.cells] at hcs
      obtain ⟨rfl, rfl, rfl⟩ := hcs
      exact ⟨[], .inl ⟨rfl, rfl, rfl, rfl⟩⟩
    · simp [Value.cells] at hcs
      obtain ⟨rfl, rfl, rfl⟩ := hcs
      exact ⟨zs, .inr ⟨_, rfl, hl, hm, by simpa using hz, hcell, hwz⟩⟩
  clear hA0 hval0
  refine (walk a0 len0 cap0 z0 a1 len1 cap1 z1 W w0 w1).mono fun e W' ⟨he, bel⟩ => ?_
  subst he
  exact ⟨_, rfl, _, _, _, [], _, [], hW', trodAll_mk1 (shut_bool Try.underlying4 _), (trodAll_cons_mk (Below.trod laidOut (by kernel_rfl) (of_decide_eq_true (by kernel_rfl)) k0 bel lt0) (trodAll_cons_mk (Below.trod laidOut (by kernel_rfl) (of_decide_eq_true (by kernel_rfl)) k1 bel lt1) trodAll_mk0)), rfl, bel.frame _, fun h => by cases h⟩

theorem over : Rows.fnExactHmacShaRow.holds Try.pinned (OpenSpec.ofChange Rows.fnExactHmacShaSpec) :=
  OpenClaim.holds_of_wide 5 Try.f5 rfl rfl rfl rfl rfl rfl rfl ⟨rfl, rfl, rfl, rfl, rfl⟩ rfl rfl rfl rfl rfl (by kernel_rfl) Try.func5 (by kernel_rfl)
    (of_decide_eq_true (by kernel_rfl)) (by unfold Func.isWrapper; first | (rw [if_pos (by decide +kernel)]; kernel_rfl) | (rw [if_neg (by decide +kernel)]; exact ⟨rfl, rfl⟩))
    (fun os started H enc _ => lifted os started H enc)

/-- ████ THE STATEMENT ████ -/
theorem proved : Rows.FnExactHmacShaSaid := over
#print axioms proved
end Go.Proofs.Ytanffpmpknmldaa.fnExactHmacSha
