/- At every slice of bytes the program's Crc32c answers as its model does, it leaves its argument as it was, and the law FnExactCrc32c answers true. -/
import Derived.Test.YtanffpmpknmldaaRows
import Derived.Test.YtanffpmpknmldaaLawKit
import Derived.Test.YtanffpmpknmldaaCrcI
import Derived.WalkSpells
import Derived.WalkLawsBesides
import Derived.WalkKit
import Derived.ProofKit
import Derived.OpenShut
import Derived.ShutString
import Derived.ChangeOld
import Derived.Below
namespace Go.Proofs.Ytanffpmpknmldaa.fnExactCrc32c
open Go.ChangeShapes Go.WideShapes Go.ChangeAt Go.RowKit
open Go.ChangeMaps (open_string shut_string)
set_option linter.unusedVariables false

theorem own : ownKnob Try.prog.godebug = none := by kernel_rfl
theorem laidOut : laidOutB Try.prog = true := by kernel_rfl

/-- WHAT THE WALK IS TOLD OF A SLICE OF INTEGERS THAT CAME IN: it is nil; or it leads to a row of 'cap' cells, the numbers 'zs' (the first 'len' are its elements, the rest its spare room), each fitting its kind. -/
def IsRow (k : IntKind) (w : World) (a : Option Addr) (len cap : Nat) (zs : List Int) : Prop :=
  (a = none ∧ len = 0 ∧ cap = 0 ∧ zs = []) ∨
  ∃ x, a = some x ∧ len ≤ cap ∧ cap ≤ maxLen ∧ zs.length = cap ∧ (∀ i, i < zs.length → w.cell? (x.add i) = some (.int k (zs.getD i 0))) ∧ ∀ n ∈ zs, (Lit.int k n).wf = true


set_option maxRecDepth 100000 in
set_option maxHeartbeats 4000000 in
theorem walk (a0 : Option Addr) (len0 cap0 : Nat) (z0 : List Int) (w : World) (w0 : IsRow .u8 w a0 len0 cap0 z0) :
    Calls Try.prog 7 #[.slice a0 len0 cap0] w fun e w' => e = .returned (.bool true) ∧ Below w.heap.size w w' := by
  obtain ⟨l, rfl, hA0, hl0, hlc0, hcap0⟩ := row_bs w0
  clear w0
  by_cases hbig0 : (1048576 : Int) < (l.length : Int)
  · go_enter Try.func7, Try.ntmps7
    go_wp2
    go_ret
    exact ⟨rfl, Below.refl _ _⟩
  have hlen0 : (l.length : Int) ≤ 1048576 := by omega
  clear hbig0
  have K : Below w.heap.size w w := Below.refl _ _
  go_enter Try.func7, Try.ntmps7
  go_wp2_with fail
  refine (toB' _ _ _ _ (bs_below hA0 K) (by omega)).mono ?_
  rintro e w11 ⟨TQa0, rfl, Qa0, hb⟩
  try simp only [World.size_alloc] at Qa0
  have sz := hb.size
  try simp only [World.size_alloc] at sz
  replace K := btr K hb
  clear hb
  go_wp2_with fail
  refine (crc_spec _ _ _ _ Qa0.bs hl0 (by omega)).mono ?_
  rintro e w12 ⟨rfl, hb⟩
  have sz := hb.size
  try simp only [World.size_alloc] at sz
  replace Qa0 := Qa0.below hb
  replace K := btr K hb
  clear hb
  have X1 := Blk.new w12 35 #[.int .i64 (crcC l), .int .i64 (crcN l)]
  replace Qa0 := Qa0.below (bal (Below.refl _ _) (.cells #[.int .i64 (crcC l), .int .i64 (crcN l)] 35))
  replace K := bal K (.cells #[.int .i64 (crcC l), .int .i64 (crcN l)] 35)
  clear Qa0
  go_wp2_with fail
  refine (toB' _ _ _ _ (bs_below hA0 K) (by omega)).mono ?_
  rintro e w13 ⟨TQx0, rfl, Qx0, hb⟩
  try simp only [World.size_alloc] at Qx0
  have sz := hb.size
  try simp only [World.size_alloc] at sz
  replace X1 := X1.below hb
  replace K := btr K hb
  clear hb
  go_wp2_with fail
  refine (crc_impl _ _ _ _ Qx0.bs hl0 (by omega)).mono ?_
  rintro e w14 ⟨rfl, hb⟩
  have sz := hb.size
  try simp only [World.size_alloc] at sz
  replace X1 := X1.below hb
  replace Qx0 := Qx0.below hb
  replace K := btr K hb
  clear hb
  have X2 := Blk.new w14 35 #[.int .i64 (crcC l), .int .i64 (crcN l)]
  replace X1 := X1.alloc (.cells #[.int .i64 (crcC l), .int .i64 (crcN l)] 35)
  replace Qx0 := Qx0.below (bal (Below.refl _ _) (.cells #[.int .i64 (crcC l), .int .i64 (crcN l)] 35))
  replace K := bal K (.cells #[.int .i64 (crcC l), .int .i64 (crcN l)] 35)
  obtain ⟨p2, q2, z2⟩ := X2.two
  obtain ⟨p1, q1, z1⟩ := X1.two
  go_wp2_with fail
  clear p2 q2 z2 p1 q1 z1
  refine (eqIR_any _ _ _).mono ?_
  rintro e w15 ⟨rfl, hb⟩
  have sz := hb.size
  try simp only [World.size_alloc] at sz
  replace X1 := X1.below hb
  replace Qx0 := Qx0.below hb
  replace X2 := X2.below hb
  replace K := btr K hb
  clear hb
  clear X1
  clear X2
  go_wp2_with fail
  refine (toB' _ _ _ _ (bs_below hA0 K) (by omega)).mono ?_
  rintro e w16 ⟨TQe0, rfl, Qe0, hb⟩
  try simp only [World.size_alloc] at Qe0
  have sz := hb.size
  try simp only [World.size_alloc] at sz
  replace Qx0 := Qx0.below hb
  replace K := btr K hb
  clear hb
  go_wp2_with fail
  refine (eqB_same _ _ _ _ _ _ Qx0.bs Qe0.bs (by omega)).mono ?_
  rintro e w17 ⟨rfl, dd, rfl⟩
  have hb := below_drewN (Below.refl w16.heap.size w16) dd
  clear Qe0
  replace Qx0 := Qx0.below hb
  have sz := hb.size
  replace K := btr K hb
  clear hb
  clear Qx0
  go_wp2
  go_ret
  exact ⟨rfl, K⟩

/-! ### THE ROW's STEP: WRITTEN OUT: LEAVE IT -/
set_option maxRecDepth 100000 in
theorem lifted (os : Os) (started : os.Started) (H : Type) (enc : TypeId × Value → H) :
    ReturnsInHanded {} Try.checked os 7 .any (Rows.fnExactCrc32cSpec.pre6 enc Try.prog Try.f7 Rows.fnExactCrc32cRow.domain false) (Rows.fnExactCrc32cSpec.post enc Try.prog Try.f7 false true false false) := by
  refine returnsInHanded_of_change (C := Try.checked) own started (by kernel_rfl) Try.func7
    (ChangeSpec.witness6 (enc := enc) (C := Try.checked) false ⟨#[], #[.slice none 0 0], []⟩ 8 (by kernel_rfl) (by kernel_rfl) (by kernel_rfl) (by kernel_rfl)) ?_
  intro W base args ds gs before hval0 hW hcnd _
  have hval : ∀ (j : Nat) t v, Try.f7.params[j]? = some t → args[j]? = some v → Value.okWide Try.prog W .any base t v := hval0
  have hW' := hW
  obtain ⟨p, q, hA0, hV, rfl, hfz, hnd⟩ := hW
  have hA : DataW.TrodAll enc Try.prog W 0 (fun _ => true) true Try.f7.params.toList args.toList ds p := hA0
  rw [Try.params7] at hA hval
  obtain ⟨v0, vs0, d0, ds0, p0, q0, hargs, rfl, rfl, h0, r0⟩ := trodAll_cons hA
  obtain ⟨rfl, rfl, rfl⟩ := trodAll_nil r0
  obtain rfl : args = #[v0] := by cases args; simp_all
  obtain ⟨rfl, rfl⟩ := trodVars_none hV
  obtain ⟨a0, len0, cap0, rfl⟩ := okWide_slice Try.underlying22 (hval 0 22 v0 rfl rfl)
  have k0 := h0
  have lt0 : ∀ x ∈ p0, x.block < W.heap.size := by obtain ⟨m, hm⟩ := k0; exact DataW.trod_lt m _ _ _ hm
  obtain ⟨z0, w0⟩ : ∃ zs, IsRow .u8 W a0 len0 cap0 zs := by
    obtain ⟨fuel, hf⟩ := h0
    rcases open_ints Try.underlying22 Try.underlying5 (by kernel_rfl) hf with ⟨hcs, _⟩ | ⟨x, l, c, zs, hcs, _, hl, hm, hz, _, hcell, hwz⟩
    · simp [Value.cells] at hcs
      obtain ⟨rfl, rfl, rfl⟩ := hcs
      exact ⟨[], .inl ⟨rfl, rfl, rfl, rfl⟩⟩
    · simp [Value.cells] at hcs
      obtain ⟨rfl, rfl, rfl⟩ := hcs
      exact ⟨zs, .inr ⟨_, rfl, hl, hm, by simpa using hz, hcell, hwz⟩⟩
  clear hA0 hval0
  refine (walk a0 len0 cap0 z0 W w0).mono fun e W' ⟨he, bel⟩ => ?_
  subst he
  exact ⟨_, rfl, _, _, _, [], _, [], hW', trodAll_mk1 (shut_bool Try.underlying4 _), (trodAll_cons_mk (Below.trod laidOut (by kernel_rfl) (of_decide_eq_true (by kernel_rfl)) k0 bel lt0) trodAll_mk0), rfl, bel.frame _, fun h => by cases h⟩

theorem over : Rows.fnExactCrc32cRow.holds Try.pinned (OpenSpec.ofChange Rows.fnExactCrc32cSpec) :=
  OpenClaim.holds_of_wide 7 Try.f7 rfl rfl rfl rfl rfl rfl rfl ⟨rfl, rfl, rfl, rfl, rfl⟩ rfl rfl rfl rfl rfl (by kernel_rfl) Try.func7 (by kernel_rfl)
    (of_decide_eq_true (by kernel_rfl)) (by unfold Func.isWrapper; first | (rw [if_pos (by decide +kernel)]; kernel_rfl) | (rw [if_neg (by decide +kernel)]; exact ⟨rfl, rfl⟩))
    (fun os started H enc _ => lifted os started H enc)

/-- ████ THE STATEMENT ████ -/
theorem proved : Rows.FnExactCrc32cSaid := over
#print axioms proved
end Go.Proofs.Ytanffpmpknmldaa.fnExactCrc32c
