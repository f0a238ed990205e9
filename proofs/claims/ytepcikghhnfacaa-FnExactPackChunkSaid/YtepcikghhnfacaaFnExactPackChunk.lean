/- At every chunk the program's PackChunk answers as its model does, in memory of its own, it leaves its argument as it was, and the law FnExactPackChunk answers true. -/
import Derived.Test.YtepcikghhnfacaaRows
import Derived.Test.YtepcikghhnfacaaChW
import Derived.Test.YtepcikghhnfacaaChWR
import Derived.Test.YtepcikghhnfacaaPcI
import Derived.WalkSpells
import Derived.WalkLawsBesides
import Derived.WalkKit
import Derived.ProofKit
import Derived.OpenShut
import Derived.ShutString
import Derived.ChangeOld
import Derived.Below
import Derived.Deep.Strs
namespace Go.Proofs.Ytepcikghhnfacaa.fnExactPackChunk
open Go.ChangeShapes Go.WideShapes Go.ChangeAt Go.RowKit
open Go.ChangeMaps (open_string shut_string)
set_option linter.unusedVariables false

theorem own : ownKnob Try.prog.godebug = none := by kernel_rfl
theorem laidOut : laidOutB Try.prog = true := by kernel_rfl

/-- WHAT THE WALK IS TOLD OF A SLICE OF INTEGERS THAT CAME IN: it is nil; or it leads to a row of 'cap' cells, the numbers 'zs' (the first 'len' are its elements, the rest its spare room), each fitting its kind. -/
def IsRow (k : IntKind) (w : World) (a : Option Addr) (len cap : Nat) (zs : List Int) : Prop :=
  (a = none ∧ len = 0 ∧ cap = 0 ∧ zs = []) ∨
  ∃ x, a = some x ∧ len ≤ cap ∧ cap ≤ maxLen ∧ zs.length = cap ∧ (∀ i, i < zs.length → w.cell? (x.add i) = some (.int k (zs.getD i 0))) ∧ ∀ n ∈ zs, (Lit.int k n).wf = true


set_option maxRecDepth 100000 in
set_option maxHeartbeats 4000000 in
theorem walk (kk ff : Int) (a0 : Option Addr) (len0 cap0 : Nat) (z0 : List Int) (w : World) (w0 : IsRow .u8 w a0 len0 cap0 z0) :
    Calls Try.prog 5 #[.agg #[.int .i64 kk, .int .i64 ff, .slice a0 len0 cap0]] w fun e w' => e = .returned (.bool true) ∧ Below w.heap.size w w' := by
  obtain ⟨l, rfl, hA0, hl, hlc, hcap⟩ := row_bs w0
  clear w0
  have hn : (l.length : Int) ≤ 9223372036854775807 := by omega
  have K1 := Blk.new w 36 #[.int .i64 kk, .int .i64 ff, .slice a0 l.length cap0]
  have B1 := bal (Below.refl w.heap.size w) (.cells #[.int .i64 kk, .int .i64 ff, .slice a0 l.length cap0] 36)
  obtain ⟨w1, hw1⟩ : ∃ w1, w.alloc (.cells #[.int .i64 kk, .int .i64 ff, .slice a0 l.length cap0] 36) = w1 := ⟨_, rfl⟩
  rw [hw1] at K1 B1
  have HW1 := hidH hw1
  have hsz := szL_le 1048576 l.length (Int.le_refl _)
  have SZ := hidH (fun u => szCh_any kk ff a0 l.length cap0 1048576 u (by omega) (by omega) hn)
  have SP := hidH (fun (u : World) (A : Option Addr) (h : Bs u A l) => packChunk_spec kk ff A l l.length u h hn)
  have IM := hidH (fun (u : World) (A : Option Addr) (h : Bs u A l) => packChunk_impl kk ff A l l.length u h hn)
  have hM := chM_le kk ff l
  obtain ⟨C0, hC0⟩ : ∃ C0, chF kk ff l = C0 := ⟨_, rfl⟩
  obtain ⟨M0, hM0⟩ : ∃ M0, chM kk ff l = M0 := ⟨_, rfl⟩
  rw [hC0, hM0] at SP IM
  rw [hM0] at hM
  obtain ⟨z, hz⟩ : ∃ z, szL 1048576 l.length = z := ⟨_, rfl⟩
  have HZ := hidH (show 0 ≤ z → l.length ≤ 1048576 by rw [← hz]; unfold szL; split <;> omega)
  rw [hz] at SZ hsz
  unfold ckV at SZ SP IM
  clear hz hw1 hlc hcap hC0 hM0
  go_enter Try.func5, Try.ntmps5
  go_wp2_with fail
  rw [HW1.out]
  refine (SZ.out _).mono ?_
  rintro e w12 ⟨rfl, b2⟩
  have KB := K1.below b2
  have K := btr B1 b2
  clear K1 B1 b2 SZ HW1
  by_cases h0 : z < 0
  · clear hsz
    go_wp2
    go_ret
    exact ⟨rfl, K⟩
  · have h1 : 0 ≤ z := by omega
    have hm := HZ.out h1
    have hlt := KB.lt
    have TO := hidH (fun (u : World) (h : Bs u a0 l) => toCh_any kk ff a0 l cap0 u h (by omega))
    have EQ := hidH (fun (u : World) (A B : Option Addr) (hA : Bs u A l) (hB : Bs u B l) => eqCh_same kk ff A B l l.length l.length u hA hB hn)
    unfold ckV at TO EQ
    clear hl HZ hsz h0
    obtain ⟨p3, q3, r3, z3⟩ := KB.three
    go_wp2_with fail
    clear p3 q3 r3 z3
    refine (TO.out _ (bs_below hA0 K)).mono ?_
    rintro e w13 ⟨TQa0, rfl, Qa0, hb⟩
    try simp only [World.size_alloc] at Qa0
    have sz := hb.size
    try simp only [World.size_alloc] at sz
    replace KB := KB.below hb
    replace K := btr K hb
    clear hb
    go_wp2_with fail
    refine (SP.out _ TQa0 Qa0.bs).mono ?_
    rintro e w14 ⟨A1, c1, rfl, P1, hb, h1a, h1b⟩
    try simp only [World.size_alloc] at P1
    have sz := hb.size
    try simp only [World.size_alloc] at sz
    replace KB := KB.below hb
    replace Qa0 := Qa0.below hb
    replace K := btr K hb
    clear hb
    have X1 := Blk.new w14 28 #[.int .i64 C0, .slice A1 M0.length c1]
    replace KB := KB.alloc (.cells #[.int .i64 C0, .slice A1 M0.length c1] 28)
    replace Qa0 := Qa0.below (bal (Below.refl _ _) (.cells #[.int .i64 C0, .slice A1 M0.length c1] 28))
    replace P1 := P1.below (bal (Below.refl _ _) (.cells #[.int .i64 C0, .slice A1 M0.length c1] 28))
    replace K := bal K (.cells #[.int .i64 C0, .slice A1 M0.length c1] 28)
    clear h1a
    clear Qa0
    obtain ⟨p3, q3, r3, z3⟩ := KB.three
    go_wp2_with fail
    clear p3 q3 r3 z3
    refine (TO.out _ (bs_below hA0 K)).mono ?_
    rintro e w15 ⟨TQx0, rfl, Qx0, hb⟩
    try simp only [World.size_alloc] at Qx0
    have sz := hb.size
    try simp only [World.size_alloc] at sz
    replace KB := KB.below hb
    replace P1 := P1.below hb
    replace X1 := X1.below hb
    replace K := btr K hb
    clear hb
    have XX := Blk.new w15 25 #[.int .i64 kk, .int .i64 ff, .slice TQx0 l.length l.length]
    replace KB := KB.alloc (.cells #[.int .i64 kk, .int .i64 ff, .slice TQx0 l.length l.length] 25)
    replace P1 := P1.below (bal (Below.refl _ _) (.cells #[.int .i64 kk, .int .i64 ff, .slice TQx0 l.length l.length] 25))
    replace X1 := X1.alloc (.cells #[.int .i64 kk, .int .i64 ff, .slice TQx0 l.length l.length] 25)
    replace Qx0 := Qx0.below (bal (Below.refl _ _) (.cells #[.int .i64 kk, .int .i64 ff, .slice TQx0 l.length l.length] 25))
    replace K := bal K (.cells #[.int .i64 kk, .int .i64 ff, .slice TQx0 l.length l.length] 25)
    obtain ⟨p3, q3, r3, z3⟩ := XX.three
    go_wp2_with fail
    clear p3 q3 r3 z3
    refine (IM.out _ TQx0 Qx0.bs).mono ?_
    rintro e w16 ⟨A2, c2, rfl, P2, hb, h2a, h2b⟩
    try simp only [World.size_alloc] at P2
    have sz := hb.size
    try simp only [World.size_alloc] at sz
    replace KB := KB.below hb
    replace P1 := P1.below hb
    replace X1 := X1.below hb
    replace Qx0 := Qx0.below hb
    replace XX := XX.below hb
    replace K := btr K hb
    clear hb
    have X2 := Blk.new w16 28 #[.int .i64 C0, .slice A2 M0.length c2]
    replace KB := KB.alloc (.cells #[.int .i64 C0, .slice A2 M0.length c2] 28)
    replace P1 := P1.below (bal (Below.refl _ _) (.cells #[.int .i64 C0, .slice A2 M0.length c2] 28))
    replace X1 := X1.alloc (.cells #[.int .i64 C0, .slice A2 M0.length c2] 28)
    replace Qx0 := Qx0.below (bal (Below.refl _ _) (.cells #[.int .i64 C0, .slice A2 M0.length c2] 28))
    replace XX := XX.alloc (.cells #[.int .i64 C0, .slice A2 M0.length c2] 28)
    replace P2 := P2.below (bal (Below.refl _ _) (.cells #[.int .i64 C0, .slice A2 M0.length c2] 28))
    replace K := bal K (.cells #[.int .i64 C0, .slice A2 M0.length c2] 28)
    clear h2a
    obtain ⟨p2, q2, z2⟩ := X2.two
    obtain ⟨p1, q1, z1⟩ := X1.two
    go_wp2_with fail
    clear p2 q2 z2 p1 q1 z1
    refine (eqBR_same _ _ _ _ _ _ _ P2.bs P1.bs (by omega)).mono ?_
    rintro e w17 ⟨rfl, hb⟩
    have sz := hb.size
    try simp only [World.size_alloc] at sz
    replace KB := KB.below hb
    replace P1 := P1.below hb
    replace X1 := X1.below hb
    replace Qx0 := Qx0.below hb
    replace XX := XX.below hb
    replace P2 := P2.below hb
    replace X2 := X2.below hb
    replace K := btr K hb
    clear hb
    go_wp2_with fail
    refine wp_region_any (by kernel_rfl) ?_
    refine regEqChP _ _ _ _ _ _ _ _ _ _ _ _ _ _ _ _ _ _ _ _ _ _ _ _ _ w _ _ kk ff a0 l cap0 TQx0 TO.out EQ.out (by kernel_rfl) (by kernel_rfl) (by kernel_rfl) rfl ((EC.mk KB XX (bs_below hA0 K) Qx0.bs K : EC w _ _ kk ff a0 l cap0 TQx0 _).below (Below.refl _ _).drew) (Below.refl _ _) ?_
    intros
    rename_i w18 hEC hb
    clear hEC
    replace hb := (Below.refl _ _).drew.trans hb
    have sz := hb.size
    try simp only [World.size_alloc] at sz
    replace KB := KB.below hb
    replace P1 := P1.below hb
    replace X1 := X1.below hb
    replace Qx0 := Qx0.below hb
    replace XX := XX.below hb
    replace P2 := P2.below hb
    replace X2 := X2.below hb
    replace K := btr K hb
    clear hb
    obtain ⟨p3, q3, r3, z3⟩ := XX.three
    go_wp2_with fail
    clear p3 q3 r3 z3
    refine (markCh_any _ _ kk ff _ l _ 1 _ Qx0 hn (by omega)).mono ?_
    rintro e w19 ⟨rfl, W, _⟩
    have sz := W.size
    replace KB := W.blk KB (.inl (by omega))
    replace P1 := P1.win W (.inl (by omega))
    replace X1 := W.blk X1 (.inl (by omega))
    replace XX := W.blk XX (.inr (by omega))
    replace P2 := P2.win W (.inr (by omega))
    replace X2 := W.blk X2 (.inr (by omega))
    replace K := K.trans ((W.below (by omega)).mono (by omega))
    clear W
    clear Qx0
    have kpos : ¬ (((1 + l.length : Nat) : Int) < 0) := by omega
    obtain ⟨p2, q2, z2⟩ := X2.two
    obtain ⟨p1, q1, z1⟩ := X1.two
    go_wp2_with fail
    clear p2 q2 z2 p1 q1 z1
    refine (eqBR_same _ _ _ _ _ _ _ P2.bs P1.bs (by omega)).mono ?_
    rintro e w20 ⟨rfl, hb⟩
    have sz := hb.size
    try simp only [World.size_alloc] at sz
    replace KB := KB.below hb
    replace P1 := P1.below hb
    replace X1 := X1.below hb
    replace XX := XX.below hb
    replace P2 := P2.below hb
    replace X2 := X2.below hb
    replace K := btr K hb
    clear hb
    clear kpos
    obtain ⟨p2, q2, z2⟩ := X2.two
    go_wp2_with fail
    clear p2 q2 z2
    refine (markBR_any _ _ _ _ _ _ 1 _ P2 (by omega) (by omega)).mono ?_
    rintro e w21 ⟨rfl, W, M2⟩
    have sz := W.size
    replace KB := W.blk KB (.inl (by omega))
    replace P1 := P1.win W (.inl (by omega))
    replace X1 := W.blk X1 (.inl (by omega))
    replace XX := W.blk XX (.inl (by omega))
    replace X2 := W.blk X2 (.inr (by omega))
    replace K := K.trans ((W.below (by omega)).mono (by omega))
    clear W
    clear P2
    obtain ⟨p2, q2, z2⟩ := X2.two
    go_wp2_with fail
    clear p2 q2 z2
    refine (heldBR_any _ _ _ _ 1 _ M2 (by omega)).mono ?_
    rintro e w22 ⟨rfl, hb⟩
    have sz := hb.size
    try simp only [World.size_alloc] at sz
    replace KB := KB.below hb
    replace P1 := P1.below hb
    replace X1 := X1.below hb
    replace XX := XX.below hb
    replace X2 := X2.below hb
    replace M2 := bs_below M2 hb
    replace K := btr K hb
    clear hb
    obtain ⟨p3, q3, r3, z3⟩ := KB.three
    go_wp2_with fail
    clear p3 q3 r3 z3
    refine (TO.out _ (bs_below hA0 K)).mono ?_
    rintro e w23 ⟨TQh0, rfl, Qh0, hb⟩
    try simp only [World.size_alloc] at Qh0
    have sz := hb.size
    try simp only [World.size_alloc] at sz
    replace KB := KB.below hb
    replace P1 := P1.below hb
    replace X1 := X1.below hb
    replace XX := XX.below hb
    replace X2 := X2.below hb
    replace M2 := bs_below M2 hb
    replace K := btr K hb
    clear hb
    go_wp2_with fail
    refine (IM.out _ TQh0 Qh0.bs).mono ?_
    rintro e w24 ⟨A3, c3, rfl, P3, hb, h3a, h3b⟩
    try simp only [World.size_alloc] at P3
    have sz := hb.size
    try simp only [World.size_alloc] at sz
    replace KB := KB.below hb
    replace P1 := P1.below hb
    replace X1 := X1.below hb
    replace XX := XX.below hb
    replace X2 := X2.below hb
    replace M2 := bs_below M2 hb
    replace Qh0 := Qh0.below hb
    replace K := btr K hb
    clear hb
    have X3 := Blk.new w24 28 #[.int .i64 C0, .slice A3 M0.length c3]
    replace KB := KB.alloc (.cells #[.int .i64 C0, .slice A3 M0.length c3] 28)
    replace P1 := P1.below (bal (Below.refl _ _) (.cells #[.int .i64 C0, .slice A3 M0.length c3] 28))
    replace X1 := X1.alloc (.cells #[.int .i64 C0, .slice A3 M0.length c3] 28)
    replace XX := XX.alloc (.cells #[.int .i64 C0, .slice A3 M0.length c3] 28)
    replace X2 := X2.alloc (.cells #[.int .i64 C0, .slice A3 M0.length c3] 28)
    replace M2 := bs_below M2 (bal (Below.refl _ _) (.cells #[.int .i64 C0, .slice A3 M0.length c3] 28))
    replace Qh0 := Qh0.below (bal (Below.refl _ _) (.cells #[.int .i64 C0, .slice A3 M0.length c3] 28))
    replace P3 := P3.below (bal (Below.refl _ _) (.cells #[.int .i64 C0, .slice A3 M0.length c3] 28))
    replace K := bal K (.cells #[.int .i64 C0, .slice A3 M0.length c3] 28)
    clear h3a
    clear Qh0
    obtain ⟨p3, q3, z3⟩ := X3.two
    obtain ⟨p1, q1, z1⟩ := X1.two
    go_wp2_with fail
    clear p3 q3 z3 p1 q1 z1
    refine (eqBR_same _ _ _ _ _ _ _ P3.bs P1.bs (by omega)).mono ?_
    rintro e w25 ⟨rfl, hb⟩
    have sz := hb.size
    try simp only [World.size_alloc] at sz
    replace KB := KB.below hb
    replace P1 := P1.below hb
    replace X1 := X1.below hb
    replace XX := XX.below hb
    replace X2 := X2.below hb
    replace M2 := bs_below M2 hb
    replace P3 := P3.below hb
    replace X3 := X3.below hb
    replace K := btr K hb
    clear hb
    clear P3
    clear X3
    clear P1
    clear X1
    obtain ⟨p2, q2, z2⟩ := X2.two
    go_wp2_with fail
    clear p2 q2 z2
    refine (heldBR_any _ _ _ _ 1 _ M2 (by omega)).mono ?_
    rintro e w26 ⟨rfl, hb⟩
    have sz := hb.size
    try simp only [World.size_alloc] at sz
    replace KB := KB.below hb
    replace XX := XX.below hb
    replace X2 := X2.below hb
    replace M2 := bs_below M2 hb
    replace K := btr K hb
    clear hb
    go_wp2
    go_ret
    exact ⟨rfl, K⟩

/-- An input that the row's conditions hold of: the witness laid as theorems of their own (inside the refine Lean does not come to an end). -/
def wit : Input := ⟨#[], #[.agg #[.int .i64 0, .int .i64 0, .slice none 0 0]], []⟩
theorem wit1 (os : Os) : (World.plainHolding Try.checked.prog os wit).variablesB Try.checked.prog = true := by kernel_rfl
theorem wit2 (os : Os) : ((World.plainHolding Try.checked.prog os wit).heap.toList.drop Try.checked.prog.globals.size).take ((begin Try.checked.prog (fun _ _ => 0) default).world.heap.size - Try.checked.prog.globals.size) =
    (begin Try.checked.prog (fun _ _ => 0) default).world.heap.toList.drop Try.checked.prog.globals.size := by kernel_rfl
theorem wit3 (os : Os) : Input.okWideB Try.checked.prog (World.plainHolding Try.checked.prog os wit) 5 ⟨#[], wit.args, []⟩ = true := by kernel_rfl
theorem wit4 (os : Os) (H : Type) (enc : TypeId × Value → H) : Rows.fnExactPackChunkSpec.preB enc Try.checked.prog Try.f5 Rows.fnExactPackChunkRow.domain false (World.plainHolding Try.checked.prog os wit).memory wit.args 8 = true := by kernel_rfl
theorem wit5 (os : Os) (H : Type) (enc : TypeId × Value → H) : Rows.fnExactPackChunkSpec.sizedB enc Try.checked.prog Try.f5 false (World.plainHolding Try.checked.prog os wit).memory wit.args 8 = true := by kernel_rfl

/-! ### THE ROW's STEP: WRITTEN OUT: LEAVE IT -/
set_option maxRecDepth 100000 in
theorem lifted (os : Os) (started : os.Started) (H : Type) (enc : TypeId × Value → H) :
    ReturnsInHanded {} Try.checked os 5 .any (Rows.fnExactPackChunkSpec.pre6 enc Try.prog Try.f5 Rows.fnExactPackChunkRow.domain false) (Rows.fnExactPackChunkSpec.post enc Try.prog Try.f5 false true false false) := by
  have hw := ChangeSpec.witness6 (enc := enc) (C := Try.checked) (fn := Try.f5) (s := Rows.fnExactPackChunkSpec) (conds := Rows.fnExactPackChunkRow.domain) (apart := false) false wit 8 (wit1 os) (wit2 os) (wit3 os) (wit4 os H enc) (wit5 os H enc)
  refine returnsInHanded_of_change (C := Try.checked) own started (by kernel_rfl) Try.func5 hw ?_
  intro W base args ds gs before hval0 hW hcnd _
  have hval : ∀ (j : Nat) t v, Try.f5.params[j]? = some t → args[j]? = some v → Value.okWide Try.prog W .any base t v := hval0
  have hW' := hW
  obtain ⟨p, q, hA0, hV, rfl, hfz, hnd⟩ := hW
  have hA : DataW.TrodAll enc Try.prog W 0 (fun _ => true) true Try.f5.params.toList args.toList ds p := hA0
  rw [Try.params5] at hA hval
  obtain ⟨v0, vs0, d0, ds0, p0, q0, hargs, rfl, rfl, h0, r0⟩ := trodAll_cons hA
  obtain ⟨rfl, rfl, rfl⟩ := trodAll_nil r0
  obtain rfl : args = #[v0] := by cases args; simp_all
  obtain ⟨rfl, rfl⟩ := trodVars_none hV
  obtain ⟨cs0, rfl, hsz0⟩ := okWide_struct Try.underlying36 (hval 0 36 v0 rfl rfl)
  have k0 := h0
  have lt0 : ∀ x ∈ p0, x.block < W.heap.size := by obtain ⟨m, hm⟩ := k0; exact DataW.trod_lt m _ _ _ hm
  obtain ⟨kk, ff, a0, len0, cap0, rfl, z0, w0⟩ : ∃ (kk ff : Int) (a0 : Option Addr) (len0 cap0 : Nat), cs0 = #[.int .i64 kk, .int .i64 ff, .slice a0 len0 cap0] ∧ ∃ zs, IsRow .u8 W a0 len0 cap0 zs := by
    obtain ⟨fuel, hf⟩ := h0
    have c3 : Try.prog.cellsOf 36 = 3 := by kernel_rfl
    have c1 : Try.prog.cellsOf 2 = 1 := by kernel_rfl
    have c2 : Try.prog.cellsOf 22 = 1 := by kernel_rfl
    obtain ⟨v1, v2, v3, rfl⟩ := three_of (hsz0.trans c3)
    obtain ⟨y0, y1, y2, n, _, _, t0, t1, t2⟩ := Go.Deep.trod_struct3 Try.underlying36 hf
    simp only [Value.cells, c1, c2, List.drop_zero, List.drop_succ_cons, List.take_succ_cons, List.take_zero] at t0 t1 t2
    obtain ⟨kk, hk, _⟩ := DataW.trod_int Try.underlying2 t0
    obtain ⟨ff, hf2, _⟩ := DataW.trod_int Try.underlying2 t1
    simp only [List.cons.injEq, and_true] at hk hf2
    subst hk hf2
    rcases open_ints Try.underlying22 Try.underlying5 (by kernel_rfl) t2 with ⟨hcs, _⟩ | ⟨x, l, c, zs, hcs, _, hl, hm, hz, _, hcell, hwz⟩
    · simp only [List.cons.injEq, and_true] at hcs
      subst hcs
      exact ⟨kk, ff, none, 0, 0, rfl, [], .inl ⟨rfl, rfl, rfl, rfl⟩⟩
    · simp only [List.cons.injEq, and_true] at hcs
      subst hcs
      exact ⟨kk, ff, some x, l, c, rfl, zs, .inr ⟨_, rfl, hl, hm, by simpa using hz, hcell, hwz⟩⟩
  clear hA0 hval0
  refine (walk kk ff a0 len0 cap0 z0 W w0).mono fun e W' ⟨he, bel⟩ => ?_
  subst he
  exact ⟨_, rfl, _, _, _, [], _, [], hW', trodAll_mk1 (shut_bool Try.underlying4 _), (trodAll_cons_mk (Below.trod laidOut (by kernel_rfl) (of_decide_eq_true (by kernel_rfl)) k0 bel lt0) trodAll_mk0), rfl, bel.frame _, fun h => by cases h⟩

theorem over : Rows.fnExactPackChunkRow.holds Try.pinned (OpenSpec.ofChange Rows.fnExactPackChunkSpec) :=
  OpenClaim.holds_of_wide 5 Try.f5 rfl rfl rfl rfl rfl rfl rfl ⟨rfl, rfl, rfl, rfl, rfl⟩ rfl rfl rfl rfl rfl (by kernel_rfl) Try.func5 (by kernel_rfl)
    (of_decide_eq_true (by kernel_rfl)) (by unfold Func.isWrapper; first | (rw [if_pos (by decide +kernel)]; kernel_rfl) | (rw [if_neg (by decide +kernel)]; exact ⟨rfl, rfl⟩))
    (fun os started H enc _ => lifted os started H enc)

/-- ████ THE STATEMENT ████ -/
theorem proved : Rows.FnExactPackChunkSaid := over
#print axioms proved
end Go.Proofs.Ytepcikghhnfacaa.fnExactPackChunk
