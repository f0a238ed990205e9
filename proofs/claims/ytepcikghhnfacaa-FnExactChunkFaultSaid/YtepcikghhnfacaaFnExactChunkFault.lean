/- At every chunk the program's ChunkFault answers as its model does, it leaves its argument as it was, and the law FnExactChunkFault answers true. -/
import Derived.Test.YtepcikghhnfacaaRows
import Derived.Test.YtepcikghhnfacaaChW
import Derived.Test.YtepcikghhnfacaaChWR
import Derived.Test.YtepcikghhnfacaaPkI
import Derived.WalkSpells
import Derived.WalkLawsBesides
import Derived.WalkKit
import Derived.ProofKit
import Derived.OpenShut
import Derived.ShutString
import Derived.ChangeOld
import Derived.Below
import Derived.Deep.Strs
namespace Go.Proofs.Ytepcikghhnfacaa.fnExactChunkFault
open Go.ChangeShapes Go.WideShapes Go.ChangeAt Go.RowKit
open Go.ChangeMaps (open_string shut_string)
set_option linter.unusedVariables false

theorem own : ownKnob Try.prog.godebug = none := by kernel_rfl
theorem laidOut : laidOutB Try.prog = true := by kernel_rfl

/-- WHAT THE WALK IS TOLD OF A SLICE OF INTEGERS THAT CAME IN: it is nil; or it leads to a row of 'cap' cells, the numbers 'zs' (the first 'len' are its elements, the rest its spare room), each fitting its kind. -/
def IsRow (k : IntKind) (w : World) (a : Option Addr) (len cap : Nat) (zs : List Int) : Prop :=
  (a = none ∧ len = 0 ∧ cap = 0 ∧ zs = []) ∨
  ∃ x, a = some x ∧ len ≤ cap ∧ cap ≤ maxLen ∧ zs.length = cap ∧ (∀ i, i < zs.length → w.cell? (x.add i) = some (.int k (zs.getD i 0))) ∧ ∀ n ∈ zs, (Lit.int k n).wf = true


set_option maxRecDepth 100000 in
set_option maxHeartbeats 4000000 in
theorem walk (kk ff : Int) (a0 : Option Addr) (len0 cap0 : Nat) (z0 : List Int) (w : World) (w0 : IsRow .u8 w a0 len0 cap0 z0) :
    Calls Try.prog 4 #[.agg #[.int .i64 kk, .int .i64 ff, .slice a0 len0 cap0]] w fun e w' => e = .returned (.bool true) ∧ Below w.heap.size w w' := by
  obtain ⟨l, rfl, hA, hl, hlc, hcap⟩ := row_bs w0
  clear w0
  have hn : (l.length : Int) ≤ 9223372036854775807 := by omega
  have K1 := Blk.new w 36 #[.int .i64 kk, .int .i64 ff, .slice a0 l.length cap0]
  have B1 := bal (Below.refl w.heap.size w) (.cells #[.int .i64 kk, .int .i64 ff, .slice a0 l.length cap0] 36)
  have A1 := bs_below hA (bal (Below.refl _ w) (.cells #[.int .i64 kk, .int .i64 ff, .slice a0 l.length cap0] 36))
  obtain ⟨w1, hw1⟩ : ∃ w1, w.alloc (.cells #[.int .i64 kk, .int .i64 ff, .slice a0 l.length cap0] 36) = w1 := ⟨_, rfl⟩
  rw [hw1] at K1 B1 A1
  have HW1 := hidH hw1
  have hsz := szL_le 1048576 l.length (Int.le_refl _)
  have SZ := hidH (fun u => szCh_any kk ff a0 l.length cap0 1048576 u (by omega) (by omega) hn)
  have FA := hidH (fun (u : World) (A : Option Addr) => chFault_spec kk ff A l l.length u hn)
  obtain ⟨z, hz⟩ : ∃ z, szL 1048576 l.length = z := ⟨_, rfl⟩
  have HZ := hidH (show 0 ≤ z → l.length ≤ 1048576 by rw [← hz]; unfold szL; split <;> omega)
  rw [hz] at SZ hsz
  unfold ckV at SZ FA
  clear hz hw1 hA hlc hcap
  go_enter Try.func4, Try.ntmps4
  go_wp2_with fail
  rw [HW1.out]
  refine (SZ.out _).mono ?_
  rintro e w2 ⟨rfl, b2⟩
  have K2 := K1.below b2
  have A2 := bs_below A1 b2
  have B2 := btr B1 b2
  clear K1 A1 B1 b2 SZ HW1
  by_cases h0 : z < 0
  · clear hsz
    go_wp2
    go_ret
    exact ⟨rfl, B2⟩
  · have h1 : 0 ≤ z := by omega
    have hm := HZ.out h1
    have c0 := K2.cell 0
    have c1 := K2.cell 1
    have c2 := K2.cell 2
    simp only [List.getElem?_toArray, List.getElem?_cons_succ, List.getElem?_cons_zero] at c0 c1 c2
    have hlt := K2.lt
    clear h0
    have TO := hidH (fun (u : World) (h : Bs u a0 l) => toCh_any kk ff a0 l cap0 u h (by omega))
    have FI := hidH (fun (u : World) (A : Option Addr) => chFault_impl kk ff A l l.length u hn)
    have EQ := hidH (fun (u : World) (A B : Option Addr) (hA : Bs u A l) (hB : Bs u B l) => eqCh_same kk ff A B l l.length l.length u hA hB hn)
    unfold ckV at TO FI EQ
    clear hl HZ hm hsz
    go_wp2_with fail
    refine (TO.out w2 A2).mono ?_
    rintro e w3 ⟨AA, rfl, OA, b3⟩
    have A3 := bs_below A2 b3
    have B3 := btr B2 b3
    have K3 := K2.below b3
    clear OA b3 A2 B2 K2 c0 c1 c2 hlt
    go_wp2_with fail
    refine (FA.out w3 AA).mono ?_
    rintro e w4 ⟨rfl, b4⟩
    have A4 := bs_below A3 b4
    have B4 := btr B3 b4
    have K4 := K3.below b4
    clear A3 B3 K3 b4 FA
    have c0 := K4.cell 0
    have c1 := K4.cell 1
    have c2 := K4.cell 2
    simp only [List.getElem?_toArray, List.getElem?_cons_succ, List.getElem?_cons_zero] at c0 c1 c2
    have hlt := K4.lt
    obtain ⟨F, hF⟩ : ∃ F, chF kk ff l = F := ⟨_, rfl⟩
    rw [hF] at FI ⊢
    clear hF
    go_wp2_with fail
    refine (TO.out w4 A4).mono ?_
    rintro e w5 ⟨AX, rfl, OX, b5⟩
    have o := bal (Below.refl w5.heap.size w5) (.cells #[.int .i64 kk, .int .i64 ff, .slice AX l.length l.length] 25)
    have X5 := Blk.new w5 25 #[.int .i64 kk, .int .i64 ff, .slice AX l.length l.length]
    have A5 := bs_below (bs_below A4 b5) o
    have S5 := bs_below OX.bs o
    have B5 := btr (btr B4 b5) o
    have K5 := (K4.below b5).below o
    clear OX b5 A4 B4 K4 c0 c1 c2 hlt o
    go_wp2_with fail
    refine (FI.out _ AX).mono ?_
    rintro e w6 ⟨rfl, b6⟩
    have A6 := bs_below A5 b6
    have S6 := bs_below S5 b6
    have B6 := btr B5 b6
    have K6 := K5.below b6
    have X6 := X5.below b6
    clear A5 S5 B5 K5 X5 b6 FI
    have hne : (F != F) = false := by rw [bne_eq_false_iff_eq]
    go_wp2_with fail
    refine wp_region_any (by kernel_rfl) ?_
    refine regEqCh _ _ _ _ _ _ _ _ _ _ _ _ _ _ _ _ _ _ _ _ w w.heap.size w5.heap.size kk ff a0 l cap0 AX TO.out EQ.out (by kernel_rfl) (by kernel_rfl) (by kernel_rfl) rfl ((EC.mk K6 X6 A6 S6 B6 : EC w w.heap.size w5.heap.size kk ff a0 l cap0 AX w6).below (Below.refl _ _).drew) ?_
    intros
    rename_i W hM
    clear K6 X6 A6 S6 B6 TO EQ
    go_wp2
    go_ret
    exact ⟨rfl, hM.old⟩

/-- An input that the row's conditions hold of: the witness laid as theorems of their own (inside the refine Lean does not come to an end). -/
def wit : Input := ⟨#[], #[.agg #[.int .i64 0, .int .i64 0, .slice none 0 0]], []⟩
theorem wit1 (os : Os) : (World.plainHolding Try.checked.prog os wit).variablesB Try.checked.prog = true := by kernel_rfl
theorem wit2 (os : Os) : ((World.plainHolding Try.checked.prog os wit).heap.toList.drop Try.checked.prog.globals.size).take ((begin Try.checked.prog (fun _ _ => 0) default).world.heap.size - Try.checked.prog.globals.size) =
    (begin Try.checked.prog (fun _ _ => 0) default).world.heap.toList.drop Try.checked.prog.globals.size := by kernel_rfl
theorem wit3 (os : Os) : Input.okWideB Try.checked.prog (World.plainHolding Try.checked.prog os wit) 4 ⟨#[], wit.args, []⟩ = true := by kernel_rfl
theorem wit4 (os : Os) (H : Type) (enc : TypeId × Value → H) : Rows.fnExactChunkFaultSpec.preB enc Try.checked.prog Try.f4 Rows.fnExactChunkFaultRow.domain false (World.plainHolding Try.checked.prog os wit).memory wit.args 8 = true := by kernel_rfl
theorem wit5 (os : Os) (H : Type) (enc : TypeId × Value → H) : Rows.fnExactChunkFaultSpec.sizedB enc Try.checked.prog Try.f4 false (World.plainHolding Try.checked.prog os wit).memory wit.args 8 = true := by kernel_rfl

/-! ### THE ROW's STEP: WRITTEN OUT: LEAVE IT -/
set_option maxRecDepth 100000 in
theorem lifted (os : Os) (started : os.Started) (H : Type) (enc : TypeId × Value → H) :
    ReturnsInHanded {} Try.checked os 4 .any (Rows.fnExactChunkFaultSpec.pre6 enc Try.prog Try.f4 Rows.fnExactChunkFaultRow.domain false) (Rows.fnExactChunkFaultSpec.post enc Try.prog Try.f4 false true false false) := by
  have hw := ChangeSpec.witness6 (enc := enc) (C := Try.checked) (fn := Try.f4) (s := Rows.fnExactChunkFaultSpec) (conds := Rows.fnExactChunkFaultRow.domain) (apart := false) false wit 8 (wit1 os) (wit2 os) (wit3 os) (wit4 os H enc) (wit5 os H enc)
  refine returnsInHanded_of_change (C := Try.checked) own started (by kernel_rfl) Try.func4 hw ?_
  intro W base args ds gs before hval0 hW hcnd _
  have hval : ∀ (j : Nat) t v, Try.f4.params[j]? = some t → args[j]? = some v → Value.okWide Try.prog W .any base t v := hval0
  have hW' := hW
  obtain ⟨p, q, hA0, hV, rfl, hfz, hnd⟩ := hW
  have hA : DataW.TrodAll enc Try.prog W 0 (fun _ => true) true Try.f4.params.toList args.toList ds p := hA0
  rw [Try.params4] at hA hval
  obtain ⟨v0, vs0, d0, ds0, p0, q0, hargs, rfl, rfl, h0, r0⟩ := trodAll_cons hA
  obtain ⟨rfl, rfl, rfl⟩ := trodAll_nil r0
  obtain rfl : args = #[v0] := by cases args; simp_all
  obtain ⟨rfl, rfl⟩ := trodVars_none hV
  obtain ⟨cs0, rfl, hsz0⟩ := okWide_struct Try.underlying36 (hval 0 36 v0 rfl rfl)
  have k0 := h0
  have lt0 : ∀ x ∈ p0, x.block < W.heap.size := by obtain ⟨m, hm⟩ := k0; exact DataW.trod_lt m _ _ _ hm
  obtain ⟨kk, ff, a0, len0, cap0, rfl, z0, w0⟩ : ∃ (kk ff : Int) (a0 : Option Addr) (len0 cap0 : Nat), cs0 = #[.int .i64 kk, .int .i64 ff, .slice a0 len0 cap0] ∧ ∃ zs, IsRow .u8 W a0 len0 cap0 zs := by
    obtain ⟨fuel, hf⟩ := h0
    have c3 : Try.prog.cellsOf 36 = 3 := by kernel_rfl
    have c1 : Try.prog.cellsOf 2 = 1 := by kernel_rfl
    have c2 : Try.prog.cellsOf 22 = 1 := by kernel_rfl
    obtain ⟨v1, v2, v3, rfl⟩ := three_of (hsz0.trans c3)
    obtain ⟨y0, y1, y2, n, _, _, t0, t1, t2⟩ := Go.Deep.trod_struct3 Try.underlying36 hf
    simp only [Value.cells, c1, c2, List.drop_zero, List.drop_succ_cons, List.take_succ_cons, List.take_zero] at t0 t1 t2
    obtain ⟨kk, hk, _⟩ := DataW.trod_int Try.underlying2 t0
    obtain ⟨ff, hf2, _⟩ := DataW.trod_int Try.underlying2 t1
    simp only [List.cons.injEq, and_true] at hk hf2
    subst hk hf2
    rcases open_ints Try.underlying22 Try.underlying5 (by kernel_rfl) t2 with ⟨hcs, _⟩ | ⟨x, l, c, zs, hcs, _, hl, hm, hz, _, hcell, hwz⟩
    · simp only [List.cons.injEq, and_true] at hcs
      subst hcs
      exact ⟨kk, ff, none, 0, 0, rfl, [], .inl ⟨rfl, rfl, rfl, rfl⟩⟩
    · simp only [List.cons.injEq, and_true] at hcs
      subst hcs
      exact ⟨kk, ff, some x, l, c, rfl, zs, .inr ⟨_, rfl, hl, hm, by simpa using hz, hcell, hwz⟩⟩
  clear hA0 hval0
  refine (walk kk ff a0 len0 cap0 z0 W w0).mono fun e W' ⟨he, bel⟩ => ?_
  subst he
  exact ⟨_, rfl, _, _, _, [], _, [], hW', trodAll_mk1 (shut_bool Try.underlying4 _), (trodAll_cons_mk (Below.trod laidOut (by kernel_rfl) (of_decide_eq_true (by kernel_rfl)) k0 bel lt0) trodAll_mk0), rfl, bel.frame _, fun h => by cases h⟩

theorem over : Rows.fnExactChunkFaultRow.holds Try.pinned (OpenSpec.ofChange Rows.fnExactChunkFaultSpec) :=
  OpenClaim.holds_of_wide 4 Try.f4 rfl rfl rfl rfl rfl rfl rfl ⟨rfl, rfl, rfl, rfl, rfl⟩ rfl rfl rfl rfl rfl (by kernel_rfl) Try.func4 (by kernel_rfl)
    (of_decide_eq_true (by kernel_rfl)) (by unfold Func.isWrapper; first | (rw [if_pos (by decide +kernel)]; kernel_rfl) | (rw [if_neg (by decide +kernel)]; exact ⟨rfl, rfl⟩))
    (fun os started H enc _ => lifted os started H enc)

/-- ████ THE STATEMENT ████ -/
theorem proved : Rows.FnExactChunkFaultSaid := over
#print axioms proved
end Go.Proofs.Ytepcikghhnfacaa.fnExactChunkFault
