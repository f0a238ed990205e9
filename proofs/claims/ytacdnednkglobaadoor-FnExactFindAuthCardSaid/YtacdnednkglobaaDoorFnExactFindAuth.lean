/- At every list of chunks the program's FindAuth answers as its model does, it leaves its argument as it was, and the law FnExactFindAuth answers true. -/
import Derived.Test.YtacdnednkglobaaDoorRows
import Derived.Test.YtacdnednkglobaaDoorCards
import Derived.Test.YtacdnednkglobaaDoorTie
import Derived.SevenTiedAt
import Derived.LaidMore
import Derived.LaidLaws
import Derived.LaidHandle
import Derived.ChangeVars
import Derived.RowKitTokens
import Derived.Stop.Joined
import Derived.Stop.LaidErr
import Derived.Test.YtacdnednkglobaaDoorS7K
import Derived.Test.YtacdnednkglobaaDoorUniR
import Derived.Test.YtacdnednkglobaaDoorLwBytes
import Derived.WalkSpells
import Derived.WalkLawsBesides
import Derived.WalkKit
import Derived.ProofKit
import Derived.OpenShut
import Derived.ShutString
import Derived.ChangeOld
import Derived.Below
namespace Go.Proofs.YtacdnednkglobaaDoor.fnExactFindAuth
open Go.ChangeShapes Go.WideShapes Go.ChangeAt Go.RowKit
open Go.ChangeMaps (open_string shut_string)
set_option linter.unusedVariables false

theorem own : ownKnob Tryd.prog.godebug = none := by kernel_rfl
theorem laidOut : laidOutB Tryd.prog = true := by kernel_rfl

/-- WHAT THE WALK IS TOLD OF A SLICE OF INTEGERS THAT CAME IN: it is nil; or it leads to a row of 'cap' cells, the numbers 'zs' (the first 'len' are its elements, the rest its spare room), each fitting its kind. -/
def IsRow (k : IntKind) (w : World) (a : Option Addr) (len cap : Nat) (zs : List Int) : Prop :=
  (a = none ∧ len = 0 ∧ cap = 0 ∧ zs = []) ∨
  ∃ x, a = some x ∧ len ≤ cap ∧ cap ≤ maxLen ∧ zs.length = cap ∧ (∀ i, i < zs.length → w.cell? (x.add i) = some (.int k (zs.getD i 0))) ∧ ∀ n ∈ zs, (Lit.int k n).wf = true


set_option maxRecDepth 100000 in
set_option maxHeartbeats 4000000 in
theorem walk (r0 : List ChunkM) (A0 : Option Addr) (c0 : Nat) (w : World) (w0 : Rd w (st_Chunk r0) (.slice A0 r0.length c0) ∧ WfV (st_Chunk r0)) (ty : TypeId) (pv : Value) (hE : w.cell? ⟨0, 0, none⟩ = some (.iface ty pv)) (hG : w.cell? ⟨1, 0, none⟩ = some (.iface 187 (.agg #[.pointer (some ⟨2, 132, none⟩)]))) :
    Calls Tryd.prog 5 #[.slice A0 r0.length c0] w fun e w' => e = .returned (.bool true) ∧ Below w.heap.size w w' := by
  obtain ⟨hr0, hwf0⟩ := w0
  have K : Below w.heap.size w w := Below.refl _ _
  have HRD0 := hidH (fun (u : World) (h : Below w.heap.size w u) => Rd.below h _ hr0)
  have HWF0 := hidH hwf0
  clear hr0 hwf0
  go_enter Tryd.func5, Tryd.ntmps5
  go_wp2_with fail
  refine (szS_Chunk r0 _ 1048576 _ (HRD0.out _ K) (by omega) (by omega)).mono ?_
  rintro e w11 ⟨z0, rfl, hz0, hb⟩
  have sz := hb.size
  try simp only [World.size_alloc] at sz
  replace K := btr K hb
  clear hb
  have HZ0 := hidH hz0
  clear hz0
  by_cases h0 : z0 < 0
  · go_wp2
    go_ret
    exact ⟨rfl, K⟩
  · have ht0 : tot (st_Chunk r0) ≤ 1048576 := by have := HZ0.out.2.2 (by omega); omega
    have hzp0 : 0 ≤ z0 := by omega
    have hzl0 : z0 ≤ 1048576 := by have := HZ0.out.2.1; omega
    clear h0
    have TO0 := hidH (fun (u : World) (h : Below w.heap.size w u) => toS_Chunk r0 _ u (HRD0.out u h) ht0)
    have SP := hidH (fun (u : World) (v0 : Value) (h0 : Rd u (st_Chunk r0) v0) => fa_specW r0 v0 u h0 HWF0.out ht0)
    have IM := hidH (fun (u : World) (hB : Below w.heap.size w u) (v0 : Value) (h0 : Rd u (st_Chunk r0) v0) => fa_implW r0 v0 u ty pv ((hB.cell (p := ⟨0, 0, none⟩) (World.block_lt_of_cell? _ _ hE)).trans hE) ((hB.cell (p := ⟨1, 0, none⟩) (World.block_lt_of_cell? _ _ hG)).trans hG) h0 HWF0.out ht0)
    obtain ⟨z, hz⟩ : ∃ z, faR r0 = z := ⟨_, rfl⟩
    rw [hz] at SP IM
    clear hz ht0
    clear HZ0
    go_wp2_with fail
    refine (TO0.out _ K).mono ?_
    rintro e w12 ⟨vs, rfl, Qa0, hb⟩
    obtain ⟨Ea0, ea0, rfl⟩ := st_Chunk_sh Qa0.rd
    try simp only [World.size_alloc] at Qa0
    have sz := hb.size
    try simp only [World.size_alloc] at sz
    replace K := btr K hb
    clear hb
    go_wp2_with fail
    refine (SP.out _ _ Qa0.rd).mono ?_
    rintro e w13 ⟨vs, rfl, P1, hb⟩
    obtain rfl := shape_AuthResult P1.rd
    try simp only [World.size_alloc] at P1
    have sz := hb.size
    try simp only [World.size_alloc] at sz
    replace Qa0 := Qa0.below hb
    replace K := btr K hb
    clear hb
    have X1 := Blk.new w13 77 #[.int .i64 z.Code, .int .i64 z.KeyId, .int .i64 z.From]
    replace Qa0 := Qa0.below (bal (Below.refl _ _) (.cells #[.int .i64 z.Code, .int .i64 z.KeyId, .int .i64 z.From] 77))
    replace P1 := P1.below (bal (Below.refl _ _) (.cells #[.int .i64 z.Code, .int .i64 z.KeyId, .int .i64 z.From] 77))
    replace K := bal K (.cells #[.int .i64 z.Code, .int .i64 z.KeyId, .int .i64 z.From] 77)
    clear Qa0
    go_wp2_with fail
    refine (TO0.out _ K).mono ?_
    rintro e w14 ⟨vs, rfl, Qx0, hb⟩
    obtain ⟨Ex0, ex0, rfl⟩ := st_Chunk_sh Qx0.rd
    try simp only [World.size_alloc] at Qx0
    have sz := hb.size
    try simp only [World.size_alloc] at sz
    replace P1 := P1.below hb
    replace X1 := X1.below hb
    replace K := btr K hb
    clear hb
    go_wp2_with fail
    refine (IM.out _ K _ Qx0.rd).mono ?_
    rintro e w15 ⟨vs, rfl, P2, hb⟩
    obtain rfl := shape_AuthResult P2.rd
    try simp only [World.size_alloc] at P2
    have sz := hb.size
    try simp only [World.size_alloc] at sz
    replace P1 := P1.below hb
    replace X1 := X1.below hb
    replace Qx0 := Qx0.below hb
    replace K := btr K hb
    clear hb
    have X2 := Blk.new w15 77 #[.int .i64 z.Code, .int .i64 z.KeyId, .int .i64 z.From]
    replace P1 := P1.below (bal (Below.refl _ _) (.cells #[.int .i64 z.Code, .int .i64 z.KeyId, .int .i64 z.From] 77))
    replace X1 := X1.alloc (.cells #[.int .i64 z.Code, .int .i64 z.KeyId, .int .i64 z.From] 77)
    replace Qx0 := Qx0.below (bal (Below.refl _ _) (.cells #[.int .i64 z.Code, .int .i64 z.KeyId, .int .i64 z.From] 77))
    replace P2 := P2.below (bal (Below.refl _ _) (.cells #[.int .i64 z.Code, .int .i64 z.KeyId, .int .i64 z.From] 77))
    replace K := bal K (.cells #[.int .i64 z.Code, .int .i64 z.KeyId, .int .i64 z.From] 77)
    have p0 := X2.cell 0
    have p1 := X2.cell 1
    have p2 := X2.cell 2
    simp only [List.getElem?_toArray, List.getElem?_cons_succ, List.getElem?_cons_zero] at p0 p1 p2
    have gp := X2.lt
    have q0 := X1.cell 0
    have q1 := X1.cell 1
    have q2 := X1.cell 2
    simp only [List.getElem?_toArray, List.getElem?_cons_succ, List.getElem?_cons_zero] at q0 q1 q2
    have gq := X1.lt
    go_wp2_with fail
    clear p0 p1 p2 gp
    clear q0 q1 q2 gq
    refine (eqA_AuthResult z P2.rd P1.rd).mono ?_
    rintro e w16 ⟨rfl, hb⟩
    have sz := hb.size
    try simp only [World.size_alloc] at sz
    replace P1 := P1.below hb
    replace X1 := X1.below hb
    replace Qx0 := Qx0.below hb
    replace P2 := P2.below hb
    replace X2 := X2.below hb
    replace K := btr K hb
    clear hb
    go_wp2_with fail
    refine (TO0.out _ K).mono ?_
    rintro e w17 ⟨vs, rfl, Qe0, hb⟩
    obtain ⟨Ee0, ee0, rfl⟩ := st_Chunk_sh Qe0.rd
    try simp only [World.size_alloc] at Qe0
    have sz := hb.size
    try simp only [World.size_alloc] at sz
    replace P1 := P1.below hb
    replace X1 := X1.below hb
    replace Qx0 := Qx0.below hb
    replace P2 := P2.below hb
    replace X2 := X2.below hb
    replace K := btr K hb
    clear hb
    go_wp2_with fail
    refine (eqS_Chunk r0 _ _ _ Qx0.rd Qe0.rd).mono ?_
    rintro e w18 ⟨rfl, hb⟩
    have sz := hb.size
    try simp only [World.size_alloc] at sz
    replace P1 := P1.below hb
    replace X1 := X1.below hb
    replace Qx0 := Qx0.below hb
    replace P2 := P2.below hb
    replace X2 := X2.below hb
    replace Qe0 := Qe0.below hb
    replace K := btr K hb
    clear hb
    clear Qe0
    go_wp2
    go_ret
    exact ⟨rfl, K⟩

/-! ### WHAT THE ROW LISTS: the sentinel -/
theorem gE : Tryd.prog.globalNamed "loop.example/g00670/impl.errUnreadable" = some 0 := by kernel_rfl
theorem tE : (Tryd.prog.globals[0]?).map (·.type) = some 132 := by kernel_rfl
theorem cellsE : Tryd.prog.cellsOf 235 = 1 := by kernel_rfl
theorem cellsS : Tryd.prog.cellsOf 9 = 1 := by kernel_rfl
theorem star : "*" ++ "errors.errorString" = "*errors.errorString" := by decide
theorem rowE (u : TypeId) (h : Tryd.prog.typeName? 3 u = some "*errors.errorString") : u = 206 :=
  typeName_ptr_named (nm := "errors.errorString") (by rw [star]; kernel_rfl) (by kernel_rfl) (by decide) u (by rw [star]; exact h)
theorem gT : Tryd.prog.globalNamed "errors.errorType" = some 1 := by kernel_rfl
theorem rtT : (Tryd.prog.cutTypes.find? (·.1 == "internal/reflectlite.rtype")).map (·.2) = some 187 := by kernel_rfl
theorem oneRow : ((List.range 247).filter fun t => Tryd.prog.rowNamed t [101, 114, 114, 111, 114]) = [132] := by kernel_rfl
theorem sizeT : Tryd.prog.types.size = 247 := by kernel_rfl
/-- What the condition says of the library's variable: its one cell. -/
theorem handle_of {W : World} (h : handlesMet Tryd.prog [("errors.errorType", Rows.laid_errors_errorType)] W) : W.cell? ⟨1, 0, none⟩ = some (.iface 187 (.agg #[.pointer (some ⟨2, 132, none⟩)])) := by
  obtain ⟨name, u, ty, e1, e2, e3, e4, e5⟩ := h _ (List.mem_singleton.2 rfl)
  have en : name = [101, 114, 114, 111, 114] := (Option.some.inj e1).symm
  subst en
  obtain rfl := Option.some.inj (rtT.symm.trans e2)
  have hm : ty ∈ (List.range 247).filter fun t => Tryd.prog.rowNamed t [101, 114, 114, 111, 114] := List.mem_filter.2 ⟨List.mem_range.2 (by rw [← sizeT]; exact e3), e4⟩
  rw [oneRow] at hm
  obtain rfl := List.mem_singleton.1 hm
  have hh : typeHandle Tryd.prog 132 = .pointer (some ⟨2, 132, none⟩) := by kernel_rfl
  rw [hh] at e5
  simpa using World.var?_cell gT e5 0
/-- The door's own heap meets the condition. -/
theorem door_met (os : Os) (args : Array Value) : laidMetH Tryd.prog Rows.fnExactFindAuthRow.laid ((World.doorLaid Tryd.prog 28 os).forCall (fun _ _ => 0) ⟨#[], args, []⟩).memory :=
  laidMetH_of_parts3 (fuel := 8) (laidMet_of_run' 8 (by kernel_rfl) (by kernel_rfl)) (by kernel_rfl) (by kernel_rfl)

/-! ### THE ROW's STEP: WRITTEN OUT: LEAVE IT -/
set_option maxRecDepth 100000 in
theorem lifted (os : Os) (started : os.Started) (H : Type) (enc : TypeId × Value → H) :
    ReturnsInHanded {} Tryd.checked os 5 .any (fun w args => (Rows.fnExactFindAuthSpec.pre enc Tryd.prog Tryd.f5 [] false w args ∧ laidMetH Tryd.prog Rows.fnExactFindAuthRow.laid w) ∧ sizedMet enc Tryd.prog Tryd.f5 (OpenSpec.ofChange Rows.fnExactFindAuthSpec) false w args) (Rows.fnExactFindAuthSpec.post enc Tryd.prog Tryd.f5 false true false false) := by
  refine returnsInHanded_of_change_and (C := Tryd.checked) (X := fun w _ => laidMetH Tryd.prog Rows.fnExactFindAuthRow.laid w) (fun _ _ _ hh h => h.of_heap hh) own started (by kernel_rfl) Tryd.func5
    (ChangeSpec.witness_shaped (enc := enc) (C := Tryd.checked) (os := os) (X := fun w _ => laidMetH Tryd.prog Rows.fnExactFindAuthRow.laid w) false (World.doorLaid Tryd.prog 28 os) #[.slice none 0 0] 8 rfl (World.shaped_of_RefB (by kernel_rfl) (by kernel_rfl)) (by kernel_rfl) (by kernel_rfl) (by kernel_rfl) (door_met os _)) ?_
  intro W base args ds gs before hval0 hW _ _ hL _
  have hval : ∀ (j : Nat) t v, Tryd.f5.params[j]? = some t → args[j]? = some v → Value.okWide Tryd.prog W .any base t v := hval0
  have hW' := hW
  obtain ⟨p, q, hA0, hV, rfl, hfz, hnd⟩ := hW
  have hA : DataW.TrodAll enc Tryd.prog W 0 (fun _ => true) true Tryd.f5.params.toList args.toList ds p := hA0
  rw [Tryd.params5] at hA hval
  obtain ⟨v0, vs0, d0, ds0, p0, q0, hargs, rfl, rfl, h0, r0⟩ := trodAll_cons hA
  obtain ⟨rfl, rfl, rfl⟩ := trodAll_nil r0
  obtain rfl : args = #[v0] := by cases args; simp_all
  have hV1 : DataW.TrodVars enc Tryd.prog W (fun _ => true) ["loop.example/g00670/impl.errUnreadable"] gs q := hV
  have hLp : laidMet Tryd.prog [("loop.example/g00670/impl.errUnreadable", Rows.laid_loop_example_g00670_impl_errUnreadable)] W ∧ handlesMet Tryd.prog [("errors.errorType", Rows.laid_errors_errorType)] W := hL
  have hL1 := hLp.1
  obtain ⟨ae, se, hve, hce, hse, hze⟩ := laid_sentinel hL1 gE tE Tryd.underlying132 rowE Tryd.underlying206 Tryd.underlying235 rfl rfl Tryd.underlying9 cellsE cellsS
  obtain ⟨rfl, rfl⟩ := hV1.unique (vars_read1 enc gE tE Tryd.underlying132 hve trivial _)
  have hE : W.cell? ⟨0, 0, none⟩ = some (.iface 206 (.pointer (some ae))) := by simpa using World.var?_cell gE hve 0
  have hG := handle_of hLp.2
  obtain ⟨aa0, ll0, cc0, rfl⟩ := okWide_slice Tryd.underlying74 (hval 0 74 v0 rfl rfl)
  have k0 := h0
  have lt0 : ∀ x ∈ p0, x.block < W.heap.size := by obtain ⟨m, hm⟩ := k0; exact DataW.trod_lt m _ _ _ hm
  obtain ⟨lz0, Az0, cz0, ez0, w0⟩ : ∃ (l : List ChunkM) (A : Option Addr) (c : Nat), Value.slice aa0 ll0 cc0 = .slice A l.length c ∧ Rd W (st_Chunk l) (.slice A l.length c) ∧ WfV (st_Chunk l) := by
    obtain ⟨fuel, hf⟩ := h0
    obtain ⟨l, hr, hw⟩ := openS_Chunk (v := .slice aa0 ll0 cc0) hf
    obtain ⟨A, c, e⟩ := st_Chunk_sh hr
    exact ⟨l, A, c, e, e ▸ hr, hw⟩
  obtain ⟨rfl, rfl, rfl⟩ := Value.slice.inj ez0
  clear hA0 hval0
  refine (walk _ _ _ W w0 _ _ hE hG).mono fun e W' ⟨he, bel⟩ => ?_
  subst he
  have hve2 : W'.var? Tryd.prog "loop.example/g00670/impl.errUnreadable" = some #[.iface 206 (.pointer (some ae))] := by
    have hb0 := bel.block 0 (World.block_lt_of_cell? _ _ hE)
    simpa [World.var?, gE, hb0] using hve
  exact ⟨_, rfl, _, _, _, [], _, [.cell 0 0], hW', trodAll_mk1 (shut_bool Tryd.underlying4 _), (trodAll_cons_mk (Below.trod laidOut (by kernel_rfl) (of_decide_eq_true (by kernel_rfl)) k0 bel lt0) trodAll_mk0), vars_read1 enc gE tE Tryd.underlying132 hve2 trivial _, bel.frame _, fun h => by cases h⟩

theorem over : Rows.fnExactFindAuthRow.holds Tryd.pinned (OpenSpec.ofChange Rows.fnExactFindAuthSpec) :=
  OpenClaim.holds_of_wide 5 Tryd.f5 rfl rfl rfl rfl rfl rfl rfl ⟨rfl, rfl, rfl, rfl, rfl⟩ rfl rfl rfl rfl rfl (by kernel_rfl) Tryd.func5 (by kernel_rfl)
    (of_decide_eq_true (by kernel_rfl)) (by unfold Func.isWrapper; first | (rw [if_pos (by decide +kernel)]; kernel_rfl) | (rw [if_neg (by decide +kernel)]; exact ⟨rfl, rfl⟩))
    (fun os started H enc _ => lifted os started H enc)

/-- ████ THE STATEMENT: THE TIED CARD ████ -/
theorem proved : Rows.FnExactFindAuthCardSaid :=
  Claim7.holds_tied_plain_at .later [] [.handle, .sentinel] true (true, "578a2ac04b28ce0e45d886e019fb0e497772495aac7bc42b184bf6c9ef499582") true
    over (fun _ h => by cases h) (by kernel_rfl) (fun _ h => by cases h) fnExactFindAuth_row_tie rfl ⟨rfl, rfl⟩ (by kernel_rfl) rfl
    (fun f fn hf hfn => by
      obtain rfl : f = 5 := Option.some.inj ((show Tryd.prog.funcNamed "loop.example/g00670/laws.FnExactFindAuth" = some 5 by kernel_rfl).symm.trans hf) |>.symm
      obtain rfl : fn = Tryd.f5 := (Option.some.inj (Tryd.func5.symm.trans hfn)).symm
      exact ⟨by kernel_rfl, fun j t ht => by
        rw [Tryd.params5] at ht
        have hm : t ∈ [74] := by simpa using Array.mem_of_getElem? ht
        have hall : ([74].all fun u => !Tryd.prog.wantsStandIn u) = true := by kernel_rfl
        exact (show Tryd.prog.wantsStandIn t = false by simpa using List.all_eq_true.1 hall t hm)⟩)
    (by kernel_rfl)
#print axioms proved
end Go.Proofs.YtacdnednkglobaaDoor.fnExactFindAuth
