/- At every key and list of chunks the program's CheckAuth answers as its model does, it leaves its arguments as they were, and the law FnExactCheckAuth answers true. -/
import Derived.Test.YtacdnednkglobaaGreatDoorRows
import Derived.Test.YtacdnednkglobaaGreatDoorCards
import Derived.Test.YtacdnednkglobaaGreatDoorTie
import Derived.SevenTiedAt
import Derived.LaidMore
import Derived.LaidLaws
import Derived.LaidHandle
import Derived.ChangeVars
import Derived.RowKitTokens
import Derived.Stop.Joined
import Derived.Stop.LaidErr
import Derived.Test.YtacdnednkglobaaGreatDoorS7Y
import Derived.Test.YtacdnednkglobaaGreatDoorUniR
import Derived.Test.YtacdnednkglobaaGreatDoorLwBytes
import Derived.WalkSpells
import Derived.WalkLawsBesides
import Derived.WalkKit
import Derived.ProofKit
import Derived.OpenShut
import Derived.ShutString
import Derived.ChangeOld
import Derived.Below
namespace Go.Proofs.YtacdnednkglobaaGreatDoor.fnExactCheckAuth
open Go.ChangeShapes Go.WideShapes Go.ChangeAt Go.RowKit
open Go.ChangeMaps (open_string shut_string)
set_option linter.unusedVariables false

theorem own : ownKnob Tryz.prog.godebug = none := by kernel_rfl
theorem laidOut : laidOutB Tryz.prog = true := by kernel_rfl

/-- WHAT THE WALK IS TOLD OF A SLICE OF INTEGERS THAT CAME IN: it is nil; or it leads to a row of 'cap' cells, the numbers 'zs' (the first 'len' are its elements, the rest its spare room), each fitting its kind. -/
def IsRow (k : IntKind) (w : World) (a : Option Addr) (len cap : Nat) (zs : List Int) : Prop :=
  (a = none ∧ len = 0 ∧ cap = 0 ∧ zs = []) ∨
  ∃ x, a = some x ∧ len ≤ cap ∧ cap ≤ maxLen ∧ zs.length = cap ∧ (∀ i, i < zs.length → w.cell? (x.add i) = some (.int k (zs.getD i 0))) ∧ ∀ n ∈ zs, (Lit.int k n).wf = true


set_option maxRecDepth 100000 in
set_option maxHeartbeats 4000000 in
theorem walk (l0 : List Int) (A0 : Option Addr) (c0 : Nat) (r1 : List ChunkM) (A1 : Option Addr) (c1 : Nat) (w : World) (w0 : Rd w (.bs l0) (.slice A0 l0.length c0) ∧ WfV (.bs l0)) (w1 : Rd w (st_Chunk r1) (.slice A1 r1.length c1) ∧ WfV (st_Chunk r1)) (ty : TypeId) (pv : Value) (hE : w.cell? ⟨0, 0, none⟩ = some (.iface ty pv)) (hG : w.cell? ⟨1, 0, none⟩ = some (.iface 231 (.agg #[.pointer (some ⟨2, 143, none⟩)]))) :
    Calls Tryz.prog 5 #[.slice A0 l0.length c0, .slice A1 r1.length c1] w fun e w' => e = .returned (.bool true) ∧ Below w.heap.size w w' := by
  obtain ⟨hr0, hwf0⟩ := w0
  obtain ⟨hr1, hwf1⟩ := w1
  have K : Below w.heap.size w w := Below.refl _ _
  by_cases hbig0 : (1048576 : Int) < (l0.length : Int)
  · go_enter Tryz.func5, Tryz.ntmps5
    go_wp2
    go_ret
    exact ⟨rfl, by exact Below.refl _ _⟩
  have ht0 : tot (.bs l0) ≤ 1048576 := by simp only [tot]; omega
  have hlen0 : (l0.length : Int) ≤ 1048576 := by omega
  clear hbig0
  have HRD0 := hidH (fun (u : World) (h : Below w.heap.size w u) => Rd.below h _ hr0)
  have HWF0 := hidH hwf0
  have HRD1 := hidH (fun (u : World) (h : Below w.heap.size w u) => Rd.below h _ hr1)
  have HWF1 := hidH hwf1
  clear hr0 hwf0 hr1 hwf1
  go_enter Tryz.func5, Tryz.ntmps5
  go_wp2_with fail
  refine (szS_Chunk r1 _ 1048576 _ (HRD1.out _ K) (by omega) (by omega)).mono ?_
  rintro e w11 ⟨z1, rfl, hz1, hb⟩
  have sz := hb.size
  try simp only [World.size_alloc] at sz
  replace K := btr K hb
  clear hb
  have HZ1 := hidH hz1
  clear hz1
  by_cases h0 : z1 < 0
  · go_wp2
    go_ret
    exact ⟨rfl, K⟩
  · have ht1 : tot (st_Chunk r1) ≤ 1048576 := by have := HZ1.out.2.2 (by omega); omega
    have hzp1 : 0 ≤ z1 := by omega
    have hzl1 : z1 ≤ 1048576 := by have := HZ1.out.2.1; omega
    clear h0
    have TO0 := hidH (fun (u : World) (h : Below w.heap.size w u) => toB_rd l0 _ u (HRD0.out u h) ht0)
    have TO1 := hidH (fun (u : World) (h : Below w.heap.size w u) => toS_Chunk r1 _ u (HRD1.out u h) ht1)
    have SP := hidH (fun (u : World) (v0 : Value) (v1 : Value) (h0 : Rd u (.bs l0) v0) (h1 : Rd u (st_Chunk r1) v1) => ca_spec l0 v0 r1 v1 u h0 HWF0.out ht0 h1 HWF1.out ht1)
    have IM := hidH (fun (u : World) (hB : Below w.heap.size w u) (v0 : Value) (v1 : Value) (h0 : Rd u (.bs l0) v0) (h1 : Rd u (st_Chunk r1) v1) => ca_impl l0 v0 r1 v1 u ty pv ((hB.cell (p := ⟨0, 0, none⟩) (World.block_lt_of_cell? _ _ hE)).trans hE) ((hB.cell (p := ⟨1, 0, none⟩) (World.block_lt_of_cell? _ _ hG)).trans hG) h0 HWF0.out ht0 h1 HWF1.out ht1)
    obtain ⟨z, hz⟩ : ∃ z, caR l0 r1 = z := ⟨_, rfl⟩
    rw [hz] at SP IM
    clear hz ht0 ht1
    clear HZ1
    go_wp2_with fail
    refine (TO0.out _ K).mono ?_
    rintro e w12 ⟨vs, rfl, Qa0, hb⟩
    obtain ⟨Ea0, ea0, rfl⟩ := Qa0.rd.bs_sh
    try simp only [World.size_alloc] at Qa0
    have sz := hb.size
    try simp only [World.size_alloc] at sz
    replace K := btr K hb
    clear hb
    go_wp2_with fail
    refine (TO1.out _ K).mono ?_
    rintro e w13 ⟨vs, rfl, Qa1, hb⟩
    obtain ⟨Ea1, ea1, rfl⟩ := st_Chunk_sh Qa1.rd
    try simp only [World.size_alloc] at Qa1
    have sz := hb.size
    try simp only [World.size_alloc] at sz
    replace Qa0 := Qa0.below hb
    replace K := btr K hb
    clear hb
    go_wp2_with fail
    refine (SP.out _ _ _ Qa0.rd Qa1.rd).mono ?_
    rintro e w14 ⟨vs, rfl, P1, hb⟩
    obtain rfl := shape_AuthResult P1.rd
    try simp only [World.size_alloc] at P1
    have sz := hb.size
    try simp only [World.size_alloc] at sz
    replace Qa0 := Qa0.below hb
    replace Qa1 := Qa1.below hb
    replace K := btr K hb
    clear hb
    have X1 := Blk.new w14 72 #[.int .i64 z.Code, .int .i64 z.KeyId, .int .i64 z.From]
    replace Qa0 := Qa0.below (bal (Below.refl _ _) (.cells #[.int .i64 z.Code, .int .i64 z.KeyId, .int .i64 z.From] 72))
    replace Qa1 := Qa1.below (bal (Below.refl _ _) (.cells #[.int .i64 z.Code, .int .i64 z.KeyId, .int .i64 z.From] 72))
    replace P1 := P1.below (bal (Below.refl _ _) (.cells #[.int .i64 z.Code, .int .i64 z.KeyId, .int .i64 z.From] 72))
    replace K := bal K (.cells #[.int .i64 z.Code, .int .i64 z.KeyId, .int .i64 z.From] 72)
    clear Qa0
    clear Qa1
    go_wp2_with fail
    refine (TO0.out _ K).mono ?_
    rintro e w15 ⟨vs, rfl, Qx0, hb⟩
    obtain ⟨Ex0, ex0, rfl⟩ := Qx0.rd.bs_sh
    try simp only [World.size_alloc] at Qx0
    have sz := hb.size
    try simp only [World.size_alloc] at sz
    replace P1 := P1.below hb
    replace X1 := X1.below hb
    replace K := btr K hb
    clear hb
    go_wp2_with fail
    refine (TO1.out _ K).mono ?_
    rintro e w16 ⟨vs, rfl, Qx1, hb⟩
    obtain ⟨Ex1, ex1, rfl⟩ := st_Chunk_sh Qx1.rd
    try simp only [World.size_alloc] at Qx1
    have sz := hb.size
    try simp only [World.size_alloc] at sz
    replace P1 := P1.below hb
    replace X1 := X1.below hb
    replace Qx0 := Qx0.below hb
    replace K := btr K hb
    clear hb
    go_wp2_with fail
    refine (IM.out _ K _ _ Qx0.rd Qx1.rd).mono ?_
    rintro e w17 ⟨vs, rfl, P2, hb⟩
    obtain rfl := shape_AuthResult P2.rd
    try simp only [World.size_alloc] at P2
    have sz := hb.size
    try simp only [World.size_alloc] at sz
    replace P1 := P1.below hb
    replace X1 := X1.below hb
    replace Qx0 := Qx0.below hb
    replace Qx1 := Qx1.below hb
    replace K := btr K hb
    clear hb
    have X2 := Blk.new w17 72 #[.int .i64 z.Code, .int .i64 z.KeyId, .int .i64 z.From]
    replace P1 := P1.below (bal (Below.refl _ _) (.cells #[.int .i64 z.Code, .int .i64 z.KeyId, .int .i64 z.From] 72))
    replace X1 := X1.alloc (.cells #[.int .i64 z.Code, .int .i64 z.KeyId, .int .i64 z.From] 72)
    replace Qx0 := Qx0.below (bal (Below.refl _ _) (.cells #[.int .i64 z.Code, .int .i64 z.KeyId, .int .i64 z.From] 72))
    replace Qx1 := Qx1.below (bal (Below.refl _ _) (.cells #[.int .i64 z.Code, .int .i64 z.KeyId, .int .i64 z.From] 72))
    replace P2 := P2.below (bal (Below.refl _ _) (.cells #[.int .i64 z.Code, .int .i64 z.KeyId, .int .i64 z.From] 72))
    replace K := bal K (.cells #[.int .i64 z.Code, .int .i64 z.KeyId, .int .i64 z.From] 72)
    have p0 := X2.cell 0
    have p1 := X2.cell 1
    have p2 := X2.cell 2
    simp only [List.getElem?_toArray, List.getElem?_cons_succ, List.getElem?_cons_zero] at p0 p1 p2
    have gp := X2.lt
    have q0 := X1.cell 0
    have q1 := X1.cell 1
    have q2 := X1.cell 2
    simp only [List.getElem?_toArray, List.getElem?_cons_succ, List.getElem?_cons_zero] at q0 q1 q2
    have gq := X1.lt
    go_wp2_with fail
    clear p0 p1 p2 gp
    clear q0 q1 q2 gq
    refine (eqA_AuthResult z P2.rd P1.rd).mono ?_
    rintro e w18 ⟨rfl, hb⟩
    have sz := hb.size
    try simp only [World.size_alloc] at sz
    replace P1 := P1.below hb
    replace X1 := X1.below hb
    replace Qx0 := Qx0.below hb
    replace Qx1 := Qx1.below hb
    replace P2 := P2.below hb
    replace X2 := X2.below hb
    replace K := btr K hb
    clear hb
    go_wp2_with fail
    refine (TO0.out _ K).mono ?_
    rintro e w19 ⟨vs, rfl, Qe0, hb⟩
    obtain ⟨Ee0, ee0, rfl⟩ := Qe0.rd.bs_sh
    try simp only [World.size_alloc] at Qe0
    have sz := hb.size
    try simp only [World.size_alloc] at sz
    replace P1 := P1.below hb
    replace X1 := X1.below hb
    replace Qx0 := Qx0.below hb
    replace Qx1 := Qx1.below hb
    replace P2 := P2.below hb
    replace X2 := X2.below hb
    replace K := btr K hb
    clear hb
    go_wp2_with fail
    refine (eqB_rd l0 _ _ _ Qx0.rd Qe0.rd).mono ?_
    rintro e w20 ⟨rfl, hb⟩
    have sz := hb.size
    try simp only [World.size_alloc] at sz
    replace P1 := P1.below hb
    replace X1 := X1.below hb
    replace Qx0 := Qx0.below hb
    replace Qx1 := Qx1.below hb
    replace P2 := P2.below hb
    replace X2 := X2.below hb
    replace Qe0 := Qe0.below hb
    replace K := btr K hb
    clear hb
    clear Qe0
    go_wp2_with fail
    refine (TO1.out _ K).mono ?_
    rintro e w21 ⟨vs, rfl, Qe1, hb⟩
    obtain ⟨Ee1, ee1, rfl⟩ := st_Chunk_sh Qe1.rd
    try simp only [World.size_alloc] at Qe1
    have sz := hb.size
    try simp only [World.size_alloc] at sz
    replace P1 := P1.below hb
    replace X1 := X1.below hb
    replace Qx0 := Qx0.below hb
    replace Qx1 := Qx1.below hb
    replace P2 := P2.below hb
    replace X2 := X2.below hb
    replace K := btr K hb
    clear hb
    go_wp2_with fail
    refine (eqS_Chunk r1 _ _ _ Qx1.rd Qe1.rd).mono ?_
    rintro e w22 ⟨rfl, hb⟩
    have sz := hb.size
    try simp only [World.size_alloc] at sz
    replace P1 := P1.below hb
    replace X1 := X1.below hb
    replace Qx0 := Qx0.below hb
    replace Qx1 := Qx1.below hb
    replace P2 := P2.below hb
    replace X2 := X2.below hb
    replace Qe1 := Qe1.below hb
    replace K := btr K hb
    clear hb
    clear Qe1
    go_wp2
    go_ret
    exact ⟨rfl, K⟩

/-! ### WHAT THE ROW LISTS: the sentinel -/
theorem gE : Tryz.prog.globalNamed "loop.example/g00670/impl.errUnreadable" = some 0 := by kernel_rfl
theorem tE : (Tryz.prog.globals[0]?).map (·.type) = some 143 := by kernel_rfl
theorem cellsE : Tryz.prog.cellsOf 297 = 1 := by kernel_rfl
theorem cellsS : Tryz.prog.cellsOf 9 = 1 := by kernel_rfl
theorem star : "*" ++ "errors.errorString" = "*errors.errorString" := by decide
theorem rowE (u : TypeId) (h : Tryz.prog.typeName? 3 u = some "*errors.errorString") : u = 272 :=
  typeName_ptr_named (nm := "errors.errorString") (by rw [star]; kernel_rfl) (by kernel_rfl) (by decide) u (by rw [star]; exact h)
theorem gT : Tryz.prog.globalNamed "errors.errorType" = some 1 := by kernel_rfl
theorem rtT : (Tryz.prog.cutTypes.find? (·.1 == "internal/reflectlite.rtype")).map (·.2) = some 231 := by kernel_rfl
theorem oneRow : ((List.range 309).filter fun t => Tryz.prog.rowNamed t [101, 114, 114, 111, 114]) = [143] := by kernel_rfl
theorem sizeT : Tryz.prog.types.size = 309 := by kernel_rfl
/-- What the condition says of the library's variable: its one cell. -/
theorem handle_of {W : World} (h : handlesMet Tryz.prog [("errors.errorType", Rows.laid_errors_errorType)] W) : W.cell? ⟨1, 0, none⟩ = some (.iface 231 (.agg #[.pointer (some ⟨2, 143, none⟩)])) := by
  obtain ⟨name, u, ty, e1, e2, e3, e4, e5⟩ := h _ (List.mem_singleton.2 rfl)
  have en : name = [101, 114, 114, 111, 114] := (Option.some.inj e1).symm
  subst en
  obtain rfl := Option.some.inj (rtT.symm.trans e2)
  have hm : ty ∈ (List.range 309).filter fun t => Tryz.prog.rowNamed t [101, 114, 114, 111, 114] := List.mem_filter.2 ⟨List.mem_range.2 (by rw [← sizeT]; exact e3), e4⟩
  rw [oneRow] at hm
  obtain rfl := List.mem_singleton.1 hm
  have hh : typeHandle Tryz.prog 143 = .pointer (some ⟨2, 143, none⟩) := by kernel_rfl
  rw [hh] at e5
  simpa using World.var?_cell gT e5 0
/-- The door's own heap meets the condition. -/
theorem door_met (os : Os) (args : Array Value) : laidMetH Tryz.prog Rows.fnExactCheckAuthRow.laid ((World.doorLaid Tryz.prog 28 os).forCall (fun _ _ => 0) ⟨#[], args, []⟩).memory :=
  laidMetH_of_parts3 (fuel := 8) (laidMet_of_run' 8 (by kernel_rfl) (by kernel_rfl)) (by kernel_rfl) (by kernel_rfl)

/-! ### THE ROW's STEP: WRITTEN OUT: LEAVE IT -/
set_option maxRecDepth 100000 in
theorem lifted (os : Os) (started : os.Started) (H : Type) (enc : TypeId × Value → H) :
    ReturnsInHanded {} Tryz.checked os 5 .any (fun w args => (Rows.fnExactCheckAuthSpec.pre enc Tryz.prog Tryz.f5 [] false w args ∧ laidMetH Tryz.prog Rows.fnExactCheckAuthRow.laid w) ∧ sizedMet enc Tryz.prog Tryz.f5 (OpenSpec.ofChange Rows.fnExactCheckAuthSpec) false w args) (Rows.fnExactCheckAuthSpec.post enc Tryz.prog Tryz.f5 false true false false) := by
  refine returnsInHanded_of_change_and (C := Tryz.checked) (X := fun w _ => laidMetH Tryz.prog Rows.fnExactCheckAuthRow.laid w) (fun _ _ _ hh h => h.of_heap hh) own started (by kernel_rfl) Tryz.func5
    (ChangeSpec.witness_shaped (enc := enc) (C := Tryz.checked) (os := os) (X := fun w _ => laidMetH Tryz.prog Rows.fnExactCheckAuthRow.laid w) false (World.doorLaid Tryz.prog 28 os) #[.slice none 0 0, .slice none 0 0] 8 rfl (World.shaped_of_RefB (by kernel_rfl) (by kernel_rfl)) (by kernel_rfl) (by kernel_rfl) (by kernel_rfl) (door_met os _)) ?_
  intro W base args ds gs before hval0 hW _ _ hL _
  have hval : ∀ (j : Nat) t v, Tryz.f5.params[j]? = some t → args[j]? = some v → Value.okWide Tryz.prog W .any base t v := hval0
  have hW' := hW
  obtain ⟨p, q, hA0, hV, rfl, hfz, hnd⟩ := hW
  have hA : DataW.TrodAll enc Tryz.prog W 0 (fun _ => true) true Tryz.f5.params.toList args.toList ds p := hA0
  rw [Tryz.params5] at hA hval
  obtain ⟨v0, vs0, d0, ds0, p0, q0, hargs, rfl, rfl, h0, r0⟩ := trodAll_cons hA
  obtain ⟨v1, vs1, d1, ds1, p1, q1, rfl, rfl, rfl, h1, r1⟩ := trodAll_cons r0
  obtain ⟨rfl, rfl, rfl⟩ := trodAll_nil r1
  obtain rfl : args = #[v0, v1] := by cases args; simp_all
  have hV1 : DataW.TrodVars enc Tryz.prog W (fun _ => true) ["loop.example/g00670/impl.errUnreadable"] gs q := hV
  have hLp : laidMet Tryz.prog [("loop.example/g00670/impl.errUnreadable", Rows.laid_loop_example_g00670_impl_errUnreadable)] W ∧ handlesMet Tryz.prog [("errors.errorType", Rows.laid_errors_errorType)] W := hL
  have hL1 := hLp.1
  obtain ⟨ae, se, hve, hce, hse, hze⟩ := laid_sentinel hL1 gE tE Tryz.underlying143 rowE Tryz.underlying272 Tryz.underlying297 rfl rfl Tryz.underlying9 cellsE cellsS
  obtain ⟨rfl, rfl⟩ := hV1.unique (vars_read1 enc gE tE Tryz.underlying143 hve trivial _)
  have hE : W.cell? ⟨0, 0, none⟩ = some (.iface 272 (.pointer (some ae))) := by simpa using World.var?_cell gE hve 0
  have hG := handle_of hLp.2
  obtain ⟨aa0, ll0, cc0, rfl⟩ := okWide_slice Tryz.underlying22 (hval 0 22 v0 rfl rfl)
  have k0 := h0
  have lt0 : ∀ x ∈ p0, x.block < W.heap.size := by obtain ⟨m, hm⟩ := k0; exact DataW.trod_lt m _ _ _ hm
  obtain ⟨lz0, Az0, cz0, ez0, w0⟩ : ∃ (l : List Int) (A : Option Addr) (c : Nat), Value.slice aa0 ll0 cc0 = .slice A l.length c ∧ Rd W (.bs l) (.slice A l.length c) ∧ WfV (.bs l) := by
    obtain ⟨fuel, hf⟩ := h0
    obtain ⟨l, hr, hw⟩ := open_bs (v := .slice aa0 ll0 cc0) hf
    obtain ⟨A, c, e⟩ := hr.bs_sh
    exact ⟨l, A, c, e, e ▸ hr, hw⟩
  obtain ⟨rfl, rfl, rfl⟩ := Value.slice.inj ez0
  obtain ⟨aa1, ll1, cc1, rfl⟩ := okWide_slice Tryz.underlying78 (hval 1 78 v1 rfl rfl)
  have k1 := h1
  have lt1 : ∀ x ∈ p1, x.block < W.heap.size := by obtain ⟨m, hm⟩ := k1; exact DataW.trod_lt m _ _ _ hm
  obtain ⟨lz1, Az1, cz1, ez1, w1⟩ : ∃ (l : List ChunkM) (A : Option Addr) (c : Nat), Value.slice aa1 ll1 cc1 = .slice A l.length c ∧ Rd W (st_Chunk l) (.slice A l.length c) ∧ WfV (st_Chunk l) := by
    obtain ⟨fuel, hf⟩ := h1
    obtain ⟨l, hr, hw⟩ := openS_Chunk (v := .slice aa1 ll1 cc1) hf
    obtain ⟨A, c, e⟩ := st_Chunk_sh hr
    exact ⟨l, A, c, e, e ▸ hr, hw⟩
  obtain ⟨rfl, rfl, rfl⟩ := Value.slice.inj ez1
  clear hA0 hval0
  refine (walk _ _ _ _ _ _ W w0 w1 _ _ hE hG).mono fun e W' ⟨he, bel⟩ => ?_
  subst he
  have hve2 : W'.var? Tryz.prog "loop.example/g00670/impl.errUnreadable" = some #[.iface 272 (.pointer (some ae))] := by
    have hb0 := bel.block 0 (World.block_lt_of_cell? _ _ hE)
    simpa [World.var?, gE, hb0] using hve
  exact ⟨_, rfl, _, _, _, [], _, [.cell 0 0], hW', trodAll_mk1 (shut_bool Tryz.underlying4 _), (trodAll_cons_mk (Below.trod laidOut (by kernel_rfl) (of_decide_eq_true (by kernel_rfl)) k0 bel lt0) (trodAll_cons_mk (Below.trod laidOut (by kernel_rfl) (of_decide_eq_true (by kernel_rfl)) k1 bel lt1) trodAll_mk0)), vars_read1 enc gE tE Tryz.underlying143 hve2 trivial _, bel.frame _, fun h => by cases h⟩

theorem over : Rows.fnExactCheckAuthRow.holds Tryz.pinned (OpenSpec.ofChange Rows.fnExactCheckAuthSpec) :=
  OpenClaim.holds_of_wide 5 Tryz.f5 rfl rfl rfl rfl rfl rfl rfl ⟨rfl, rfl, rfl, rfl, rfl⟩ rfl rfl rfl rfl rfl (by kernel_rfl) Tryz.func5 (by kernel_rfl)
    (of_decide_eq_true (by kernel_rfl)) (by unfold Func.isWrapper; first | (rw [if_pos (by decide +kernel)]; kernel_rfl) | (rw [if_neg (by decide +kernel)]; exact ⟨rfl, rfl⟩))
    (fun os started H enc _ => lifted os started H enc)

/-- ████ THE STATEMENT: THE TIED CARD ████ -/
theorem proved : Rows.FnExactCheckAuthCardSaid :=
  Claim7.holds_tied_plain_at .later [] [.handle, .sentinel] true (true, "e29ec95039d271193f46a76a80a8f4ec714a298de59a8cc56bae6e3eb593ae42") true
    over (fun _ h => by cases h) (by kernel_rfl) (fun _ h => by cases h) fnExactCheckAuth_row_tie rfl ⟨rfl, rfl⟩ (by kernel_rfl) rfl
    (fun f fn hf hfn => by
      obtain rfl : f = 5 := Option.some.inj ((show Tryz.prog.funcNamed "loop.example/g00670/laws.FnExactCheckAuth" = some 5 by kernel_rfl).symm.trans hf) |>.symm
      obtain rfl : fn = Tryz.f5 := (Option.some.inj (Tryz.func5.symm.trans hfn)).symm
      exact ⟨by kernel_rfl, fun j t ht => by
        rw [Tryz.params5] at ht
        have hm : t ∈ [22, 78] := by simpa using Array.mem_of_getElem? ht
        have hall : ([22, 78].all fun u => !Tryz.prog.wantsStandIn u) = true := by kernel_rfl
        exact (show Tryz.prog.wantsStandIn t = false by simpa using List.all_eq_true.1 hall t hm)⟩)
    (by kernel_rfl)
#print axioms proved
end Go.Proofs.YtacdnednkglobaaGreatDoor.fnExactCheckAuth
