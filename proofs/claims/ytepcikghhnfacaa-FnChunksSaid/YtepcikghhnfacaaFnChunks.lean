/- At every slice of bytes the law FnChunks answers true. -/
import Derived.Test.YtepcikghhnfacaaRows
import Derived.Test.YtepcikghhnfacaaFcR
import Derived.Test.YtepcikghhnfacaaPcI
import Derived.Test.YtepcikghhnfacaaChW
import Derived.Test.YtepcikghhnfacaaDrawCk
import Derived.Test.YtepcikghhnfacaaLaw1
import Derived.Test.YtepcikghhnfacaaSlB
import Derived.WalkSpells
import Derived.WalkLawsBesides
import Derived.WalkKit
import Derived.ProofKit
import Derived.OpenShut
import Derived.ShutString
import Derived.ChangeOld
import Derived.Below
namespace Go.Proofs.Ytepcikghhnfacaa.fnChunks
open Go.ChangeShapes Go.WideShapes Go.ChangeAt Go.RowKit
open Go.ChangeMaps (open_string shut_string)
set_option linter.unusedVariables false

theorem own : ownKnob Try.prog.godebug = none := by kernel_rfl
theorem laidOut : laidOutB Try.prog = true := by kernel_rfl

/-- WHAT THE WALK IS TOLD OF A SLICE OF INTEGERS THAT CAME IN: it is nil; or it leads to a row of 'cap' cells, the numbers 'zs' (the first 'len' are its elements, the rest its spare room), each fitting its kind. -/
def IsRow (k : IntKind) (w : World) (a : Option Addr) (len cap : Nat) (zs : List Int) : Prop :=
  (a = none ∧ len = 0 ∧ cap = 0 ∧ zs = []) ∨
  ∃ x, a = some x ∧ len ≤ cap ∧ cap ≤ maxLen ∧ zs.length = cap ∧ (∀ i, i < zs.length → w.cell? (x.add i) = some (.int k (zs.getD i 0))) ∧ ∀ n ∈ zs, (Lit.int k n).wf = true

theorem chL_get0 (k f : Int) (b : List Int) : (chL k f b).getD 0 0 = k ∧ (chL k f b).getD 1 0 = f ∧ (chL k f b).getD 2 0 = ((b.length : Int) + 4) / 256 ∧ (chL k f b).getD 3 0 = ((b.length : Int) + 4) % 256 := ⟨rfl, rfl, rfl, rfl⟩
theorem chL_body (k f : Int) (b : List Int) (j : Nat) (hj : j < b.length) : (chL k f b).getD (4 + j) 0 = b.getD j 0 := by
  have e : chL k f b = k :: f :: (((b.length : Int) + 4) / 256) :: (((b.length : Int) + 4) % 256) :: (b ++ List.replicate (chPad b.length) 0) := by simp [chL]
  rw [e, show 4 + j = j + 1 + 1 + 1 + 1 by omega]
  simp only [List.getD_cons_succ]
  simp only [List.getD_eq_getElem?_getD]
  rw [List.getElem?_append_left hj]
theorem chL_tail (k f : Int) (b : List Int) (j : Nat) (hj : 4 + b.length ≤ j) : (chL k f b).getD j 0 = 0 := by
  have e : chL k f b = k :: f :: (((b.length : Int) + 4) / 256) :: (((b.length : Int) + 4) % 256) :: (b ++ List.replicate (chPad b.length) 0) := by simp [chL]
  obtain ⟨i, rfl⟩ : ∃ i, j = i + 1 + 1 + 1 + 1 := ⟨j - 4, by omega⟩
  rw [e]
  simp only [List.getD_cons_succ]
  simp only [List.getD_eq_getElem?_getD]
  rw [List.getElem?_append_right (by omega), List.getElem?_replicate]
  split <;> rfl

set_option maxRecDepth 100000 in
set_option maxHeartbeats 4000000 in
theorem walk (a0 : Option Addr) (len0 cap0 : Nat) (z0 : List Int) (w : World) (w0 : IsRow .u8 w a0 len0 cap0 z0) :
    Calls Try.prog 3 #[.slice a0 len0 cap0] w fun e w' => e = .returned (.bool true) ∧ Below w.heap.size w w' := by
  obtain ⟨l, rfl, hA, hl, hlc, hcap⟩ := row_bs w0
  clear w0
  by_cases hbig : (1048576 : Int) < (l.length : Int)
  · have hd : decide ((1048576 : Int) < (l.length : Int)) = true := by simpa using hbig
    clear hbig
    go_enter Try.func3, Try.ntmps3
    go_wp2_with (go_at_call 10; refine (big_any _ _ _ _).mono ?_; rintro e w' ⟨rfl, rfl⟩)
    go_ret
    exact ⟨rfl, Below.refl _ _⟩
  · have hlen : (l.length : Int) ≤ 1048576 := by omega
    have hd : decide ((1048576 : Int) < (l.length : Int)) = false := by simpa using hlen
    clear hbig
    go_enter Try.func3, Try.ntmps3
    go_wp2_with (go_at_call 10; refine (big_any _ _ _ _).mono ?_; rintro e w' ⟨rfl, rfl⟩)
    refine (drawPackChunk_any _ _ _ _ hA hl hlen).mono ?_
    rintro e w1 ⟨kk, ff, b, X, cx, rfl, hbB, hb2, O1, hcx, hcm, b1⟩
    have hbI : (b.length : Int) ≤ 200 := by omega
    unfold ckV
    have K2 := Blk.new w1 25 #[.int .i64 kk, .int .i64 ff, .slice X b.length cx]
    have bn := bal (Below.refl w1.heap.size w1) (.cells #[.int .i64 kk, .int .i64 ff, .slice X b.length cx] 25)
    have S2 := bs_below O1.bs bn
    have B2 := btr b1 bn
    have HPK := hidH (fun (u : World) (h : Bs u X b) => packChunk_impl kk ff X b cx u h (by omega))
    have HF1 := hidH (fun (u : World) => chFault_spec kk ff X b cx u (by omega))
    have HF2 := hidH (fun (u : World) => chFault_impl kk ff X b cx u (by omega))
    unfold ckV at HPK HF1 HF2
    obtain ⟨C, hC⟩ : ∃ C, chF kk ff b = C := ⟨_, rfl⟩
    obtain ⟨M, hM⟩ : ∃ M, chM kk ff b = M := ⟨_, rfl⟩
    rw [hC] at HPK HF1 HF2
    rw [hM] at HPK
    have HC := hidH hC
    have HM := hidH hM
    have HBY := hidH hbB
    obtain ⟨w2, hw2⟩ : ∃ w2, w1.alloc (.cells #[.int .i64 kk, .int .i64 ff, .slice X b.length cx] 25) = w2 := ⟨_, rfl⟩
    rw [hw2] at K2 S2 B2
    have HW2 := hidH hw2
    have HCX := hidH (And.intro hcx hcm)
    have hg3 := K2.lt
    clear hC hM hw2 O1 b1 bn hbB hcx hcm hb2
    obtain ⟨p3, q3, r3, z3⟩ := K2.three
    go_wp2_with (fail)
    rw [HW2.out]
    clear p3 q3 r3 z3
    refine (HPK.out _ S2).mono ?_
    rintro e w3 ⟨A4, c4, rfl, O4, b4, h4a, h4b⟩
    have K3 := K2.below b4
    have S3 := bs_below S2 b4
    have B3 := btr B2 b4
    have bn := bal (Below.refl w3.heap.size w3) (.cells #[.int .i64 C, .slice A4 M.length c4] 28)
    have X4 := Blk.new w3 28 #[.int .i64 C, .slice A4 M.length c4]
    have K4 := K3.below bn
    have S4 := bs_below S3 bn
    have B4 := btr B3 bn
    have M4 := bs_below O4.bs bn
    have L4 := bs_below hA B4
    have H4 := hidH (And.intro h4a h4b)
    obtain ⟨w4, hw4⟩ : ∃ w4, w3.alloc (.cells #[.int .i64 C, .slice A4 M.length c4] 28) = w4 := ⟨_, rfl⟩
    rw [hw4] at X4 K4 S4 B4 M4 L4
    have HW4 := hidH hw4
    clear K3 S3 B3 b4 bn O4 h4a h4b hw4 K2 S2 B2 HPK
    go_wp2_with (fail)
    rw [HW4.out]
    refine (drawAct_any a0 l cap0 w4 L4 hl hlen).mono ?_
    rintro e w5 ⟨n, rfl, b5⟩
    have V := (FcM.mk K4 X4 S4 M4 B4 : FcM w w1.heap.size w3.heap.size kk ff X b cx C A4 M c4 w4).below b5
    have F3 := hidH (fun u => action_impl n u)
    have F4 := hidH (fun u => action_spec n u)
    obtain ⟨aC, haC⟩ : ∃ aC, actC n = aC := ⟨_, rfl⟩
    obtain ⟨aV, haV⟩ : ∃ aV, actV n = aV := ⟨_, rfl⟩
    rw [haC, haV] at F3 F4
    have HV := hidH V
    clear K4 X4 S4 M4 B4 L4 b5 V haC haV HW4 HW2
    go_wp2_with (fail)
    refine wp_region_any (by kernel_rfl) ?_
    refine regFc _ _ _ _ _ _ _ _ _ _ _ _ w w1.heap.size w3.heap.size kk ff X b cx C A4 M c4 n aC aV HF1.out HF2.out F3.out F4.out (by kernel_rfl) (by kernel_rfl) (by kernel_rfl) rfl (HV.out.below (Below.refl _ _).drew) ?_
    intros
    rename_i W hM
    have HB := hidH hM.old
    have KC := hidH hM.ck
    have KR := hidH hM.rs
    have HBX := hidH hM.bx
    have HBM := hidH hM.bm
    clear hM HV F3 F4 HF1 HF2
    by_cases hz : C = 0
    · subst hz
      obtain ⟨⟨hk0, hk1⟩, ⟨hf0, hf1⟩, hb160⟩ := chF_zero HC.out
      have hbI' : (b.length : Int) ≤ 160 := by omega
      have hML : M = chL kk ff b := by rw [← HM.out, chM, if_pos HC.out]
      have hlen4 : M.length = 4 + b.length + chPad b.length := by rw [hML, chL_len]
      have hp4 : chPad b.length < 4 ∧ (4 + b.length + chPad b.length) % 4 = 0 := by unfold chPad; omega
      obtain ⟨z, hz⟩ : ∃ z, M.length = z := ⟨_, rfl⟩
      rw [hz] at hlen4
      have HZ := hidH hz
      rw [hz] at KR
      have t1 : ((z : Int).tmod 4 != 0) = false := by rw [bne_eq_false_iff_eq, Int.tmod_eq_emod_of_nonneg (by omega)]; omega
      have t2 : decide ((z : Int) < (b.length : Int) + 4) = false := by simp; omega
      have t3 : decide ((b.length : Int) + 7 < (z : Int)) = false := by simp; omega
      have hz0 : (z : Int) ≤ 1000 := by omega
      have hz1 : 4 + b.length ≤ z := by omega
      have hz2 : 4 + (b.length : Int) ≤ (z : Int) := by omega
      have hcz := H4.out.1
      have hcz2 := H4.out.2
      rw [hz] at hcz
      obtain ⟨b4, off, rfl, hlt4, hcell⟩ : ∃ b4 off, A4 = some ⟨b4, off, none⟩ ∧ b4 < W.heap.size ∧ ∀ j, j < M.length → W.cell? ⟨b4, off + j, none⟩ = some (.int .u8 (M.getD j 0)) := by
        rcases HBM.out with h | h
        · rw [h] at hz; simp at hz; omega
        · exact h
      have S4 := hidH (cutA_bs HBM.out (i := 4) (c := c4) (m := b) (by omega) (by omega) (fun j hj => by rw [hML]; exact chL_body kk ff b j hj))
      have hsl := cut_lh (some ⟨b4, off, none⟩) z c4 4 b.length (4 + (b.length : Int)) rfl (by omega)
      rw [show ((4 : Nat) : Int) = 4 from rfl] at hsl
      obtain ⟨AX, hAX⟩ : ∃ AX, cutA (some ⟨b4, off, none⟩) 4 c4 = AX := ⟨_, rfl⟩
      rw [hAX] at S4 hsl
      have HT := hidH (fun j (h1 : 4 + b.length ≤ j) (h2 : j < z) => show W.cell? ⟨b4, off + j, none⟩ = some (.int .u8 0) by rw [hcell j (by omega), hML, chL_tail kk ff b j h1])
      have g := chL_get0 kk ff b
      have c0 := hcell 0 (by omega)
      have c1 := hcell 1 (by omega)
      have c2 := hcell 2 (by omega)
      have c3 := hcell 3 (by omega)
      rw [hML] at c0 c1 c2 c3
      rw [g.1] at c0
      rw [g.2.1] at c1
      rw [g.2.2.1] at c2
      rw [g.2.2.2] at c3
      have C0 := hidH c0
      have C1 := hidH c1
      have C2 := hidH c2
      have C3 := hidH c3
      have HK := hidH (And.intro hk0 (And.intro hk1 (And.intro hf0 hf1)))
      clear hML hlen4 hp4 hz hcell g c0 c1 c2 c3 hk0 hk1 hf0 hf1 hb160 hbI
      obtain ⟨x0, x1, xz⟩ := KR.out.two
      obtain ⟨y0, y1, y2, yz⟩ := KC.out.three
      have u1 : IntKind.i64.wrap ((b.length : Int) + 4) = (b.length : Int) + 4 := IntWalk.i64_in _ (by omega)
      have u2 : IntKind.i64.wrap ((b.length : Int) + 7) = (b.length : Int) + 7 := IntWalk.i64_in _ (by omega)
      have u3 : IntKind.i64.wrap (4 + (b.length : Int)) = 4 + (b.length : Int) := IntWalk.i64_in _ (by omega)
      have u4 : 0 ≤ 4 + (b.length : Int) := by omega
      have u5 : (4 + (b.length : Int)).toNat = 4 + b.length := by omega
      go_wp2
      go_quiet ((go_at_call 18; exact Calls.quiet_of_same ((lwB_same _ _ b _ _ _ (bs_below S4.out (below_drewN (Below.refl _ _) _)) (bs_below HBX.out (below_drewN (Below.refl _ _) _))).mono (fun _ _ h => ⟨h.1, h.2.symm⟩))))
      clear hsl u1 u2 u3 u4 u5 t1 t2 t3
      have HBX' := hidH HBX.out
      have HZ1 := hidH (And.intro hz0 hz1)
      clear hcz hcz2 hz1
      go_wp2
      go_loopw [7] (fun i wr => ∃ j : Nat, 4 + b.length ≤ j ∧ j ≤ z ∧ i = .int .i64 j ∧ wr = W.drewN nq) (fun i _ => z - (intOf i).toNat)
      case atStart => exact ⟨4 + b.length, Nat.le_refl _, HZ1.out.2, by rw [Int.natCast_add]; rfl, rfl⟩
      case round =>
        obtain ⟨j, hj4, hjz, rfl, rfl⟩ := hrel
        by_cases hlt : j < z
        · have cj := HT.out j hj4 hlt
          have hj0 : (0 : Int) ≤ (j : Int) := by omega
          have hj1 : (j : Int) < (z : Int) := by omega
          have HJ4 := hidH hj4
          clear hj4
          go_wp2
          go_roundw
          case rel => exact ⟨j + 1, by have := HJ4.out; omega, by omega, by go_num, trivial⟩
          case measure => simp [intOf]; omega
        · obtain rfl : j = z := by omega
          have c0 : W.cell? ⟨b4, off, none⟩ = some (.int .u8 kk) := C0.out
          have c1 := C1.out
          have c2 := C2.out
          have c3 := C3.out
          have hx0 : 0 ≤ ((b.length : Int) + 4) / 256 := by omega
          have hx1 : ((b.length : Int) + 4) / 256 ≤ 255 := by omega
          have hy0 : 0 ≤ ((b.length : Int) + 4) % 256 := by omega
          have hy1 : ((b.length : Int) + 4) % 256 ≤ 255 := by omega
          have hxy : ((((b.length : Int) + 4) / 256 * 256 + ((b.length : Int) + 4) % 256) == (b.length : Int) + 4) = true := by rw [beq_iff_eq]; omega
          obtain ⟨x, hx⟩ : ∃ x, ((b.length : Int) + 4) / 256 = x := ⟨_, rfl⟩
          obtain ⟨y, hy⟩ : ∃ y, ((b.length : Int) + 4) % 256 = y := ⟨_, rfl⟩
          rw [hx] at c2 hx0 hx1 hxy
          rw [hy] at c3 hy0 hy1 hxy
          have k0 := HK.out.1
          have k1 := HK.out.2.1
          have k2 := HK.out.2.2.1
          have k3 := HK.out.2.2.2
          have i0 : (0 : Int) < (j : Int) := by omega
          have i0' : 0 < j := by omega
          have i1 : (1 : Int) < (j : Int) := by omega
          have i2 : (2 : Int) < (j : Int) := by omega
          have i3 : (3 : Int) < (j : Int) := by omega
          have v1 : IntKind.i64.wrap x = x := IntWalk.i64_in _ (by omega)
          have v2 : IntKind.i64.wrap y = y := IntWalk.i64_in _ (by omega)
          have v3 : IntKind.i64.wrap kk = kk := IntWalk.i64_in _ (by omega)
          have v4 : IntKind.i64.wrap ff = ff := IntWalk.i64_in _ (by omega)
          have u1 : IntKind.i64.wrap (x * 256) = x * 256 := IntWalk.i64_in _ (by omega)
          have u2 : IntKind.i64.wrap (x * 256 + y) = x * 256 + y := IntWalk.i64_in _ (by omega)
          have u3 : IntKind.i64.wrap ((b.length : Int) + 4) = (b.length : Int) + 4 := IntWalk.i64_in _ (by omega)
          clear hx hy hlt hj4 hjz
          go_wp2
          go_quiet (fail)
          go_wp2
          go_ret
          exact ⟨by rfl, below_drewN (below_drewN HB.out _) _⟩
    · have hne : (C != 0) = true := by rw [bne_iff_ne]; exact hz
      obtain ⟨x0, x1, xz⟩ := KR.out.two
      clear hz
      go_wp2
      go_ret
      exact ⟨rfl, HB.out⟩

/-! ### THE ROW's STEP: WRITTEN OUT: LEAVE IT -/
set_option maxRecDepth 100000 in
theorem lifted (os : Os) (started : os.Started) (H : Type) (enc : TypeId × Value → H) :
    ReturnsInHanded {} Try.checked os 3 .any (Rows.fnChunksSpec.pre6 enc Try.prog Try.f3 Rows.fnChunksRow.domain false) (Rows.fnChunksSpec.post enc Try.prog Try.f3 false true false false) := by
  refine returnsInHanded_of_change (C := Try.checked) own started (by kernel_rfl) Try.func3
    (ChangeSpec.witness6 (enc := enc) (C := Try.checked) false ⟨#[], #[.slice none 0 0], []⟩ 8 (by kernel_rfl) (by kernel_rfl) (by kernel_rfl) (by kernel_rfl)) ?_
  intro W base args ds gs before hval0 hW hcnd _
  have hval : ∀ (j : Nat) t v, Try.f3.params[j]? = some t → args[j]? = some v → Value.okWide Try.prog W .any base t v := hval0
  have hW' := hW
  obtain ⟨p, q, hA0, hV, rfl, hfz, hnd⟩ := hW
  have hA : DataW.TrodAll enc Try.prog W 0 (fun _ => true) true Try.f3.params.toList args.toList ds p := hA0
  rw [Try.params3] at hA hval
  obtain ⟨v0, vs0, d0, ds0, p0, q0, hargs, rfl, rfl, h0, r0⟩ := trodAll_cons hA
  obtain ⟨rfl, rfl, rfl⟩ := trodAll_nil r0
  obtain rfl : args = #[v0] := by cases args; simp_all
  obtain ⟨rfl, rfl⟩ := trodVars_none hV
  obtain ⟨a0, len0, cap0, rfl⟩ := okWide_slice Try.underlying22 (hval 0 22 v0 rfl rfl)
  have k0 := h0
  have lt0 : ∀ x ∈ p0, x.block < W.heap.size := by obtain ⟨m, hm⟩ := k0; exact DataW.trod_lt m _ _ _ hm
  obtain ⟨z0, w0⟩ : ∃ zs, IsRow .u8 W a0 len0 cap0 zs := by
    obtain ⟨fuel, hf⟩ := h0
    rcases open_ints Try.underlying22 Try.underlying5 (by kernel_rfl) hf with ⟨hcs, _⟩ | ⟨x, l, c, zs, hcs, _, hl, hm, hz, _, hcell, hwz⟩
    · simp [Value.cells] at hcs
      obtain ⟨rfl, rfl, rfl⟩ := hcs
      exact ⟨[], .inl ⟨rfl, rfl, rfl, rfl⟩⟩
    · simp [Value.cells] at hcs
      obtain ⟨rfl, rfl, rfl⟩ := hcs
      exact ⟨zs, .inr ⟨_, rfl, hl, hm, by simpa using hz, hcell, hwz⟩⟩
  clear hA0 hval0
  refine (walk a0 len0 cap0 z0 W w0).mono fun e W' ⟨he, bel⟩ => ?_
  subst he
  exact ⟨_, rfl, _, _, _, [], _, [], hW', trodAll_mk1 (shut_bool Try.underlying4 _), (trodAll_cons_mk (Below.trod laidOut (by kernel_rfl) (of_decide_eq_true (by kernel_rfl)) k0 bel lt0) trodAll_mk0), rfl, bel.frame _, fun h => by cases h⟩

theorem over : Rows.fnChunksRow.holds Try.pinned (OpenSpec.ofChange Rows.fnChunksSpec) :=
  OpenClaim.holds_of_wide 3 Try.f3 rfl rfl rfl rfl rfl rfl rfl ⟨rfl, rfl, rfl, rfl, rfl⟩ rfl rfl rfl rfl rfl (by kernel_rfl) Try.func3 (by kernel_rfl)
    (of_decide_eq_true (by kernel_rfl)) (by unfold Func.isWrapper; first | (rw [if_pos (by decide +kernel)]; kernel_rfl) | (rw [if_neg (by decide +kernel)]; exact ⟨rfl, rfl⟩))
    (fun os started H enc _ => lifted os started H enc)

/-- ████ THE STATEMENT ████ -/
theorem proved : Rows.FnChunksSaid := over
#print axioms proved
end Go.Proofs.Ytepcikghhnfacaa.fnChunks
