/- At every slice of bytes the law FnDigests answers true. -/
import Derived.Test.YthpokophigkhaaaRows
import Derived.Test.YthpokophigkhaaaLaw4
import Derived.WalkSpells
import Derived.WalkLawsBesides
import Derived.WalkKit
import Derived.ProofKit
import Derived.OpenShut
import Derived.ShutString
import Derived.ChangeOld
import Derived.Below
namespace Go.Proofs.Ythpokophigkhaaa.fnDigests
open Go.ChangeShapes Go.WideShapes Go.ChangeAt Go.RowKit
open Go.ChangeMaps (open_string shut_string)
set_option linter.unusedVariables false

theorem own : ownKnob Try.prog.godebug = none := by kernel_rfl
theorem laidOut : laidOutB Try.prog = true := by kernel_rfl

/-- WHAT THE WALK IS TOLD OF A SLICE OF INTEGERS THAT CAME IN: it is nil; or it leads to a row of 'cap' cells, the numbers 'zs' (the first 'len' are its elements, the rest its spare room), each fitting its kind. -/
def IsRow (k : IntKind) (w : World) (a : Option Addr) (len cap : Nat) (zs : List Int) : Prop :=
  (a = none ∧ len = 0 ∧ cap = 0 ∧ zs = []) ∨
  ∃ x, a = some x ∧ len ≤ cap ∧ cap ≤ maxLen ∧ zs.length = cap ∧ (∀ i, i < zs.length → w.cell? (x.add i) = some (.int k (zs.getD i 0))) ∧ ∀ n ∈ zs, (Lit.int k n).wf = true


set_option maxRecDepth 100000 in
set_option maxHeartbeats 4000000 in
theorem walk (a0 : Option Addr) (len0 cap0 : Nat) (z0 : List Int) (w : World) (w0 : IsRow .u8 w a0 len0 cap0 z0) :
    Calls Try.prog 5 #[.slice a0 len0 cap0] w fun e w' => e = .returned (.bool true) ∧ Below w.heap.size w w' := by
  obtain ⟨l, rfl, hA, hl, hlc, hcap⟩ := row_bs w0
  clear w0
  by_cases hbig : (1048576 : Int) < (l.length : Int)
  · have hd : decide ((1048576 : Int) < (l.length : Int)) = true := by simpa using hbig
    clear hbig
    go_enter Try.func5, Try.ntmps5
    go_wp2_with (go_at_call 12; refine (big_any _ _ _ _).mono ?_; rintro e w' ⟨rfl, rfl⟩)
    go_ret
    exact ⟨rfl, Below.refl _ _⟩
  · have hlen : (l.length : Int) ≤ 1048576 := by omega
    have hd : decide ((1048576 : Int) < (l.length : Int)) = false := by simpa using hlen
    clear hbig
    have f1 := fldBC'
    have f2 := fldBB'
    go_enter Try.func5, Try.ntmps5
    go_wp2_with (go_at_call 12; refine (big_any _ _ _ _).mono ?_; rintro e w' ⟨rfl, rfl⟩)
    refine (drawSha_any _ _ _ _ hA hl hlen).mono ?_
    rintro e w1 ⟨D, dc, d, rfl, D1, hdB, hdc, hdm, hdl, b1⟩
    have hdm' : (d.length : Int) ≤ 9223372036854775807 := by omega
    go_wp2_with fail
    refine (sha_impl _ _ _ _ D1 hdB hdm').mono ?_
    rintro e w2 ⟨Pd, cd, rfl, P2, b2, hcd, hcdm⟩
    have X4 := Blk.new w2 30 #[.int .i64 (padC d), .slice Pd (shaM d).length cd]
    have bn := bal (Below.refl w2.heap.size w2) (.cells #[.int .i64 (padC d), .slice Pd (shaM d).length cd] 30)
    have B2 := btr (btr b1 b2) bn
    have Q2 := bs_below P2.bs bn
    have D2 := bs_below (bs_below D1 b2) bn
    clear b1 b2 P2 D1 bn
    go_wp2_with fail
    refine (padm_impl _ _ _ _ D2 hdm').mono ?_
    rintro e w4 ⟨Pp, cp, rfl, P4, b4, hcp, hcpm⟩
    have X5 := Blk.new w4 30 #[.int .i64 (padC d), .slice Pp (padM d).length cp]
    have bn := bal (Below.refl w4.heap.size w4) (.cells #[.int .i64 (padC d), .slice Pp (padM d).length cp] 30)
    have V4 : DS w w2.heap.size w4.heap.size (padC d) Pd (shaM d) cd Pp (padM d) cp D d (w4.alloc (.cells #[.int .i64 (padC d), .slice Pp (padM d).length cp] 30)) :=
      ⟨(X4.below b4).below bn, X5, bs_below (bs_below Q2 b4) bn, bs_below P4.bs bn, bs_below (bs_below D2 b4) bn, btr (btr B2 b4) bn⟩
    clear X4 X5 bn B2 Q2 D2 P4 b4
    go_wp2_with fail
    generalize w2.heap.size = gd at *
    generalize w4.heap.size = gp at *
    go_region_held3 (fun w' => (w'.cell? ⟨gd, 0, none⟩ = some (.int .i64 (padC d)) ∧ w'.cell? ⟨gp, 0, none⟩ = some (.int .i64 (padC d)) ∧ DS w gd gp (padC d) Pd (shaM d) cd Pp (padM d) cp D d w')) (first | assumption | exact (DS.drew (by assumption)).s | exact ((DS.of_s (by assumption)).below (by assumption)).s | exact (DS.of_s (by assumption)).drew.s)
      (first | (go_at_call 30; refine (sha_spec _ _ _ _ (DS.of_s (by assumption)).data hdB hdm').mono ?_; rintro e w' ⟨A9, c9, rfl, O9, hb, _, _⟩))
    rename_i hHeld
    have V := DS.of_s hHeld
    clear hHeld V4
    by_cases h7 : d.length ≤ 700
    · have hc : padC d = 0 := by rw [padC, if_pos h7]
      have hm : padM d = padL d := by rw [padM, if_pos h7]
      have hs : shaM d = shaL d := by rw [shaM, if_pos h7]
      have hpB := padL_bytes hdB (by omega)
      have hp64 := padL_mod d
      have hpl : (padL d).length ≤ 1000 := by rw [padL_len]; unfold zerosN; omega
      have hp9 : d.length + 9 ≤ (padL d).length := by rw [padL_len]; omega
      have hget := padL_get d
      have hmark := padL_mark d
      have hsl : shaL d = wordsL (shaTo (padL d) ((padL d).length / 64)) 8 := rfl
      have hd32 : (shaL d).length = 32 := shaL_len d
      rw [hc, hm, hs] at V ⊢
      obtain ⟨p, hp⟩ : ∃ p, padL d = p := ⟨_, rfl⟩
      obtain ⟨dl, hdl0⟩ : ∃ dl, shaL d = dl := ⟨_, rfl⟩
      rw [hp, hdl0] at V ⊢
      rw [hp] at hpB hp64 hpl hp9 hmark
      rw [hm, hp] at hcp
      rw [hp, hdl0] at hsl
      rw [hdl0] at hd32
      simp only [hp] at hget
      rcases V.pad with hz | ⟨pb, po, rfl, hpb, hpc⟩
      · rw [hz] at hp9; simp at hp9
      have hmodI : (((p.length : Int) % 64) != 0) = false := by rw [bne_eq_false_iff_eq]; omega
      have h9I : ¬ ((p.length : Int) < (d.length : Int) + 9) := by omega
      have hltI : (d.length : Int) < (p.length : Int) := by omega
      have hleI : (d.length : Int) ≤ (cp : Int) := by omega
      have hpre : ∀ wx, Bs wx (some ⟨pb, po, none⟩) p → Bs wx (some ⟨pb, po, none⟩) d := fun wx h => by
        rcases h with h | ⟨b, off, h1, h2, h3⟩
        · rw [h] at hp9; simp at hp9
        · exact .inr ⟨b, off, h1, h2, fun j hj => by rw [h3 j (by omega), hget j hj]⟩
      have HPRE := hidH hpre
      have HMARK := hidH hmark
      have HSL := hidH hsl
      have HPB := hidH hpB
      have H64 := hidH hp64
      have HD32 := hidH hd32
      obtain ⟨q0, q1, _⟩ := V.s
      have q2 := V.bp.cell 1
      have q3 := hpc d.length (by omega)
      rw [hmark] at q3
      simp only [List.getElem?_toArray, List.getElem?_cons_succ, List.getElem?_cons_zero] at q2
      have HV := hidH V
      clear hc hm hs hp hdl0 hget hmark hsl hpB hp64 hpb hpc V hpre h7 hd32
      go_wp2_with (go_at_call 24; refine (lwB_same _ _ d _ _ _ (HPRE.out _ HV.out.pad) HV.out.data).mono ?_; rintro e w' ⟨rfl, rfl⟩)
      clear q0 q1 q2 q3 hmodI h9I hltI hleI
      have hp0 : 0 < p.length := by omega
      go_loopw [6, 7] (fun v i wr => ∃ (k a c4 : Nat) (A4 : Option Addr), i = .int .i64 a ∧ a = 64 * k ∧ a ≤ p.length ∧ v = .slice A4 (ci (shaTo p k)).length c4 ∧ Is wr A4 (ci (shaTo p k)) ∧ DS w gd gp 0 Pd dl cd (some ⟨pb, po, none⟩) p cp D d wr) (fun _ i _ => p.length - (intOf i).toNat)
      case atStart => exact ⟨0, 0, 8, some ⟨_, 0, none⟩, rfl, rfl, Nat.zero_le _, rfl, Nw.is (ws := startN) (Nw.of_blk (t := 2) (Blk.new _ _ _)), HV.out.below (bal (Below.refl _ _) _)⟩
      case round =>
        obtain ⟨k, a, c4, A4, rfl, hak, hap, rfl, hI, hV⟩ := hrel
        have HAK := hidH hak
        clear hak HV
        by_cases hlt : a < p.length
        · have ha64 : a + 64 ≤ p.length := by have h1 := H64.out; have h2 := HAK.out; omega
          have hi0 : (0 : Int) ≤ (a : Int) := by omega
          have hi1 : (a : Int) < (p.length : Int) := by omega
          have hi2 : (a : Int) + 64 ≤ (cp : Int) := by omega
          have hi3 : (a : Int) ≤ (a : Int) + 64 := by omega
          have Q := blk_bs hV.pad ha64
          have ql := blk_len (p := p) ha64
          have qb := blk_bytes HPB.out a
          have hne : ¬ cp = a := by omega
          have hs8 := shaTo_len p k
          have hsa := shaTo_all p k
          have hsn : shaTo p (k + 1) = compN (shaTo p k) (blk p a) := by rw [shaTo, HAK.out]
          have hcl8 : (ci (shaTo p (k + 1))).length = 8 := by rw [ci_len, shaTo_len]
          have hc8 : (((ci (shaTo p (k + 1))).length : Int) != 8) = false := by rw [bne_eq_false_iff_eq]; omega
          have CP : Calls Try.prog 31 #[.slice A4 (ci (shaTo p k)).length c4, .slice (some ⟨pb, po + a, none⟩) 64 (cp - a)] wr (IRes wr 0 (ci (shaTo p (k + 1)))) := by
            have h := comp_step A4 (some ⟨pb, po + a, none⟩) (shaTo p k) (blk p a) c4 (cp - a) wr hI hsa hs8 Q qb ql
            rw [ql] at h
            rw [hsn]; exact h
          have CPH := hidH CP
          have q2 := hV.bp.cell 1
          simp only [List.getElem?_toArray, List.getElem?_cons_succ, List.getElem?_cons_zero] at q2
          have HV2 := hidH hV
          clear CP qb hsa Q ql hs8 hsn hI hV hcl8
          go_wp2_with fail
          refine CPH.out.mono ?_
          rintro e w3 ⟨A5, c5, rfl, O5, b3, hc5, hc5m⟩
          have bn := bal (Below.refl w3.heap.size w3) (.cells #[.int .i64 0, .slice A5 (ci (shaTo p (k + 1))).length c5] 42)
          have I5 := hidH (is_below O5.is bn)
          have V5 := hidH ((HV2.out.below b3).below bn)
          clear O5 b3 bn CPH HV2 q2
          go_wp2
          go_roundw
          case rel => first | exact ⟨k + 1, a + 64, c5, A5, by go_num, by have := HAK.out; omega, ha64, rfl, I5.out, V5.out⟩ | ((repeat apply Exists.intro); exact ⟨⟨k + 1, a + 64, c5, A5, by go_num, by have := HAK.out; omega, ha64, rfl, I5.out, V5.out⟩, rfl⟩)
          case measure => simp [intOf]; omega
        · have hae : a = p.length := by omega
          have hk : p.length / 64 = k := by have := HAK.out; omega
          have hge : (p.length : Int) ≤ (a : Int) := by omega
          have hd2 : decide (a < p.length) = false := by simp; omega
          have st8 := shaTo_len p k
          have sta := shaTo_all p k
          have hse : dl = wordsL (shaTo p k) 8 := by rw [HSL.out, hk]
          obtain ⟨st, hst⟩ : ∃ st, shaTo p k = st := ⟨_, rfl⟩
          have I1 : Is wr A4 (ci st) := by rw [← hst]; exact hI
          rw [hst] at st8 sta hse
          have hcl : (ci (shaTo p k)).length = 8 := by rw [hst, ci_len, st8]
          have q2 := hV.bp.cell 1
          simp only [List.getElem?_toArray, List.getElem?_cons_succ, List.getElem?_cons_zero] at q2
          have IH := hidH I1
          have ST8 := hidH st8
          have HSE := hidH hse
          have HV2 := hidH hV
          clear hae hk hI hV hst I1 st8 hlt hse
          rw [hcl]
          clear hcl
          go_wp2_with fail
          obtain ⟨wo, rfl⟩ : ∃ wo : World, wo = wr := ⟨_, rfl⟩
          go_loopw [9, 10] (fun o j wq => ∃ i : Nat, i ≤ 8 ∧ j = .int .i64 i ∧ wq.ownsRow wo.heap.size 5 1 o (wordsL st i).length ((wordsL st i).map (Value.int .u8)) ∧ Below wo.heap.size wo wq) (fun _ j _ => 8 - (intOf j).toNat)
          case atStart => exact ⟨0, by omega, rfl, World.ownsRow_lit wo #[] 0 (Nat.le_refl _) (by unfold maxLen; omega) rfl, bal (Below.refl _ _) _⟩
          case round =>
            obtain ⟨i, hi8, rfl, hown, hBq⟩ := hrel
            have hsz := hBq.size
            have WL := hidH (wordsL_len st i (by rw [ST8.out]; exact hi8))
            by_cases hlt : i < 8
            · have hi0 : (0 : Int) ≤ (i : Int) := by omega
              have hi1 : (i : Int) < 8 := by omega
              obtain ⟨b, off, rfl, _, hcc⟩ : ∃ b off, A4 = some ⟨b, off, none⟩ ∧ b < wr.heap.size ∧ ∀ j, j < (ci st).length → wr.cell? ⟨b, off + j, none⟩ = some (.int .i64 ((ci st).getD j 0)) := by
                rcases is_below IH.out hBq with h | h
                · have h1 := ST8.out; rw [← ci_len, h] at h1; simp at h1
                · exact h
              have c1 := hcc i (by rw [ci_len, ST8.out]; exact hlt)
              have hce : (ci st).getD i 0 = ((st.getD i 0 : Nat) : Int) := by
                have : i < st.length := by rw [ST8.out]; exact hlt
                simp [ci, this]
              rw [hce] at c1
              have x1 := sta.get i
              have hsucc := hidH (wordsL_succ st i (by rw [ST8.out]; exact hlt))
              obtain ⟨x, hx⟩ : ∃ x, st.getD i 0 = x := ⟨_, rfl⟩
              rw [hx] at c1 x1
              have HX := hidH hx
              have OH := hidH hown
              have HBQ := hidH hBq
              clear hx hcc hce hown hBq
              go_wp2_with fail
              refine (pack_word x _ x1).mono ?_
              rintro e w5 ⟨A5, c5, rfl, O5, b5, _, _⟩
              have OW := hidH (own_below OH.out b5)
              have O5' := hidH O5.bs
              have BW := hidH (btr HBQ.out b5)
              have hsz5 := BW.out.size
              clear O5 b5 OH HBQ
              go_wp2_with (at_builtin; refine wpList_append_bs rfl _ _ rfl wo.heap.size _ _ _ rfl OW.out A5 (pk (x : Int)) c5 rfl O5'.out (by have := WL.out; simp [pk]; omega) hsz5 ?_)
              intro v6 w6 o6 g6
              have B6 := hidH (BW.out.grown g6 hsz5 (fun k hk => (OW.out.lt k hk).1))
              have O6 := hidH o6
              clear g6 o6
              go_wp2
              go_roundw
              case rel => first | exact ⟨i + 1, by omega, by go_num, by rw [hsucc.out, HX.out]; simpa using O6.out, B6.out⟩ | ((repeat apply Exists.intro); exact ⟨⟨i + 1, by omega, by go_num, by rw [hsucc.out, HX.out]; simpa using O6.out, B6.out⟩, rfl⟩)
              case measure => simp [intOf]; omega
            · obtain rfl : i = 8 := by omega
              rw [← HSE.out] at hown
              obtain ⟨A6, c6, rfl, ob, _, _⟩ := own_ob hown
              have OB := hidH ob.bs
              have V6 := hidH (HV2.out.below hBq)
              have q3 := V6.out.bd.cell 1
              simp only [List.getElem?_toArray, List.getElem?_cons_succ, List.getElem?_cons_zero] at q3
              have q4 : ((dl.length : Int) == 32) = true := by have := HD32.out; rw [beq_iff_eq]; omega
              clear hown ob hBq hlt hi8 HV2 IH q2
              go_wp2_with (go_at_call 24; refine (lwB_same _ _ dl _ _ _ OB.out V6.out.dig).mono ?_; rintro e w' ⟨rfl, rfl⟩)
              go_ret
              exact ⟨rfl, V6.out.old⟩
    · have hc : padC d = 2 := by rw [padC, if_neg h7]
      rw [hc] at V ⊢
      obtain ⟨q0, q1, _⟩ := V.s
      have HV := hidH V
      clear V hc
      go_wp2
      go_ret
      exact ⟨rfl, HV.out.old⟩

/-! ### THE ROW's STEP: WRITTEN OUT: LEAVE IT -/
set_option maxRecDepth 100000 in
theorem lifted (os : Os) (started : os.Started) (H : Type) (enc : TypeId × Value → H) :
    ReturnsInHanded {} Try.checked os 5 .any (Rows.fnDigestsSpec.pre6 enc Try.prog Try.f5 Rows.fnDigestsRow.domain false) (Rows.fnDigestsSpec.post enc Try.prog Try.f5 false true false false) := by
  refine returnsInHanded_of_change (C := Try.checked) own started (by kernel_rfl) Try.func5
    (ChangeSpec.witness6 (enc := enc) (C := Try.checked) false ⟨#[], #[.slice none 0 0], []⟩ 8 (by kernel_rfl) (by kernel_rfl) (by kernel_rfl) (by kernel_rfl)) ?_
  intro W base args ds gs before hval0 hW hcnd _
  have hval : ∀ (j : Nat) t v, Try.f5.params[j]? = some t → args[j]? = some v → Value.okWide Try.prog W .any base t v := hval0
  have hW' := hW
  obtain ⟨p, q, hA0, hV, rfl, hfz, hnd⟩ := hW
  have hA : DataW.TrodAll enc Try.prog W 0 (fun _ => true) true Try.f5.params.toList args.toList ds p := hA0
  rw [Try.params5] at hA hval
  obtain ⟨v0, vs0, d0, ds0, p0, q0, hargs, rfl, rfl, h0, r0⟩ := trodAll_cons hA
  obtain ⟨rfl, rfl, rfl⟩ := trodAll_nil r0
  obtain rfl : args = #[v0] := by cases args; simp_all
  obtain ⟨rfl, rfl⟩ := trodVars_none hV
  obtain ⟨a0, len0, cap0, rfl⟩ := okWide_slice Try.underlying22 (hval 0 22 v0 rfl rfl)
  have k0 := h0
  have lt0 : ∀ x ∈ p0, x.block < W.heap.size := by obtain ⟨m, hm⟩ := k0; exact DataW.trod_lt m _ _ _ hm
  obtain ⟨z0, w0⟩ : ∃ zs, IsRow .u8 W a0 len0 cap0 zs := by
    obtain ⟨fuel, hf⟩ := h0
    rcases open_ints Try.underlying22 Try.underlying5 (by kernel_rfl) hf with ⟨hcs, _⟩ | ⟨x, l, c, zs, hcs, _, hl, hm, hz, _, hcell, hwz⟩
    · simp [Value.cells] at hcs
      obtain ⟨rfl, rfl, rfl⟩ := hcs
      exact ⟨[], .inl ⟨rfl, rfl, rfl, rfl⟩⟩
    · simp [Value.cells] at hcs
      obtain ⟨rfl, rfl, rfl⟩ := hcs
      exact ⟨zs, .inr ⟨_, rfl, hl, hm, by simpa using hz, hcell, hwz⟩⟩
  clear hA0 hval0
  refine (walk a0 len0 cap0 z0 W w0).mono fun e W' ⟨he, bel⟩ => ?_
  subst he
  exact ⟨_, rfl, _, _, _, [], _, [], hW', trodAll_mk1 (shut_bool Try.underlying4 _), (trodAll_cons_mk (Below.trod laidOut (by kernel_rfl) (of_decide_eq_true (by kernel_rfl)) k0 bel lt0) trodAll_mk0), rfl, bel.frame _, fun h => by cases h⟩

theorem over : Rows.fnDigestsRow.holds Try.pinned (OpenSpec.ofChange Rows.fnDigestsSpec) :=
  OpenClaim.holds_of_wide 5 Try.f5 rfl rfl rfl rfl rfl rfl rfl ⟨rfl, rfl, rfl, rfl, rfl⟩ rfl rfl rfl rfl rfl (by kernel_rfl) Try.func5 (by kernel_rfl)
    (of_decide_eq_true (by kernel_rfl)) (by unfold Func.isWrapper; first | (rw [if_pos (by decide +kernel)]; kernel_rfl) | (rw [if_neg (by decide +kernel)]; exact ⟨rfl, rfl⟩))
    (fun os started H enc _ => lifted os started H enc)

/-- ████ THE STATEMENT ████ -/
theorem proved : Rows.FnDigestsSaid := over
#print axioms proved
end Go.Proofs.Ythpokophigkhaaa.fnDigests
