/- At every slice of bytes the law FnMacs answers true. -/
import Derived.Test.YtanffpmpknmldaaRows
import Derived.Test.YtanffpmpknmldaaLaw6
import Derived.Test.YtanffpmpknmldaaMacR6
import Derived.Test.YtanffpmpknmldaaMacR10
import Derived.Test.YtanffpmpknmldaaMacR12
import Derived.Test.YtanffpmpknmldaaMacR14
import Derived.WalkSpells
import Derived.WalkLawsBesides
import Derived.WalkKit
import Derived.ProofKit
import Derived.OpenShut
import Derived.ShutString
import Derived.ChangeOld
import Derived.Below
namespace Go.Proofs.Ytanffpmpknmldaa.fnMacs
open Go.ChangeShapes Go.WideShapes Go.ChangeAt Go.RowKit
open Go.ChangeMaps (open_string shut_string)
set_option linter.unusedVariables false

theorem own : ownKnob Try.prog.godebug = none := by kernel_rfl
theorem laidOut : laidOutB Try.prog = true := by kernel_rfl

/-- WHAT THE WALK IS TOLD OF A SLICE OF INTEGERS THAT CAME IN: it is nil; or it leads to a row of 'cap' cells, the numbers 'zs' (the first 'len' are its elements, the rest its spare room), each fitting its kind. -/
def IsRow (k : IntKind) (w : World) (a : Option Addr) (len cap : Nat) (zs : List Int) : Prop :=
  (a = none ∧ len = 0 ∧ cap = 0 ∧ zs = []) ∨
  ∃ x, a = some x ∧ len ≤ cap ∧ cap ≤ maxLen ∧ zs.length = cap ∧ (∀ i, i < zs.length → w.cell? (x.add i) = some (.int k (zs.getD i 0))) ∧ ∀ n ∈ zs, (Lit.int k n).wf = true


set_option maxRecDepth 100000 in
set_option maxHeartbeats 4000000 in
theorem walk (a0 : Option Addr) (len0 cap0 : Nat) (z0 : List Int) (w : World) (w0 : IsRow .u8 w a0 len0 cap0 z0) :
    Calls Try.prog 3 #[.slice a0 len0 cap0] w fun e w' => e = .returned (.bool true) ∧ Below w.heap.size w w' := by
  obtain ⟨l, rfl, hA, hl, hlc, hcap⟩ := row_bs w0
  clear w0
  by_cases hbig : (1048576 : Int) < (l.length : Int)
  · have hd : decide ((1048576 : Int) < (l.length : Int)) = true := by simpa using hbig
    clear hbig
    go_enter Try.func3, Try.ntmps3
    go_wp2_with (go_at_call 8; refine (big_any _ _ _ _).mono ?_; rintro e w' ⟨rfl, rfl⟩)
    go_ret
    exact ⟨rfl, Below.refl _ _⟩
  · have hlen : (l.length : Int) ≤ 1048576 := by omega
    have hd : decide ((1048576 : Int) < (l.length : Int)) = false := by simpa using hlen
    clear hbig
    go_enter Try.func3, Try.ntmps3
    go_wp2_with (go_at_call 8; refine (big_any _ _ _ _).mono ?_; rintro e w' ⟨rfl, rfl⟩)
    refine (drawHm_any _ _ _ _ hA hl hlen).mono ?_
    rintro e w1 ⟨K, ck, k, D, cd, d, rfl, K1, hkB, D1, hdB, hkc, hkm, hkl, hdc, hdm, hdl, b1⟩
    obtain ⟨ml, hml⟩ : ∃ ml, hmM k d = ml := ⟨_, rfl⟩
    obtain ⟨C, hC⟩ : ∃ C, hmC k d = C := ⟨_, rfl⟩
    have hh := hmac_impl K D k d ck cd w1 K1 D1 hkB hdB (by omega) (by omega)
    rw [hml, hC] at hh
    have HH := hidH hh
    have HML := hidH hml
    have HCC := hidH hC
    clear hh hml hC
    go_wp2_with fail
    refine HH.out.mono ?_
    rintro e w2 ⟨M, cm, rfl, M2, b2, hcm, hcmm⟩
    have bn := bal (Below.refl w2.heap.size w2) (.cells #[.int .i64 C, .slice M ml.length cm] 27)
    have X4 := Blk.new w2 27 #[.int .i64 C, .slice M ml.length cm]
    have bA := btr (btr b1 b2) bn
    have hA4 := bs_below hA bA
    have hM4 := bs_below M2.bs bn
    have hK4 := bs_below (bs_below K1 b2) bn
    have hD4 := bs_below (bs_below D1 b2) bn
    clear bn b1 b2 K1 D1 M2 hcm hcmm HH
    go_wp2_with fail
    refine (drawSame_any _ _ _ _ hA4 hl hlen).mono ?_
    rintro e w3 ⟨PA, pa, a, PB, pb, b, rfl, A3, haB, B3, hbB, _, _, _, _, _, _, b3⟩
    have V := hidH (show MS w w2.heap.size C M ml cm K k D d PA a PB b a0 l w3 from ⟨X4.below b3, bs_below hM4 b3, bs_below hK4 b3, bs_below hD4 b3, A3, B3, bs_below hA4 b3, btr bA b3⟩)
    clear X4 bA hA4 hM4 hK4 hD4 A3 B3 b3
    generalize w2.heap.size = gd at *
    have B1 := hidH (fun (u : World) (h : MS w gd C M ml cm K k D d PA a PB b a0 l u) => (hmac_spec K D k d ck cd u h.key h.data hkB hdB (by omega) (by omega)).mono fun e w' q => show ∃ (A1 : Option Addr) (n c1 : Nat), e = .returned (.agg #[.int .i64 C, .slice A1 n c1]) ∧ Below u.heap.size u w' from by
      obtain ⟨A1, c1, h1, _, h3, _⟩ := q
      exact ⟨A1, _, c1, by rw [h1, HCC.out], h3⟩)
    have B2 := hidH (fun (u : World) (h : MS w gd C M ml cm K k D d PA a PB b a0 l u) => same_implB PA PB a b pa pb u h.sa h.sb haB hbB)
    have B3 := hidH (fun (u : World) (h : MS w gd C M ml cm K k D d PA a PB b a0 l u) => same_specB PA PB a b pa pb u h.sa h.sb haB hbB)
    have B4 := hidH (fun (u : World) (h : MS w gd C M ml cm K k D d PA a PB b a0 l u) => (same_implB PB PA b a pb pa u h.sb h.sa hbB haB).mono fun e w' q => show e = .returned (.bool (sameM a b)) ∧ Below u.heap.size u w' from ⟨by rw [q.1, sameM_comm], q.2⟩)
    generalize sameM a b = s at *
    clear haB hbB hkc hdc hcap hlc
    go_wp2_with fail
    refine wp_region_any (by kernel_rfl) ?_
    refine regMac6 _ _ _ _ _ _ _ _ _ _ _ _ _ _ _ _ w gd C s M K D PA PB a0 ml k d a b l cm ck cd pa pb cap0 B1.out B2.out B3.out B4.out (by kernel_rfl) (by kernel_rfl) (by kernel_rfl) rfl (V.out.below (Below.refl _ _).drew) ?_
    intros
    rename_i W hM
    have q0 := hM.blk.cell 0
    simp only [List.getElem?_toArray, List.getElem?_cons_zero] at q0
    clear V B1 B2 B3 B4
    by_cases hr : k.length ≤ 200 ∧ d.length ≤ 600
    · have e1 : C = 0 := by rw [← HCC.out, hmC, if_pos hr]
      have e2 : ml = hmL k d := by rw [← HML.out, hmM, if_pos hr]
      subst e1
      have m32 : ml.length = 32 := by rw [e2]; exact hmL_len k d
      have mB : Bytes ml := by rw [e2]; exact hmL_bytes k d
      have E2 := hidH e2
      clear e2 HML HCC
      have VM := hidH hM
      have M32 := hidH m32
      have MB := hidH mB
      clear hM m32 mB
      by_cases h64 : k.length < 64
      case' pos =>
        have hk : (k.length : Int) < 64 := by omega
        obtain ⟨kz, hkz⟩ : ∃ kz, kz = k ++ [0] := ⟨_, rfl⟩
        have kzB : Bytes kz := fun x hx => by
          rw [hkz] at hx
          rcases List.mem_append.1 hx with h | h
          · exact hkB x h
          · have : x = 0 := by simpa using h
            subst this; omega
        have kzl : kz.length ≤ 64 := by rw [hkz]; simp; omega
        have kzm : hmM kz d = ml := by rw [hmM, if_pos ⟨by omega, hr.2⟩, hkz, hmL_zero k d h64, ← E2.out]
        have kzc : hmC kz d = 0 := by rw [hmC, if_pos ⟨by omega, hr.2⟩]
        have B1 := hidH (fun (u : World) (A1 : Option Addr) (c1 : Nat) (h : MS w gd 0 M ml cm K k D d PA a PB b a0 l u) (h1 : Bs u A1 kz) => show Calls Try.prog 10 #[.slice A1 kz.length c1, .slice D d.length cd] u (RB u 0 ml) from by
          have := (hmac_impl A1 D kz d c1 cd u h1 h.data kzB hdB (by omega) (by omega)).mono fun _ _ => BRes.rb
          rwa [kzm, kzc] at this)
        have HKZ := hidH hkz
        clear hkz kzB kzl kzm kzc
        go_wp2_with fail
        refine wp_region_any (by kernel_rfl) ?_
        refine regMac10 _ _ _ _ _ _ _ _ _ _ _ _ _ _ _ _ _ _ _ _ _ _ _ _ _ _ _ _ _ _ _ _ _ _ _ _ _ _ _ _ _ _ _ _ w gd M K D PA PB a0 ml k d a b l cm ck cd pa pb cap0 kz HKZ hk B1.out (by kernel_rfl) (by kernel_rfl) (by kernel_rfl) rfl (by simp) (VM.out.below (Below.refl _ _).drew) (Below.refl _ _) ?_
        intros
        rename_i W2 hO2
        replace VM := hidH ((VM.out.below (Below.refl _ _).drew).below hO2)
        clear hO2 B1 hk HKZ q0
      case' neg =>
        have hk : (64 : Int) ≤ (k.length : Int) := by omega
        go_wp2_with fail
        refine wp_region_any (by kernel_rfl) ?_
        refine regMac10n _ _ _ _ _ _ _ _ _ _ _ _ _ _ _ _ _ _ _ _ _ _ _ _ _ _ _ _ _ _ _ _ _ _ _ _ _ _ _ _ _ _ _ _ w gd M K D PA PB a0 ml k d a b l cm ck cd pa pb cap0 hk (by kernel_rfl) (by kernel_rfl) (by kernel_rfl) rfl (VM.out.below (Below.refl _ _).drew) ?_
        intros
        rename_i W2 hM2
        replace VM := hidH hM2
        clear hM2 hk q0
      all_goals
        clear h64
        by_cases h65 : 64 < k.length
        case' pos =>
          have hk : (64 : Int) < (k.length : Int) := by omega
          have sm : shaM k = shaL k := by rw [shaM, if_pos (by omega)]
          have sl := shaL_len' k
          have sB := shaL_bytes k
          have sc : padC k = 0 := by rw [padC, if_pos (by omega)]
          have e3 : hmM (shaL k) d = ml := by rw [hmM, if_pos ⟨by omega, hr.2⟩, hmL_sha k d h65, ← E2.out]
          have e4 : hmC (shaL k) d = 0 := by rw [hmC, if_pos ⟨by omega, hr.2⟩]
          obtain ⟨sk, hsk⟩ : ∃ sk, shaL k = sk := ⟨_, rfl⟩
          rw [hsk] at sm sl sB e3 e4
          have B1 := hidH (fun (u : World) (h : MS w gd 0 M ml cm K k D d PA a PB b a0 l u) => show Calls Try.prog 16 #[.slice K k.length ck] u (RB u 0 sk) from by
            have := (sha_impl K k ck u h.key hkB (by omega)).mono fun _ _ => BRes.rb
            rwa [sm, sc] at this)
          have B2 := hidH (fun (u : World) (A1 : Option Addr) (c1 : Nat) (h : MS w gd 0 M ml cm K k D d PA a PB b a0 l u) (h1 : Bs u A1 sk) => show Calls Try.prog 10 #[.slice A1 sk.length c1, .slice D d.length cd] u (RB u 0 ml) from by
            have := (hmac_impl A1 D sk d c1 cd u h1 h.data sB hdB (by omega) (by omega)).mono fun _ _ => BRes.rb
            rwa [e3, e4] at this)
          clear sm sl sB sc e3 e4 hsk
          go_wp2_with fail
          refine wp_region_any (by kernel_rfl) ?_
          refine regMac12 _ _ _ _ _ _ _ _ _ _ _ _ _ _ _ _ _ _ _ _ _ _ _ _ _ _ _ _ _ _ _ _ _ _ _ _ _ _ _ _ _ _ _ _ _ _ _ _ _ _ _ _ _ _ _ _ _ _ _ _ _ w gd M K D PA PB a0 ml k d a b l cm ck cd pa pb cap0 sk hk B1.out B2.out (by kernel_rfl) (by kernel_rfl) (by kernel_rfl) rfl (VM.out.below (Below.refl _ _).drew) ?_
          intros
          rename_i W3 hM3
          replace VM := hidH hM3
          clear hM3 B1 B2 hk
        case' neg =>
          have hk : (k.length : Int) ≤ 64 := by omega
          go_wp2_with fail
          refine wp_region_any (by kernel_rfl) ?_
          refine regMac12n _ _ _ _ _ _ _ _ _ _ _ _ _ _ _ _ _ _ _ _ _ _ _ _ _ _ _ _ _ _ _ _ _ _ _ _ _ _ _ _ _ _ _ _ _ _ _ _ _ _ _ _ _ _ _ _ _ _ _ _ _ w gd M K D PA PB a0 ml k d a b l cm ck cd pa pb cap0 hk (by kernel_rfl) (by kernel_rfl) (by kernel_rfl) rfl (VM.out.below (Below.refl _ _).drew) ?_
          intros
          rename_i W3 hM3
          replace VM := hidH hM3
          clear hM3 hk
        all_goals
          clear h65
          have B1 := hidH (fun (u : World) (h : MS w gd 0 M ml cm K k D d PA a PB b a0 l u) => show Calls Try.prog 13 #[.slice M ml.length cm, .slice M ml.length cm] u (fun e w' => e = .returned (.bool true) ∧ Below u.heap.size u w') from by
            have := same_implB M M ml ml cm cm u h.mac h.mac MB.out MB.out
            rwa [sameM_refl M32.out] at this)
          have A2 := hidH (fun (u : World) (h : MS w gd 0 M ml cm K k D d PA a PB b a0 l u) => at_nat a0 l cap0 2 32 u h.code hl hlen (by omega) (by omega) (by omega))
          have A3 := hidH (fun (u : World) (h : MS w gd 0 M ml cm K k D d PA a PB b a0 l u) => at_nat a0 l cap0 3 255 u h.code hl hlen (by omega) (by omega) (by omega))
          have A4 := hidH (fun (u : World) (h : MS w gd 0 M ml cm K k D d PA a PB b a0 l u) (i m : Nat) (hi : (i : Int) < 32) (hm : (m : Int) < 255) => turned_one M ml cm i m u h.mac MB.out (by have := M32.out; omega) (by omega) (by have := M32.out; omega))
          have A5 := hidH (fun (u : World) (i m : Nat) (A' : Option Addr) (c' : Nat) (h : MS w gd 0 M ml cm K k D d PA a PB b a0 l u) (hi : (i : Int) < 32) (hm : (m : Int) < 255) (h1 : Bs u A' (turnL ml i (1 + m))) => show Calls Try.prog 13 #[.slice M ml.length cm, .slice A' (turnL ml i (1 + m)).length c'] u (fun e w' => e = .returned (.bool false) ∧ Below u.heap.size u w') from by
            have := same_implB M A' ml (turnL ml i (1 + m)) cm c' u h.mac h1 MB.out (turnL_bytes MB.out i (1 + m) (by omega))
            rwa [sameM_turn MB.out i (1 + m) (by have := M32.out; omega) (by omega)] at this)
          clear hl hlen hd hA hkB hdB hkl hdl hkm hdm hr
          go_wp2_with fail
          refine wp_region_any (by kernel_rfl) ?_
          refine regMac14 _ _ _ _ _ _ _ _ _ _ _ _ _ _ _ _ _ _ _ _ _ _ _ _ _ _ _ _ _ _ _ _ _ _ _ _ _ _ _ _ _ _ _ _ _ _ _ _ _ _ _ _ _ _ _ _ _ _ _ _ _ _ _ _ _ _ _ _ _ _ _ _ _ _ _ _ w gd M K D PA PB a0 ml k d a b l cm ck cd pa pb cap0 B1.out A2.out A3.out A4.out A5.out (by kernel_rfl) (by kernel_rfl) (by kernel_rfl) rfl (VM.out.below (Below.refl _ _).drew) ?_
          intros
          rename_i W4 hM4
          clear B1 A2 A3 A4 A5 VM
          go_wp2
          go_ret
          exact ⟨rfl, hM4.old⟩
    · have e1 : C = 2 := by rw [← HCC.out, hmC, if_neg hr]
      subst e1
      have HV := hidH hM
      clear hM HCC HML hr
      go_wp2
      go_ret
      exact ⟨rfl, HV.out.old⟩

/-! ### THE ROW's STEP: WRITTEN OUT: LEAVE IT -/
set_option maxRecDepth 100000 in
theorem lifted (os : Os) (started : os.Started) (H : Type) (enc : TypeId × Value → H) :
    ReturnsInHanded {} Try.checked os 3 .any (Rows.fnMacsSpec.pre6 enc Try.prog Try.f3 Rows.fnMacsRow.domain false) (Rows.fnMacsSpec.post enc Try.prog Try.f3 false true false false) := by
  refine returnsInHanded_of_change (C := Try.checked) own started (by kernel_rfl) Try.func3
    (ChangeSpec.witness6 (enc := enc) (C := Try.checked) false ⟨#[], #[.slice none 0 0], []⟩ 8 (by kernel_rfl) (by kernel_rfl) (by kernel_rfl) (by kernel_rfl)) ?_
  intro W base args ds gs before hval0 hW hcnd _
  have hval : ∀ (j : Nat) t v, Try.f3.params[j]? = some t → args[j]? = some v → Value.okWide Try.prog W .any base t v := hval0
  have hW' := hW
  obtain ⟨p, q, hA0, hV, rfl, hfz, hnd⟩ := hW
  have hA : DataW.TrodAll enc Try.prog W 0 (fun _ => true) true Try.f3.params.toList args.toList ds p := hA0
  rw [Try.params3] at hA hval
  obtain ⟨v0, vs0, d0, ds0, p0, q0, hargs, rfl, rfl, h0, r0⟩ := trodAll_cons hA
  obtain ⟨rfl, rfl, rfl⟩ := trodAll_nil r0
  obtain rfl : args = #[v0] := by cases args; simp_all
  obtain ⟨rfl, rfl⟩ := trodVars_none hV
  obtain ⟨a0, len0, cap0, rfl⟩ := okWide_slice Try.underlying22 (hval 0 22 v0 rfl rfl)
  have k0 := h0
  have lt0 : ∀ x ∈ p0, x.block < W.heap.size := by obtain ⟨m, hm⟩ := k0; exact DataW.trod_lt m _ _ _ hm
  obtain ⟨z0, w0⟩ : ∃ zs, IsRow .u8 W a0 len0 cap0 zs := by
    obtain ⟨fuel, hf⟩ := h0
    rcases open_ints Try.underlying22 Try.underlying5 (by kernel_rfl) hf with ⟨hcs, _⟩ | ⟨x, l, c, zs, hcs, _, hl, hm, hz, _, hcell, hwz⟩
    · simp [Value.cells] at hcs
      obtain ⟨rfl, rfl, rfl⟩ := hcs
      exact ⟨[], .inl ⟨rfl, rfl, rfl, rfl⟩⟩
    · simp [Value.cells] at hcs
      obtain ⟨rfl, rfl, rfl⟩ := hcs
      exact ⟨zs, .inr ⟨_, rfl, hl, hm, by simpa using hz, hcell, hwz⟩⟩
  clear hA0 hval0
  refine (walk a0 len0 cap0 z0 W w0).mono fun e W' ⟨he, bel⟩ => ?_
  subst he
  exact ⟨_, rfl, _, _, _, [], _, [], hW', trodAll_mk1 (shut_bool Try.underlying4 _), (trodAll_cons_mk (Below.trod laidOut (by kernel_rfl) (of_decide_eq_true (by kernel_rfl)) k0 bel lt0) trodAll_mk0), rfl, bel.frame _, fun h => by cases h⟩

theorem over : Rows.fnMacsRow.holds Try.pinned (OpenSpec.ofChange Rows.fnMacsSpec) :=
  OpenClaim.holds_of_wide 3 Try.f3 rfl rfl rfl rfl rfl rfl rfl ⟨rfl, rfl, rfl, rfl, rfl⟩ rfl rfl rfl rfl rfl (by kernel_rfl) Try.func3 (by kernel_rfl)
    (of_decide_eq_true (by kernel_rfl)) (by unfold Func.isWrapper; first | (rw [if_pos (by decide +kernel)]; kernel_rfl) | (rw [if_neg (by decide +kernel)]; exact ⟨rfl, rfl⟩))
    (fun os started H enc _ => lifted os started H enc)

/-- ████ THE STATEMENT ████ -/
theorem proved : Rows.FnMacsSaid := over
#print axioms proved
end Go.Proofs.Ytanffpmpknmldaa.fnMacs
