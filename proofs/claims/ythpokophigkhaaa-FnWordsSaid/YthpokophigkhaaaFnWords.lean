/- At every slice of bytes the law FnWords answers true. -/
import Derived.Test.YthpokophigkhaaaRows
import Derived.Test.YthpokophigkhaaaLaw2
import Derived.Test.YthpokophigkhaaaLwBytes
import Derived.WalkSpells
import Derived.WalkLawsBesides
import Derived.WalkKit
import Derived.ProofKit
import Derived.OpenShut
import Derived.ShutString
import Derived.ChangeOld
import Derived.Below
namespace Go.Proofs.Ythpokophigkhaaa.fnWords
open Go.ChangeShapes Go.WideShapes Go.ChangeAt Go.RowKit
open Go.ChangeMaps (open_string shut_string)
set_option linter.unusedVariables false

theorem own : ownKnob Try.prog.godebug = none := by kernel_rfl
theorem laidOut : laidOutB Try.prog = true := by kernel_rfl

/-- WHAT THE WALK IS TOLD OF A SLICE OF INTEGERS THAT CAME IN: it is nil; or it leads to a row of 'cap' cells, the numbers 'zs' (the first 'len' are its elements, the rest its spare room), each fitting its kind. -/
def IsRow (k : IntKind) (w : World) (a : Option Addr) (len cap : Nat) (zs : List Int) : Prop :=
  (a = none ∧ len = 0 ∧ cap = 0 ∧ zs = []) ∨
  ∃ x, a = some x ∧ len ≤ cap ∧ cap ≤ maxLen ∧ zs.length = cap ∧ (∀ i, i < zs.length → w.cell? (x.add i) = some (.int k (zs.getD i 0))) ∧ ∀ n ∈ zs, (Lit.int k n).wf = true


set_option maxRecDepth 100000 in
set_option maxHeartbeats 4000000 in
theorem walk (a0 : Option Addr) (len0 cap0 : Nat) (z0 : List Int) (w : World) (w0 : IsRow .u8 w a0 len0 cap0 z0) :
    Calls Try.prog 3 #[.slice a0 len0 cap0] w fun e w' => e = .returned (.bool true) ∧ Below w.heap.size w w' := by
  obtain ⟨l, rfl, hA, hl, hlc, hcap⟩ := row_bs w0
  clear w0
  by_cases hbig : (1048576 : Int) < (l.length : Int)
  · have hd : decide ((1048576 : Int) < (l.length : Int)) = true := by simpa using hbig
    clear hbig
    go_enter Try.func3, Try.ntmps3
    go_wp2_with (go_at_call 12; refine (big_any _ _ _ _).mono ?_; rintro e w' ⟨rfl, rfl⟩)
    go_ret
    exact ⟨rfl, Below.refl _ _⟩
  · have hlen : (l.length : Int) ≤ 1048576 := by omega
    have hd : decide ((1048576 : Int) < (l.length : Int)) = false := by simpa using hlen
    clear hbig
    have f1 := fldIV
    have f2 := fldBC
    have f3 := fldBB
    go_enter Try.func3, Try.ntmps3
    go_wp2_with (go_at_call 12; refine (big_any _ _ _ _).mono ?_; rintro e w' ⟨rfl, rfl⟩)
    refine (drawAdd_any _ _ _ _ hA hl hlen).mono ?_
    rintro e w1 ⟨a, b, rfl, b1⟩
    have A1 := bs_below hA b1
    go_wp2_with fail
    refine (drawRot_any _ _ _ _ A1 hl hlen).mono ?_
    rintro e w2 ⟨u, n, rfl, b2⟩
    have A2 := bs_below A1 b2
    have O := btr b1 b2
    clear A1 b1 b2
    go_wp2_with fail
    refine (add_implB _ _ _).mono ?_
    rintro e w3 ⟨rfl, b3⟩
    have A3 := bs_below (bs_below A2 b3) (bal (Below.refl _ _) (.cells #[.int .i64 (addC a b), .int .i64 (addV a b)] 27))
    have X7 := Blk.new w3 27 #[.int .i64 (addC a b), .int .i64 (addV a b)]
    have O3 := bal (btr O b3) (.cells #[.int .i64 (addC a b), .int .i64 (addV a b)] 27)
    clear A2 O b3
    go_wp2_with fail
    refine (rot_implB _ _ _).mono ?_
    rintro e w4 ⟨rfl, b4⟩
    have A4 := bs_below (bs_below A3 b4) (bal (Below.refl _ _) (.cells #[.int .i64 (rotC u n), .int .i64 (rotV u n)] 27))
    have Y7 := (X7.below b4).alloc (.cells #[.int .i64 (rotC u n), .int .i64 (rotV u n)] 27)
    have X8 := Blk.new w4 27 #[.int .i64 (rotC u n), .int .i64 (rotV u n)]
    have O4 := bal (btr O3 b4) (.cells #[.int .i64 (rotC u n), .int .i64 (rotV u n)] 27)
    clear A3 X7 O3 b4
    go_wp2_with fail
    refine (pack_impl _ _).mono ?_
    rintro e w5 ⟨P, cp, rfl, P5, b5, hcp, hcm⟩
    have A5 := bs_below (bs_below A4 b5) (bal (Below.refl _ _) (.cells #[.int .i64 (packC a), .slice P (packL a).length cp] 30))
    have Q5 := bs_below P5.bs (bal (Below.refl _ _) (.cells #[.int .i64 (packC a), .slice P (packL a).length cp] 30))
    have Z7 := (Y7.below b5).alloc (.cells #[.int .i64 (packC a), .slice P (packL a).length cp] 30)
    have Z8 := (X8.below b5).alloc (.cells #[.int .i64 (packC a), .slice P (packL a).length cp] 30)
    have Z9 := Blk.new w5 30 #[.int .i64 (packC a), .slice P (packL a).length cp]
    have O5 := bal (btr O4 b5) (.cells #[.int .i64 (packC a), .slice P (packL a).length cp] 30)
    clear A4 P5 Y7 X8 O4 b5
    go_wp2_with fail
    refine (drawAt_any _ _ _ _ A5 hl hlen).mono ?_
    rintro e w6 ⟨D, dc, d, k, rfl, D6, hdB, hdc, hdm, hdl, b6⟩
    have Q6 := bs_below Q5 b6
    have T7 := Z7.below b6
    have T8 := Z8.below b6
    have T9 := Z9.below b6
    have O6 := btr O5 b6
    clear A5 Q5 Z7 Z8 Z9 O5 b6
    go_wp2_with fail
    refine (at_impl _ _ _ _ _ D6 hdB hdc hdm).mono ?_
    rintro e w7 ⟨rfl, b7⟩
    have W7 : WS w w3.heap.size w4.heap.size w5.heap.size w7.heap.size (addC a b) (addV a b) (rotC u n) (rotV u n) (packC a) P (packL a) cp (atC d k) (atV d k) D d (w7.alloc (.cells #[.int .i64 (atC d k), .int .i64 (atV d k)] 27)) :=
      ⟨(T7.below b7).alloc _, (T8.below b7).alloc _, (T9.below b7).alloc _, Blk.new _ _ _, bs_below (bs_below Q6 b7) (bal (Below.refl _ _) _), bs_below (bs_below D6 b7) (bal (Below.refl _ _) _), bal (btr O6 b7) _⟩
    clear D6 Q6 T7 T8 T9 O6 b7 hA
    go_wp2_with fail
    generalize w3.heap.size = g7 at *
    generalize w4.heap.size = g8 at *
    generalize w5.heap.size = g9 at *
    generalize hg12 : w7.heap.size = g12 at *
    go_region_held3 (fun w' => (w'.cell? ⟨g7, 0, none⟩ = some (.int .i64 (addC a b)) ∧ w'.cell? ⟨g7, 1, none⟩ = some (.int .i64 (addV a b)) ∧ w'.cell? ⟨g8, 0, none⟩ = some (.int .i64 (rotC u n)) ∧ w'.cell? ⟨g8, 1, none⟩ = some (.int .i64 (rotV u n)) ∧ w'.cell? ⟨g9, 0, none⟩ = some (.int .i64 (packC a)) ∧ w'.cell? ⟨g9, 1, none⟩ = some (.slice P (packL a).length cp) ∧ w'.cell? ⟨g12, 0, none⟩ = some (.int .i64 (atC d k)) ∧ w'.cell? ⟨g12, 1, none⟩ = some (.int .i64 (atV d k)) ∧ WS w g7 g8 g9 g12 (addC a b) (addV a b) (rotC u n) (rotV u n) (packC a) P (packL a) cp (atC d k) (atV d k) D d w')) (first | assumption | exact (WS.drew (by assumption)).s | exact ((WS.of_s (by assumption)).below (by assumption)).s | exact (WS.of_s (by assumption)).drew.s)
      (first | (go_at_call 20; refine (add_specB _ _ _).mono ?_; rintro e w' ⟨rfl, hb⟩) | (go_at_call 21; refine (rot_spec _ _ _).mono ?_; rintro e w' ⟨rfl, hb⟩) | (go_at_call 22; refine (pack_spec _ _).mono ?_; rintro e w' ⟨A9, c9, rfl, O9, hb, _, _⟩) | (go_at_call 23; refine (at_spec _ _ _ _ _ (WS.of_s (by assumption)).data hdB (by omega)).mono ?_; rintro e w' ⟨rfl, hb⟩))
    rename_i hHeld
    have V := WS.of_s hHeld
    clear hHeld W7 hg12
    go_upto_region 12 with fail
    go_cut [83] (fun s wx => s = .bool false ∧ WS w g7 g8 g9 g12 (addC a b) (addV a b) (rotC u n) (rotV u n) (packC a) P (packL a) cp (atC d k) (atV d k) D d wx)
    case first =>
      by_cases hk : 0 ≤ k ∧ k ≤ (d.length : Int) - 4
      · obtain ⟨kk, rfl⟩ : ∃ kk : Nat, k = kk := ⟨k.toNat, by omega⟩
        have hkd : kk + 4 ≤ d.length := by omega
        have hx0 : (atC d (kk : Int) == 0) = true := by rw [atC, if_pos hk]; rfl
        have hv : atV d (kk : Int) = atW d kk := by rw [atV, if_pos hk]; rfl
        have hC : packC (atV d (kk : Int)) = 0 := by rw [hv, packC, if_pos (atW_w hdB kk)]
        have hL : packL (atV d (kk : Int)) = [d.getD kk 0, d.getD (kk + 1) 0, d.getD (kk + 2) 0, d.getD (kk + 3) 0] := by rw [hv, packL, if_pos (atW_w hdB kk), pk_at hdB]
        have PK : ∀ wx, Calls Try.prog 17 #[.int .i64 (atV d (kk : Int))] wx (BRes wx 0 [d.getD kk 0, d.getD (kk + 1) 0, d.getD (kk + 2) 0, d.getD (kk + 3) 0]) := fun wx => by
          have := pack_impl (atV d (kk : Int)) wx
          rwa [hC, hL] at this
        have PKH := hidH PK
        rcases V.data with hnil | ⟨bb, off, rfl, _, _⟩
        · rw [hnil] at hkd; simp at hkd
        · clear PK hC hL hv hk
          have k1 : (kk : Int) + 4 ≤ (dc : Int) := by omega
          have k2 : (0 : Int) ≤ (kk : Int) := by omega
          have k3 : (kk : Int) ≤ (kk : Int) + 4 := by omega
          have k4 : IntKind.i64.wrap ((kk : Int) + 4) = (kk : Int) + 4 := IntWalk.i64_in _ (by omega)
          have k5 : ((kk : Int) + 4).toNat = kk + 4 := by omega
          go_region_held3 (fun w' => (w'.cell? ⟨g7, 0, none⟩ = some (.int .i64 (addC a b)) ∧ w'.cell? ⟨g7, 1, none⟩ = some (.int .i64 (addV a b)) ∧ w'.cell? ⟨g8, 0, none⟩ = some (.int .i64 (rotC u n)) ∧ w'.cell? ⟨g8, 1, none⟩ = some (.int .i64 (rotV u n)) ∧ w'.cell? ⟨g9, 0, none⟩ = some (.int .i64 (packC a)) ∧ w'.cell? ⟨g9, 1, none⟩ = some (.slice P (packL a).length cp) ∧ w'.cell? ⟨g12, 0, none⟩ = some (.int .i64 (atC d (kk : Int))) ∧ w'.cell? ⟨g12, 1, none⟩ = some (.int .i64 (atV d (kk : Int))) ∧ WS w g7 g8 g9 g12 (addC a b) (addV a b) (rotC u n) (rotV u n) (packC a) P (packL a) cp (atC d (kk : Int)) (atV d (kk : Int)) (some ⟨bb, off, none⟩) d w')) (first | assumption | exact (WS.drew (by assumption)).s | exact ((WS.of_s (by assumption)).below (by assumption)).s | exact (WS.of_s (by assumption)).drew.s)
            (first | (go_at_call 17; refine (PKH.out _).mono ?_; rintro e w' ⟨A9, c9, rfl, O9, hb, _, _⟩) | (go_at_call 24; refine (lwB_same _ _ [d.getD kk 0, d.getD (kk + 1) 0, d.getD (kk + 2) 0, d.getD (kk + 3) 0] _ _ _ (O9.bs) (sub4 (WS.of_s (by assumption)).data kk hkd)).mono ?_; rintro e w' ⟨rfl, rfl⟩))
          all_goals
            rename_i hHeld
            have V2 := WS.of_s hHeld
            clear hHeld V PKH O9 hb
            go_wp2_with fail
            go_meet
            exact ⟨rfl, V2⟩
      · have hx0 : (atC d k == 0) = false := by rw [atC, if_neg hk]; rfl
        obtain ⟨q0, q1, q2, q3, q4, q5, q6, q7, _⟩ := V.s
        go_quiet (fail)
        go_wp2
        go_meet
        exact ⟨rfl, V.below (below_drewN (Below.refl _ _) _)⟩
    case rest =>
      obtain ⟨rfl, V2⟩ := hcut
      clear V
      go_upto_region 14 with fail
      go_cut [100] (fun s wx => s = .bool false ∧ WS w g7 g8 g9 g12 (addC a b) (addV a b) (rotC u n) (rotV u n) (packC a) P (packL a) cp (atC d k) (atV d k) D d wx)
      case first =>
        obtain ⟨q0, q1, q2, q3, q4, q5, q6, q7, _⟩ := V2.s
        by_cases hr : IsW u ∧ 0 ≤ n ∧ n ≤ 31
        · have hc : (rotC u n == 0) = true := by rw [rotC, if_pos hr]; rfl
          obtain ⟨hu, hn0, hn1⟩ := hr
          by_cases hn : 0 < n
          · obtain ⟨r1, r2⟩ := rot_back hu hn hn1
            have RB : ∀ wx, Calls Try.prog 16 #[.int .i64 (rotV u n), .int .i64 (32 - n)] wx (IB wx 0 u) := fun wx => by
              have := rot_implB (rotV u n) (32 - n) wx
              rwa [r1, r2] at this
            have RBH := hidH RB
            clear RB r1 r2 hu
            go_wp2_with (go_at_call 16; refine (RBH.out _).mono ?_; rintro e w9 ⟨rfl, hb9⟩)
            go_meet
            exact ⟨rfl, V2.below ‹_›⟩
          · have hn' : decide (0 < n) = false := by simpa using hn
            clear hu
            go_wp2
            go_meet
            exact ⟨rfl, V2⟩
        · have hc : (rotC u n == 0) = false := by rw [rotC, if_neg hr]; rfl
          clear hr
          go_wp2
          go_meet
          exact ⟨rfl, V2⟩
      case rest =>
        obtain ⟨rfl, V3⟩ := hcut
        clear V2
        go_upto_region 16 with fail
        go_cut [117] (fun s wx => s = .bool false ∧ WS w g7 g8 g9 g12 (addC a b) (addV a b) (rotC u n) (rotV u n) (packC a) P (packL a) cp (atC d k) (atV d k) D d wx)
        case first =>
          obtain ⟨q0, q1, q2, q3, q4, q5, q6, q7, _⟩ := V3.s
          by_cases ha : IsW a
          · have hc : (packC a == 0) = true := by rw [packC, if_pos ha]; rfl
            have hl4 : (((packL a).length : Int) != 4) = false := by rw [packL, if_pos ha]; rfl
            have AT : Calls Try.prog 19 #[.slice P (packL a).length cp, .int .i64 0] wc (IB wc 0 a) := by
              have := at_impl P (packL a) cp 0 wc V3.pack (pack_bytes a) hcp hcm
              have e : packL a = pk a := by rw [packL, if_pos ha]
              rw [e, (at_pk ha).1, (at_pk ha).2] at this
              rw [e]
              exact this
            have ATH := hidH AT
            clear AT ha
            go_wp2_with (go_at_call 19; refine (ATH.out).mono ?_; rintro e w9 ⟨rfl, hb9⟩)
            go_meet
            exact ⟨rfl, V3.below ‹_›⟩
          · have hc : (packC a == 0) = false := by rw [packC, if_neg ha]; rfl
            clear ha
            go_wp2
            go_meet
            exact ⟨rfl, V3⟩
        case rest =>
          obtain ⟨rfl, V4⟩ := hcut
          clear V3
          go_wp2_with fail
          by_cases hab : IsW a ∧ IsW b
          · have hc : (addC a b != 0) = false := by rw [addC_yes hab]; rfl
            obtain ⟨r1, r2, r3, r4⟩ := add_back hab
            have AB : ∀ wx, Calls Try.prog 15 #[.int .i64 b, .int .i64 a] wx (IB wx (addC a b) (addV a b)) := fun wx => by
              have := add_implB b a wx
              rwa [r1, r2] at this
            have GB : ∀ wx, Calls Try.prog 25 #[.int .i64 a, .int .i64 (addV a b)] wx (IB wx 0 b) := fun wx => by
              have := gap_implB a (addV a b) wx
              rwa [r3, r4] at this
            have ABH := hidH AB
            have GBH := hidH GB
            clear AB GB r1 r2 r3 r4 hab
            go_region_held3 (fun w' => (w'.cell? ⟨g7, 0, none⟩ = some (.int .i64 (addC a b)) ∧ w'.cell? ⟨g7, 1, none⟩ = some (.int .i64 (addV a b)) ∧ w'.cell? ⟨g8, 0, none⟩ = some (.int .i64 (rotC u n)) ∧ w'.cell? ⟨g8, 1, none⟩ = some (.int .i64 (rotV u n)) ∧ w'.cell? ⟨g9, 0, none⟩ = some (.int .i64 (packC a)) ∧ w'.cell? ⟨g9, 1, none⟩ = some (.slice P (packL a).length cp) ∧ w'.cell? ⟨g12, 0, none⟩ = some (.int .i64 (atC d k)) ∧ w'.cell? ⟨g12, 1, none⟩ = some (.int .i64 (atV d k)) ∧ WS w g7 g8 g9 g12 (addC a b) (addV a b) (rotC u n) (rotV u n) (packC a) P (packL a) cp (atC d k) (atV d k) D d w')) (first | assumption | exact (WS.drew (by assumption)).s | exact ((WS.of_s (by assumption)).below (by assumption)).s | exact (WS.of_s (by assumption)).drew.s)
              (first | (go_at_call 15; refine (ABH.out _).mono ?_; rintro e w' ⟨rfl, hb⟩) | (go_at_call 25; refine (GBH.out _).mono ?_; rintro e w' ⟨rfl, hb⟩))
            rename_i hHeld
            have V5 := WS.of_s hHeld
            clear hHeld V4 ABH GBH
            go_wp2
            go_ret
            exact ⟨rfl, V5.old⟩
          · have hc : (addC a b != 0) = true := by rw [addC_no hab]; rfl
            obtain ⟨q0, q1, q2, q3, q4, q5, q6, q7, _⟩ := V4.s
            clear hab
            go_quiet (fail)
            go_wp2
            go_ret
            exact ⟨rfl, below_drewN V4.old _⟩

/-! ### THE ROW's STEP: WRITTEN OUT: LEAVE IT -/
set_option maxRecDepth 100000 in
theorem lifted (os : Os) (started : os.Started) (H : Type) (enc : TypeId × Value → H) :
    ReturnsInHanded {} Try.checked os 3 .any (Rows.fnWordsSpec.pre6 enc Try.prog Try.f3 Rows.fnWordsRow.domain false) (Rows.fnWordsSpec.post enc Try.prog Try.f3 false true false false) := by
  refine returnsInHanded_of_change (C := Try.checked) own started (by kernel_rfl) Try.func3
    (ChangeSpec.witness6 (enc := enc) (C := Try.checked) false ⟨#[], #[.slice none 0 0], []⟩ 8 (by kernel_rfl) (by kernel_rfl) (by kernel_rfl) (by kernel_rfl)) ?_
  intro W base args ds gs before hval0 hW hcnd _
  have hval : ∀ (j : Nat) t v, Try.f3.params[j]? = some t → args[j]? = some v → Value.okWide Try.prog W .any base t v := hval0
  have hW' := hW
  obtain ⟨p, q, hA0, hV, rfl, hfz, hnd⟩ := hW
  have hA : DataW.TrodAll enc Try.prog W 0 (fun _ => true) true Try.f3.params.toList args.toList ds p := hA0
  rw [Try.params3] at hA hval
  obtain ⟨v0, vs0, d0, ds0, p0, q0, hargs, rfl, rfl, h0, r0⟩ := trodAll_cons hA
  obtain ⟨rfl, rfl, rfl⟩ := trodAll_nil r0
  obtain rfl : args = #[v0] := by cases args; simp_all
  obtain ⟨rfl, rfl⟩ := trodVars_none hV
  obtain ⟨a0, len0, cap0, rfl⟩ := okWide_slice Try.underlying22 (hval 0 22 v0 rfl rfl)
  have k0 := h0
  have lt0 : ∀ x ∈ p0, x.block < W.heap.size := by obtain ⟨m, hm⟩ := k0; exact DataW.trod_lt m _ _ _ hm
  obtain ⟨z0, w0⟩ : ∃ zs, IsRow .u8 W a0 len0 cap0 zs := by
    obtain ⟨fuel, hf⟩ := h0
    rcases open_ints Try.underlying22 Try.underlying5 (by kernel_rfl) hf with ⟨hcs, _⟩ | ⟨x, l, c, zs, hcs, _, hl, hm, hz, _, hcell, hwz⟩
    · simp [Value.cells] at hcs
      obtain ⟨rfl, rfl, rfl⟩ := hcs
      exact ⟨[], .inl ⟨rfl, rfl, rfl, rfl⟩⟩
    · simp [Value.cells] at hcs
      obtain ⟨rfl, rfl, rfl⟩ := hcs
      exact ⟨zs, .inr ⟨_, rfl, hl, hm, by simpa using hz, hcell, hwz⟩⟩
  clear hA0 hval0
  refine (walk a0 len0 cap0 z0 W w0).mono fun e W' ⟨he, bel⟩ => ?_
  subst he
  exact ⟨_, rfl, _, _, _, [], _, [], hW', trodAll_mk1 (shut_bool Try.underlying4 _), (trodAll_cons_mk (Below.trod laidOut (by kernel_rfl) (of_decide_eq_true (by kernel_rfl)) k0 bel lt0) trodAll_mk0), rfl, bel.frame _, fun h => by cases h⟩

theorem over : Rows.fnWordsRow.holds Try.pinned (OpenSpec.ofChange Rows.fnWordsSpec) :=
  OpenClaim.holds_of_wide 3 Try.f3 rfl rfl rfl rfl rfl rfl rfl ⟨rfl, rfl, rfl, rfl, rfl⟩ rfl rfl rfl rfl rfl (by kernel_rfl) Try.func3 (by kernel_rfl)
    (of_decide_eq_true (by kernel_rfl)) (by unfold Func.isWrapper; first | (rw [if_pos (by decide +kernel)]; kernel_rfl) | (rw [if_neg (by decide +kernel)]; exact ⟨rfl, rfl⟩))
    (fun os started H enc _ => lifted os started H enc)

/-- ████ THE STATEMENT ████ -/
theorem proved : Rows.FnWordsSaid := over
#print axioms proved
end Go.Proofs.Ythpokophigkhaaa.fnWords
