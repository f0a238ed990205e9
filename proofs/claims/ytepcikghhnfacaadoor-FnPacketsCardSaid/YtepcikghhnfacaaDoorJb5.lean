import Derived.Test.YtepcikghhnfacaaDoorJa7
import Derived.Test.YtepcikghhnfacaaDoorJa5
import Derived.Test.YtepcikghhnfacaaDoorFpR
import Derived.Test.YtepcikghhnfacaaDoorDrI
import Derived.Test.YtepcikghhnfacaaDoorDbI
import Derived.Test.YtepcikghhnfacaaDoorJb4
import Derived.Test.YtepcikghhnfacaaDoorJb0
import Derived.Deep.Cut

/- The program's sameChunk, slices.EqualFunc of chunks, SamePackets. -/
namespace Go.Proofs.YtepcikghhnfacaaDoor
open Go.RowKit Go.Deep

set_option maxHeartbeats 1000000 in
theorem sameCh_any (x y : Chk) (A B : Option Addr) (ca cb : Nat) (w : World) (hA : Bs w A x.body) (hB : Bs w B y.body) (bx : Bytes x.body) (by_ : Bytes y.body) :
    Calls Tryd.prog 50 #[ckV x.kind x.flags A x.body.length ca, ckV y.kind y.flags B y.body.length cb] w fun e w' => ∃ r : Bool, e = .returned (.bool r) ∧ (r = true ↔ x = y) ∧ Below w.heap.size w w' := by
  have B2 := bal (bal (Below.refl w.heap.size w) (.cells #[.int .i64 x.kind, .int .i64 x.flags, .slice A x.body.length ca] 49)) (.cells #[.int .i64 y.kind, .int .i64 y.flags, .slice B y.body.length cb] 49)
  have HE := hidH (fun u h1 h2 => bEqual_any A B x.body y.body ca cb u h1 h2 bx by_)
  have HB := hidH B2
  have HA1 := hidH (bs_below hA B2)
  have HB1 := hidH (bs_below hB B2)
  unfold ckV
  clear hA hB bx by_ B2
  by_cases e1 : x.kind = y.kind
  · have f1 : (x.kind == y.kind) = true := by rw [beq_iff_eq]; exact e1
    by_cases e2 : x.flags = y.flags
    · have f2 : (x.flags == y.flags) = true := by rw [beq_iff_eq]; exact e2
      have HX := hidH (fun (h : x.body = y.body) => chk_eq.2 ⟨e1, e2, h⟩)
      have HY := hidH (fun (h : x = y) => (chk_eq.1 h).2.2)
      clear e1 e2
      go_enter Tryd.func50, Tryd.ntmps50
      go_wp2_with fail
      refine (HE.out _ HA1.out HB1.out).mono ?_
      rintro e w3 ⟨rfl, rfl⟩
      clear HE
      obtain ⟨d, hd⟩ : ∃ d : Bool, decide (x.body = y.body) = d := ⟨_, rfl⟩
      rw [hd]
      have HD := hidH hd
      clear hd
      go_wp2
      go_ret
      refine ⟨d, by cases d <;> rfl, ⟨fun h => HX.out (by have := HD.out; rw [h] at this; exact of_decide_eq_true this), fun h => by rw [← HD.out]; exact decide_eq_true (HY.out h)⟩, HB.out⟩
    · have f2 : (x.flags == y.flags) = false := by rw [beq_eq_false_iff_ne]; exact e2
      have HX := hidH (show ¬ x = y from fun h => e2 (chk_eq.1 h).2.1)
      clear e1 e2
      go_enter Tryd.func50, Tryd.ntmps50
      go_wp2
      go_ret
      exact ⟨false, rfl, ⟨(fun h => by cases h), fun h => absurd h HX.out⟩, HB.out⟩
  · have f1 : (x.kind == y.kind) = false := by rw [beq_eq_false_iff_ne]; exact e1
    have HX := hidH (show ¬ x = y from fun h => e1 (chk_eq.1 h).1)
    clear e1
    go_enter Tryd.func50, Tryd.ntmps50
    go_wp2
    go_ret
    exact ⟨false, rfl, ⟨(fun h => by cases h), fun h => absurd h HX.out⟩, HB.out⟩
set_option maxRecDepth 100000 in
set_option maxHeartbeats 2000000 in
theorem eqFunc_any (PA PB : Option Addr) (a b : List Chk) (ca cb : Nat) (w : World) (hA : Cs w PA a) (hB : Cs w PB b) (ba : ∀ x ∈ a, Bytes x.body) (bb : ∀ x ∈ b, Bytes x.body) (hm : (a.length : Int) ≤ 9223372036854775807) (_hm2 : (b.length : Int) ≤ 9223372036854775807) :
    Calls Tryd.prog 49 #[.slice PA a.length ca, .slice PB b.length cb, .func (.func 50) #[] #[]] w fun e w' => ∃ r : Bool, e = .returned (.bool r) ∧ (r = true ↔ a = b) ∧ Below w.heap.size w w' := by
  by_cases hl : a.length = b.length
  · have hd : ((a.length : Int) != (b.length : Int)) = false := by rw [bne_eq_false_iff_eq]; omega
    have HA := hidH hA
    have HB := hidH hB
    have HBA := hidH ba
    have HBB := hidH bb
    have HL := hidH hl
    clear hA hB ba bb hl _hm2
    go_enter Tryd.func49, Tryd.ntmps49
    go_wp2
    go_loopw [17] (fun i wr => ∃ j : Nat, j ≤ a.length ∧ i = .int .i64 j ∧ (∀ t, t < j → a[t]? = b[t]?) ∧ Below w.heap.size w wr) (fun i _ => a.length - (intOf i).toNat)
    case atStart => exact ⟨0, by omega, rfl, fun t ht => by omega, Below.refl _ _⟩
    case round =>
      obtain ⟨j, hj, rfl, hEq, hBw⟩ := hrel
      by_cases hlt : j < a.length
      · have hj0 : (0 : Int) ≤ (j : Int) := by omega
        have hj1 : (j : Int) < (a.length : Int) := by omega
        have hlb : j < b.length := by have := HL.out; omega
        have hj2 : (j : Int) < (b.length : Int) := by omega
        obtain ⟨ga, oa, rfl, hga, A, cA, CA⟩ := (HA.out.below hBw).get hlt
        obtain ⟨gb, ob, rfl, hgb, B, cB, CB⟩ := (HB.out.below hBw).get hlb
        have c0 := CA.c0
        have c1 := CA.c1
        have c2 := CA.c2
        have B1 := bal (Below.refl wr.heap.size wr) (.cells #[.int .i64 a[j].kind, .int .i64 a[j].flags, .slice A a[j].body.length cA] 49)
        have d0 := (B1.cell (p := ⟨gb, ob + j * 3, none⟩) hgb).trans CB.c0
        have d1 := (B1.cell (p := ⟨gb, ob + j * 3 + 1, none⟩) hgb).trans CB.c1
        have d2 := (B1.cell (p := ⟨gb, ob + j * 3 + 2, none⟩) hgb).trans CB.c2
        have HNE := hidH (fun (h : a[j] ≠ b[j]) => show ¬ (a = b) from fun e => h (by subst e; rfl))
        have HEQ := hidH (fun (h : a[j] = b[j]) => show (∀ t, t < j + 1 → a[t]? = b[t]?) from fun t ht => by
          by_cases e : t = j
          · subst e; rw [List.getElem?_eq_getElem hlt, List.getElem?_eq_getElem hlb, h]
          · exact hEq t (by omega))
        have HSA := hidH (fun (u : World) (h1 : Bs u A a[j].body) (h2 : Bs u B b[j].body) => sameCh_any a[j] b[j] A B cA cB u h1 h2 (HBA.out _ (List.getElem_mem hlt)) (HBB.out _ (List.getElem_mem hlb)))
        have SA := hidH CA.body
        have SB := hidH CB.body
        unfold ckV at HSA
        obtain ⟨x, hx⟩ : ∃ x, a[j] = x := ⟨_, rfl⟩
        obtain ⟨y, hy⟩ : ∃ y, b[j] = y := ⟨_, rfl⟩
        simp only [hx] at c0 c1 c2 d0 d1 d2 HSA HNE HEQ SA B1
        simp only [hy] at d0 d1 d2 HSA HNE HEQ SB
        have B2 := bal B1 (.cells #[.int .i64 y.kind, .int .i64 y.flags, .slice B y.body.length cB] 49)
        have SA2 := hidH (bs_below SA.out B2)
        have SB2 := hidH (bs_below SB.out B2)
        have HBW := hidH (btr hBw B2)
        clear CA CB hEq hBw hx hy B1 B2 SA SB
        go_wp2_with fail
        refine (HSA.out _ SA2.out SB2.out).mono ?_
        rintro e w3 ⟨r, rfl, hr, b3⟩
        have HR := hidH hr
        have B3 := hidH (btr HBW.out b3)
        clear HSA SA2 SB2 hr b3 c0 c1 c2 d0 d1 d2
        rcases r with _ | _
        · go_wp2
          go_ret
          exact ⟨false, rfl, ⟨(fun h => by cases h), fun h => absurd h (HNE.out fun e => by have := HR.out.2 e; cases this)⟩, B3.out⟩
        · go_wp2
          go_roundw
          case rel => exact ⟨j + 1, by omega, by go_num, HEQ.out (HR.out.1 (by simp)), B3.out⟩
          case measure => simp [intOf]; omega
      · obtain rfl : j = a.length := by omega
        have HE := hidH (show a = b from List.ext_getElem? fun t => by
          by_cases h : t < a.length
          · exact hEq t h
          · have := HL.out
            rw [List.getElem?_eq_none (by omega), List.getElem?_eq_none (by omega)])
        have HBW := hidH hBw
        clear hEq hBw hlt hj
        go_wp2
        go_ret
        exact ⟨true, rfl, ⟨fun _ => HE.out, fun _ => rfl⟩, HBW.out⟩
  · have hd : ((a.length : Int) != (b.length : Int)) = true := by rw [bne_iff_ne]; omega
    have HL := hidH (show ¬ a = b from fun h => hl (by rw [h]))
    clear hA hB ba bb hl
    go_enter Tryd.func49, Tryd.ntmps49
    go_wp2
    go_ret
    exact ⟨false, rfl, ⟨(fun h => by cases h), fun h => absurd h HL.out⟩, Below.refl _ _⟩
set_option maxHeartbeats 1000000 in
theorem samePk_impl (ta tb : Int) (PA PB : Option Addr) (a b : List Chk) (ca cb : Nat) (w : World) (hA : Cs w PA a) (hB : Cs w PB b) (ba : ∀ x ∈ a, Bytes x.body) (bb : ∀ x ∈ b, Bytes x.body) (hm : (a.length : Int) ≤ 9223372036854775807) (hm2 : (b.length : Int) ≤ 9223372036854775807) :
    Calls Tryd.prog 16 #[pkV ta PA a.length ca, pkV tb PB b.length cb] w fun e w' => ∃ r : Bool, e = .returned (.bool r) ∧ (r = true ↔ ta = tb ∧ a = b) ∧ Below w.heap.size w w' := by
  have B2 := bal (bal (Below.refl w.heap.size w) (.cells #[.int .i64 ta, .slice PA a.length ca] 26)) (.cells #[.int .i64 tb, .slice PB b.length cb] 26)
  have B2' := B2
  have hs := eqFunc_any PA PB a b ca cb _ (hA.below B2) (hB.below B2) ba bb hm hm2
  have HS := hidH hs
  have HB := hidH B2'
  unfold pkV
  clear hA hB ba bb B2 B2' hs
  by_cases e1 : ta = tb
  · have f1 : (ta == tb) = true := by rw [beq_iff_eq]; exact e1
    have HE := hidH e1
    clear e1
    go_enter Tryd.func16, Tryd.ntmps16
    go_wp2_with fail
    refine HS.out.mono ?_
    rintro e w3 ⟨r, rfl, hr, b3⟩
    have HR := hidH hr
    have B3 := hidH (btr HB.out b3)
    clear hr b3
    go_wp2
    go_ret
    exact ⟨r, by cases r <;> rfl, ⟨fun h => ⟨HE.out, HR.out.1 h⟩, fun h => HR.out.2 h.2⟩, B3.out⟩
  · have f1 : (ta == tb) = false := by rw [beq_eq_false_iff_ne]; exact e1
    have HE := hidH e1
    clear e1 hm hm2
    go_enter Tryd.func16, Tryd.ntmps16
    go_wp2
    go_ret
    exact ⟨false, rfl, ⟨(fun h => by cases h), fun h => absurd h.1 HE.out⟩, HB.out⟩
end Go.Proofs.YtepcikghhnfacaaDoor

/- What the law FnPackets wants besides: the callees' answers over what it keeps. -/
namespace Go.Proofs.YtepcikghhnfacaaDoor
open Go.RowKit Go.Deep

theorem rd_zero {D : List Int} (hD : Bytes D) (h : rdC D = 0) : pkF (rdT D) (rdCs D) = 0 ∧ pkM (rdT D) (rdCs D) = D ∧ (∀ x ∈ rdCs D, Bytes x.body ∧ x.body.length ≤ 500) ∧ (rdCs D).length ≤ 500 ∧ 8 ≤ D.length ∧ D.length ≤ 500 ∧ rdSum D = atW D 4 := by
  have h0 := h
  rw [rdC] at h
  split at h
  · cases h
  · next hl =>
    split at h
    · next hs =>
      split at h
      · next hok =>
        have e1 : rdT D = atW D 0 := by rw [rdT, if_pos h0]
        have e2 : rdCs D = mRead (D.drop 8) := by rw [rdCs, if_pos h0]
        obtain ⟨m1, m2⟩ := mRead_ok _ (D.drop 8) (Nat.le_refl _) (fun x hx => hD x (List.mem_of_mem_drop hx))
        have m3 : (D.drop 8).length = D.length - 8 := List.length_drop
        rw [e1, e2]
        refine ⟨hok.1, by rw [pkM, if_pos hok.1]; exact hok.2, fun x hx => ⟨(m2 x hx).1, by have := (m2 x hx).2; omega⟩, by omega, by omega, by omega, hs⟩
      · cases h
    · cases h
theorem flat_mod (cs : List Chk) : (cs.flatMap chkL).length % 4 = 0 := by
  induction cs with
  | nil => rfl
  | cons x r ih =>
    rw [List.flatMap_cons, List.length_append, chkL, chL_len]
    have : (4 + x.body.length + chPad x.body.length) % 4 = 0 := by unfold chPad; omega
    omega
theorem pkL_mod (tag : Int) (cs : List Chk) : (pkL tag cs).length % 4 = 0 := by
  rw [pkL, rawL_eq, List.length_append, List.length_append]
  have := flat_mod cs
  simp only [pk, List.length_cons, List.length_nil]
  omega
theorem rd_turnL {D : List Int} (hD : Bytes D) (h : rdC D = 0) (i m : Nat) (hi : i < D.length) (hm : m < 255) : rdC (turnL D i (1 + m)) = 9 := by
  obtain ⟨_, _, _, _, h8, h5, hs⟩ := rd_zero hD h
  have g := hD.get i
  exact rd_turn hD h8 h5 hs i _ hi (byteX_byte (by omega) g.1 g.2) (byteX_ne (by omega) g.1)
set_option maxHeartbeats 400000 in
theorem big_pk (A : Option Addr) (n c : Nat) (w : World) : Calls Tryd.prog 5 #[.slice A n c] w fun e w' => e = .returned (.bool (decide ((1048576 : Int) < (n : Int)))) ∧ w = w' := by
  go_enter Tryd.func5, Tryd.ntmps5
  go_wp2
  go_ret
  exact ⟨rfl, rfl⟩
end Go.Proofs.YtepcikghhnfacaaDoor
