/- The model's ActionOf, SamePackets. -/
import Derived.Test.YtepcikghhnfacaaDoorPkP
import Derived.Test.YtepcikghhnfacaaDoorSame
namespace Go.Proofs.YtepcikghhnfacaaDoor
open Go.RowKit Go.Deep

def actC (k : Int) : Int := if inB k 0 255 then 0 else 3
def actV (k : Int) : Int := if inB k 0 255 then k / 64 else 0
theorem str_eqb {x y : List Int} (hx : Bytes x) (hy : Bytes y) : ((strOfNums x).toList == (strOfNums y).toList) = decide (x = y) := by
  rw [ByteArray.toList_eq, ByteArray.toList_eq]
  by_cases e : x = y
  · subst e; simp
  · have : (strOfNums x).data.toList ≠ (strOfNums y).data.toList := fun h => e (strOfNums_inj hx hy (by
      cases hx : strOfNums x; cases hy : strOfNums y
      rw [hx, hy] at h
      simpa using h))
    rw [beq_eq_false_iff_ne.2 this, decide_eq_false e]
theorem chk_eq {x y : Chk} : x = y ↔ x.kind = y.kind ∧ x.flags = y.flags ∧ x.body = y.body := by
  cases x; cases y; simp
set_option maxRecDepth 100000 in
set_option maxHeartbeats 2000000 in
theorem same4_any (PA PB : Option Addr) (a b : List Chk) (ca cb : Nat) (w : World) (hA : Cs w PA a) (hB : Cs w PB b) (ba : ∀ x ∈ a, Bytes x.body) (bb : ∀ x ∈ b, Bytes x.body) (hm : (a.length : Int) ≤ 9223372036854775807) (_hm2 : (b.length : Int) ≤ 9223372036854775807) :
    Calls Tryd.prog 51 #[.slice PA a.length ca, .slice PB b.length cb] w fun e w' => ∃ r : Bool, e = .returned (.bool r) ∧ (r = true ↔ a = b) ∧ Below w.heap.size w w' := by
  by_cases hl : a.length = b.length
  · have hd : ((a.length : Int) != (b.length : Int)) = false := by rw [bne_eq_false_iff_eq]; omega
    have HA := hidH hA
    have HB := hidH hB
    have HBA := hidH ba
    have HBB := hidH bb
    have HL := hidH hl
    clear hA hB ba bb hl _hm2
    go_enter Tryd.func51, Tryd.ntmps51
    go_wp2
    go_loopw [5] (fun i wr => ∃ j : Nat, j ≤ a.length ∧ i = .int .i64 j ∧ (∀ t, t < j → a[t]? = b[t]?) ∧ Below w.heap.size w wr) (fun i _ => a.length - (intOf i).toNat)
    case atStart => exact ⟨0, by omega, rfl, fun t ht => by omega, Below.refl _ _⟩
    case round =>
      obtain ⟨j, hj, rfl, hEq, hBw⟩ := hrel
      by_cases hlt : j < a.length
      · have hj0 : (0 : Int) ≤ (j : Int) := by omega
        have hj1 : (j : Int) < (a.length : Int) := by omega
        have hlb : j < b.length := by have := HL.out; omega
        have hj2 : (j : Int) < (b.length : Int) := by omega
        obtain ⟨ga, oa, rfl, hga, hca⟩ : ∃ g o, PA = some ⟨g, o, none⟩ ∧ g < wr.heap.size ∧ ∀ j (hj : j < a.length), ∃ A c, CkB wr g (o + j * 3) a[j].kind a[j].flags A a[j].body c := by
          rcases HA.out.below hBw with h | h
          · rw [h] at hlt; simp at hlt
          · exact h
        obtain ⟨gb, ob, rfl, hgb, hcb⟩ : ∃ g o, PB = some ⟨g, o, none⟩ ∧ g < wr.heap.size ∧ ∀ j (hj : j < b.length), ∃ A c, CkB wr g (o + j * 3) b[j].kind b[j].flags A b[j].body c := by
          rcases HB.out.below hBw with h | h
          · rw [h] at hlb; simp at hlb
          · exact h
        obtain ⟨A, cA, CA⟩ := hca j hlt
        obtain ⟨B, cB, CB⟩ := hcb j hlb
        have c0 := CA.c0
        have c1 := CA.c1
        have c2 := CA.c2
        have d0 := CB.c0
        have d1 := CB.c1
        have d2 := CB.c2
        have HX := hidH (HBA.out _ (List.getElem_mem hlt))
        have HY := hidH (HBB.out _ (List.getElem_mem hlb))
        have h1 := fun n => conv_bs (wr.drewN n) A a[j].body cA (bs_below CA.body (below_drewN (Below.refl _ _) n))
        have h2 := fun n => conv_bs (wr.drewN n) B b[j].body cB (bs_below CB.body (below_drewN (Below.refl _ _) n))
        have HNE := hidH (fun (h : a[j] ≠ b[j]) => show ¬ (a = b) from fun e => h (by subst e; rfl))
        have HEQ := hidH (fun (h : a[j] = b[j]) => show (∀ t, t < j + 1 → a[t]? = b[t]?) from fun t ht => by
          by_cases e : t = j
          · subst e; rw [List.getElem?_eq_getElem hlt, List.getElem?_eq_getElem hlb, h]
          · exact hEq t (by omega))
        have HS := hidH (str_eqb HX.out HY.out)
        obtain ⟨x, hx⟩ : ∃ x, a[j] = x := ⟨_, rfl⟩
        obtain ⟨y, hy⟩ : ∃ y, b[j] = y := ⟨_, rfl⟩
        simp only [hx] at c0 c1 c2 h1 HX HNE HEQ HS
        simp only [hy] at d0 d1 d2 h2 HY HNE HEQ HS
        have HBW := hidH hBw
        clear hca hcb CA CB hEq hBw hx hy
        by_cases e1 : x.kind = y.kind
        · have f1 : (x.kind != y.kind) = false := by rw [bne_eq_false_iff_eq]; exact e1
          by_cases e2 : x.flags = y.flags
          · have f2 : (x.flags != y.flags) = false := by rw [bne_eq_false_iff_eq]; exact e2
            by_cases e3 : x.body = y.body
            · have HXY := hidH (chk_eq.2 ⟨e1, e2, e3⟩)
              have f3 : ((strOfNums x.body).toList == (strOfNums y.body).toList) = true := by rw [HS.out, decide_eq_true e3]
              clear e1 e2 e3
              go_wp2
              go_quiet (fail)
              go_wp2
              exact ⟨⟨j + 1, by omega, by go_num, HEQ.out HXY.out, below_drewN HBW.out _⟩, by simp [intOf]; omega⟩
            · have HXY := hidH (HNE.out (fun h => e3 (chk_eq.1 h).2.2))
              have f3 : ((strOfNums x.body).toList == (strOfNums y.body).toList) = false := by rw [HS.out, decide_eq_false e3]
              clear e1 e2 e3
              go_wp2
              go_quiet (fail)
              go_wp2
              go_ret
              exact ⟨false, rfl, ⟨(fun h => by cases h), fun h => absurd h HXY.out⟩, below_drewN HBW.out _⟩
          · have f2 : (x.flags != y.flags) = true := by rw [bne_iff_ne]; exact e2
            have HXY := hidH (HNE.out (fun h => e2 (chk_eq.1 h).2.1))
            clear e1 e2
            go_wp2
            go_quiet (fail)
            go_wp2
            go_ret
            exact ⟨false, rfl, ⟨(fun h => by cases h), fun h => absurd h HXY.out⟩, below_drewN HBW.out _⟩
        · have f1 : (x.kind != y.kind) = true := by rw [bne_iff_ne]; exact e1
          have HXY := hidH (HNE.out (fun h => e1 (chk_eq.1 h).1))
          clear e1
          go_wp2
          go_quiet (fail)
          go_wp2
          go_ret
          exact ⟨false, rfl, ⟨(fun h => by cases h), fun h => absurd h HXY.out⟩, below_drewN HBW.out _⟩
      · obtain rfl : j = a.length := by omega
        have HE := hidH (show a = b from List.ext_getElem? fun t => by
          by_cases h : t < a.length
          · exact hEq t h
          · have := HL.out
            rw [List.getElem?_eq_none (by omega), List.getElem?_eq_none (by omega)])
        have HBW := hidH hBw
        clear hEq hBw hlt hj
        go_wp2
        go_ret
        exact ⟨true, rfl, ⟨fun _ => HE.out, fun _ => rfl⟩, HBW.out⟩
  · have hd : ((a.length : Int) != (b.length : Int)) = true := by rw [bne_iff_ne]; omega
    have HL := hidH (show ¬ a = b from fun h => hl (by rw [h]))
    clear hA hB ba bb hl
    go_enter Tryd.func51, Tryd.ntmps51
    go_wp2
    go_ret
    exact ⟨false, rfl, ⟨(fun h => by cases h), fun h => absurd h HL.out⟩, Below.refl _ _⟩
set_option maxHeartbeats 1000000 in
theorem samePk_spec (ta tb : Int) (PA PB : Option Addr) (a b : List Chk) (ca cb : Nat) (w : World) (hA : Cs w PA a) (hB : Cs w PB b) (ba : ∀ x ∈ a, Bytes x.body) (bb : ∀ x ∈ b, Bytes x.body) (hm : (a.length : Int) ≤ 9223372036854775807) (hm2 : (b.length : Int) ≤ 9223372036854775807) :
    Calls Tryd.prog 17 #[pkV ta PA a.length ca, pkV tb PB b.length cb] w fun e w' => ∃ r : Bool, e = .returned (.bool r) ∧ (r = true ↔ ta = tb ∧ a = b) ∧ Below w.heap.size w w' := by
  have B2 := bal (bal (Below.refl w.heap.size w) (.cells #[.int .i64 ta, .slice PA a.length ca] 26)) (.cells #[.int .i64 tb, .slice PB b.length cb] 26)
  have B2' := bal (bal (Below.refl w.heap.size w) (.cells #[.int .i64 ta, .slice PA a.length ca] 26)) (.cells #[.int .i64 tb, .slice PB b.length cb] 26)
  have hs := same4_any PA PB a b ca cb _ (hA.below B2) (hB.below B2) ba bb hm hm2
  have HS := hidH hs
  have HB := hidH B2'
  unfold pkV
  clear hA hB ba bb B2 B2' hs
  by_cases e1 : ta = tb
  · have f1 : (ta == tb) = true := by rw [beq_iff_eq]; exact e1
    have HE := hidH e1
    clear e1
    go_enter Tryd.func17, Tryd.ntmps17
    go_wp2_with fail
    refine HS.out.mono ?_
    rintro e w3 ⟨r, rfl, hr, b3⟩
    have HR := hidH hr
    have B3 := hidH (btr HB.out b3)
    clear hr b3
    go_wp2
    go_ret
    exact ⟨r, by cases r <;> rfl, ⟨fun h => ⟨HE.out, HR.out.1 h⟩, fun h => HR.out.2 h.2⟩, B3.out⟩
  · have f1 : (ta == tb) = false := by rw [beq_eq_false_iff_ne]; exact e1
    have HE := hidH e1
    clear e1 hm hm2
    go_enter Tryd.func17, Tryd.ntmps17
    go_wp2
    go_ret
    exact ⟨false, rfl, ⟨(fun h => by cases h), fun h => absurd h.1 HE.out⟩, HB.out⟩
end Go.Proofs.YtepcikghhnfacaaDoor
