/- Chapter 8: SameDatas, the program's and the model's. (WRITTEN BY tools/same8.py) -/
import Derived.Test.YtncnibkojneejaaS8DA
import Derived.BigQuiet
namespace Go.Proofs.Ytncnibkojneejaa
open Go.RowKit Go.Deep

theorem at_Data {w : World} {r : List DataM} {v : Value} (h : Rd w (st_Data r) v) {j : Nat} (hj : j < r.length) :
    ∃ g o c A cA, v = .slice (some ⟨g, o, none⟩) r.length c ∧ g < w.heap.size ∧ w.cell? ⟨g, o + j * 7, none⟩ = some (.int .i64 r[j].Tsn) ∧ w.cell? ⟨g, o + j * 7 + 1, none⟩ = some (.int .i64 r[j].Stream) ∧ w.cell? ⟨g, o + j * 7 + 2, none⟩ = some (.int .i64 r[j].Seq) ∧ w.cell? ⟨g, o + j * 7 + 3, none⟩ = some (.bool r[j].First) ∧ w.cell? ⟨g, o + j * 7 + 4, none⟩ = some (.bool r[j].Last) ∧ w.cell? ⟨g, o + j * 7 + 5, none⟩ = some (.bool r[j].Unordered) ∧ w.cell? ⟨g, o + j * 7 + 6, none⟩ = some (.slice A r[j].Piece.length cA) ∧ Rd w (.bs r[j].Piece) (.slice A r[j].Piece.length cA) := by
  obtain ⟨gb, ob, cb, eb, hgb, RB⟩ := Rd.row (f := DataM.vs) (W := 7) (fun _ => rfl) h hj
  obtain ⟨u0, p0, t0⟩ := RB 0 (.int r[j].Tsn) rfl
  obtain ⟨u1, p1, t1⟩ := RB 1 (.int r[j].Stream) rfl
  obtain ⟨u2, p2, t2⟩ := RB 2 (.int r[j].Seq) rfl
  obtain ⟨u3, p3, t3⟩ := RB 3 (.bool r[j].First) rfl
  obtain ⟨u4, p4, t4⟩ := RB 4 (.bool r[j].Last) rfl
  obtain ⟨u5, p5, t5⟩ := RB 5 (.bool r[j].Unordered) rfl
  obtain ⟨u6, p6, t6⟩ := RB 6 (.bs r[j].Piece) rfl
  have e0 := t0.int_out
  subst e0
  have e1 := t1.int_out
  subst e1
  have e2 := t2.int_out
  subst e2
  have e3 := t3.bool_out
  subst e3
  have e4 := t4.bool_out
  subst e4
  have e5 := t5.bool_out
  subst e5
  rw [Nat.add_zero] at p0
  obtain ⟨A, cA, e⟩ := t6.bs_sh
  subst e
  exact ⟨gb, ob, cb, A, cA, eb, hgb, p0, p1, p2, p3, p4, p5, p6, t6⟩
theorem wfb_Data {r : List DataM} (h : WfV (st_Data r)) : ∀ x ∈ r, Bytes x.Piece := by
  intro x hx
  have h1 : WfA (r.flatMap DataM.vs) := h
  induction r with
  | nil => simp at hx
  | cons y r ih =>
    rw [List.flatMap_cons] at h1
    have h2 : WfV (.int y.Tsn) ∧ WfV (.int y.Stream) ∧ WfV (.int y.Seq) ∧ WfV (.bool y.First) ∧ WfV (.bool y.Last) ∧ WfV (.bool y.Unordered) ∧ WfV (.bs y.Piece) ∧ WfA (r.flatMap DataM.vs) := h1
    rcases List.mem_cons.1 hx with rfl | hx
    · exact h2.2.2.2.2.2.2.1
    · exact ih h2.2.2.2.2.2.2.2 hx h2.2.2.2.2.2.2.2
set_option maxRecDepth 100000 in
set_option maxHeartbeats 2000000 in
theorem eqFunc_Data (a b : List DataM) (v u : Value) (w : World) (hA : Rd w (st_Data a) v) (hB : Rd w (st_Data b) u) (ba : ∀ x ∈ a, Bytes x.Piece) (bb : ∀ x ∈ b, Bytes x.Piece) :
    Calls Try.prog 81 #[v, u, .func (.func 82) #[] #[]] w (EqG a b w) := by
  obtain ⟨PA, ca, rfl⟩ := st_Data_sh hA
  obtain ⟨PB, cb, rfl⟩ := st_Data_sh hB
  have hm : (a.length : Int) ≤ 9223372036854775807 := Rd.st_len hA
  have HA := hidH (fun (u : World) (h : Below w.heap.size w u) => Rd.below h _ hA)
  have HB := hidH (fun (u : World) (h : Below w.heap.size w u) => Rd.below h _ hB)
  have HBA := hidH ba
  have HBB := hidH bb
  clear hA hB ba bb
  by_cases hl : a.length = b.length
  · have hd : ((a.length : Int) != (b.length : Int)) = false := by rw [bne_eq_false_iff_eq]; omega
    have HL := hidH hl
    clear hl
    go_enter Try.func81, Try.ntmps81
    go_wp2
    go_loopw [17] (fun i wr => ∃ j : Nat, j ≤ a.length ∧ i = .int .i64 j ∧ (∀ t, t < j → a[t]? = b[t]?) ∧ Below w.heap.size w wr) (fun i _ => a.length - (intOf i).toNat)
    case atStart => exact ⟨0, by omega, rfl, fun t ht => by omega, Below.refl _ _⟩
    case round =>
      obtain ⟨j, hj, rfl, hEq, hBw⟩ := hrel
      by_cases hlt : j < a.length
      · have hj0 : (0 : Int) ≤ (j : Int) := by omega
        have hj1 : (j : Int) < (a.length : Int) := by omega
        have hlb : j < b.length := by have := HL.out; omega
        have hj2 : (j : Int) < (b.length : Int) := by omega
        obtain ⟨ga, oa, c', A, cA, e, hga, c0, c1, c2, c3, c4, c5, c6, SA⟩ := at_Data (HA.out _ hBw) hlt
        injection e with e1 e2 e3
        subst e1 e3
        obtain ⟨gb, ob, c', B, cB, e, hgb, b0, b1, b2, b3, b4, b5, b6, SB⟩ := at_Data (HB.out _ hBw) hlb
        injection e with e1 e2 e3
        subst e1 e3
        have B1 := bal (Below.refl wr.heap.size wr) (.cells #[.int .i64 a[j].Tsn, .int .i64 a[j].Stream, .int .i64 a[j].Seq, .bool a[j].First, .bool a[j].Last, .bool a[j].Unordered, .slice A a[j].Piece.length cA] 76)
        have d0 := (B1.cell (p := ⟨gb, ob + j * 7, none⟩) hgb).trans b0
        have d1 := (B1.cell (p := ⟨gb, ob + j * 7 + 1, none⟩) hgb).trans b1
        have d2 := (B1.cell (p := ⟨gb, ob + j * 7 + 2, none⟩) hgb).trans b2
        have d3 := (B1.cell (p := ⟨gb, ob + j * 7 + 3, none⟩) hgb).trans b3
        have d4 := (B1.cell (p := ⟨gb, ob + j * 7 + 4, none⟩) hgb).trans b4
        have d5 := (B1.cell (p := ⟨gb, ob + j * 7 + 5, none⟩) hgb).trans b5
        have d6 := (B1.cell (p := ⟨gb, ob + j * 7 + 6, none⟩) hgb).trans b6
        have HNE := hidH (fun (h : a[j] ≠ b[j]) => show ¬ (a = b) from fun e => h (by subst e; rfl))
        have HEQ := hidH (fun (h : a[j] = b[j]) => show (∀ t, t < j + 1 → a[t]? = b[t]?) from fun t ht => by
          by_cases e : t = j
          · subst e; rw [List.getElem?_eq_getElem hlt, List.getElem?_eq_getElem hlb, h]
          · exact hEq t (by omega))
        have HSA := hidH (fun (u : World) (h1 : Bs u A a[j].Piece) (h2 : Bs u B b[j].Piece) => sameData_any a[j] b[j] A B cA cB u h1 h2 (HBA.out _ (List.getElem_mem hlt)) (HBB.out _ (List.getElem_mem hlb)))
        obtain ⟨x, hx⟩ : ∃ x, a[j] = x := ⟨_, rfl⟩
        obtain ⟨y, hy⟩ : ∃ y, b[j] = y := ⟨_, rfl⟩
        simp only [hx] at c0 c1 c2 c3 c4 c5 c6 d0 d1 d2 d3 d4 d5 d6 HSA HNE HEQ SA B1
        simp only [hy] at d0 d1 d2 d3 d4 d5 d6 HSA HNE HEQ SB
        have B2 := bal B1 (.cells #[.int .i64 y.Tsn, .int .i64 y.Stream, .int .i64 y.Seq, .bool y.First, .bool y.Last, .bool y.Unordered, .slice B y.Piece.length cB] 76)
        have SA2 := hidH (bs_below (bsOf SA) B2)
        have SB2 := hidH (bs_below (bsOf SB) B2)
        have HBW := hidH (btr hBw B2)
        clear hEq hBw hx hy B1 B2 SA SB b0 b1 b2 b3 b4 b5 b6
        go_wp2_with fail
        refine (HSA.out _ SA2.out SB2.out).mono ?_
        rintro e w3 ⟨r, rfl, hr, b3⟩
        have HR := hidH hr
        have B3 := hidH (btr HBW.out b3)
        clear HSA SA2 SB2 hr b3 c0 c1 c2 c3 c4 c5 c6 d0 d1 d2 d3 d4 d5 d6
        rcases r with _ | _
        · go_wp2
          go_ret
          exact ⟨false, rfl, ⟨(fun h => by cases h), fun h => absurd h (HNE.out fun e => by have := HR.out.2 e; cases this)⟩, B3.out⟩
        · go_wp2
          go_roundw
          case rel => exact ⟨j + 1, by omega, by go_num, HEQ.out (HR.out.1 (by simp)), B3.out⟩
          case measure => simp [intOf]; omega
      · obtain rfl : j = a.length := by omega
        have HE := hidH (show a = b from List.ext_getElem? fun t => by
          by_cases h : t < a.length
          · exact hEq t h
          · have := HL.out
            rw [List.getElem?_eq_none (by omega), List.getElem?_eq_none (by omega)])
        have HBW := hidH hBw
        clear hEq hBw hlt hj
        go_wp2
        go_ret
        exact ⟨true, rfl, ⟨fun _ => HE.out, fun _ => rfl⟩, HBW.out⟩
  · have hd : ((a.length : Int) != (b.length : Int)) = true := by rw [bne_iff_ne]; omega
    have HL := hidH (show ¬ a = b from fun h => hl (by rw [h]))
    clear hl
    go_enter Try.func81, Try.ntmps81
    go_wp2
    go_ret
    exact ⟨false, rfl, ⟨(fun h => by cases h), fun h => absurd h HL.out⟩, Below.refl _ _⟩
set_option maxHeartbeats 1000000 in
theorem sds_impl (a : List DataM) (v : Value) (b : List DataM) (v2 : Value) (u : World) (h : Rd u (st_Data a) v) (hw : WfV (st_Data a)) (_ : tot (st_Data a) ≤ 1048576) (h2 : Rd u (st_Data b) v2) (hw2 : WfV (st_Data b)) (_ : tot (st_Data b) ≤ 1048576) :
    Calls Try.prog 63 #[v, v2] u (BolR (sameG a b) u) := by
  have HS := hidH (eqFunc_Data a b v v2 u h h2 (wfb_Data hw) (wfb_Data hw2))
  clear hw hw2
  obtain ⟨PA, ca, rfl⟩ := st_Data_sh h
  obtain ⟨PB, cb, rfl⟩ := st_Data_sh h2
  clear h h2
  go_enter Try.func63, Try.ntmps63
  go_wp2_with fail
  refine HS.out.mono ?_
  intro e w3 hE
  obtain ⟨rfl, h3⟩ := hE.bol
  have H3 := hidH h3
  clear hE h3
  go_wp2
  go_ret
  exact ⟨rfl, H3.out⟩
set_option maxRecDepth 100000 in
set_option maxHeartbeats 2000000 in
theorem sdsE_spec (a b : List DataM) (v u : Value) (w : World) (hA : Rd w (st_Data a) v) (hB : Rd w (st_Data b) u) (ba : ∀ x ∈ a, Bytes x.Piece) (bb : ∀ x ∈ b, Bytes x.Piece) :
    Calls Try.prog 61 #[v, u] w (EqG a b w) := by
  obtain ⟨PA, ca, rfl⟩ := st_Data_sh hA
  obtain ⟨PB, cb, rfl⟩ := st_Data_sh hB
  have hm : (a.length : Int) ≤ 9223372036854775807 := Rd.st_len hA
  have HA := hidH (fun (u : World) (h : Below w.heap.size w u) => Rd.below h _ hA)
  have HB := hidH (fun (u : World) (h : Below w.heap.size w u) => Rd.below h _ hB)
  have HBA := hidH ba
  have HBB := hidH bb
  clear hA hB ba bb
  by_cases hl : a.length = b.length
  · have hd : ((a.length : Int) != (b.length : Int)) = false := by rw [bne_eq_false_iff_eq]; omega
    have HL := hidH hl
    clear hl
    go_enter Try.func61, Try.ntmps61
    go_wp2
    go_loopw [5] (fun i wr => ∃ j : Nat, j ≤ a.length ∧ i = .int .i64 j ∧ (∀ t, t < j → a[t]? = b[t]?) ∧ Below w.heap.size w wr) (fun i _ => a.length - (intOf i).toNat)
    case atStart => exact ⟨0, by omega, rfl, fun t ht => by omega, Below.refl _ _⟩
    case round =>
      obtain ⟨j, hj, rfl, hEq, hBw⟩ := hrel
      by_cases hlt : j < a.length
      · have hj0 : (0 : Int) ≤ (j : Int) := by omega
        have hj1 : (j : Int) < (a.length : Int) := by omega
        have hlb : j < b.length := by have := HL.out; omega
        have hj2 : (j : Int) < (b.length : Int) := by omega
        obtain ⟨ga, oa, c', A, cA, e, hga, c0, c1, c2, c3, c4, c5, c6, SA⟩ := at_Data (HA.out _ hBw) hlt
        injection e with e1 e2 e3
        subst e1 e3
        obtain ⟨gb, ob, c', B, cB, e, hgb, d0, d1, d2, d3, d4, d5, d6, SB⟩ := at_Data (HB.out _ hBw) hlb
        injection e with e1 e2 e3
        subst e1 e3
        have HC := hidH (fun n => l8Same_any a[j] b[j] A B cA cB ga (oa + j * 7) gb (ob + j * 7) (wr.drewN n) (((below_drewN (Below.refl _ _) n).cell (p := ⟨ga, oa + j * 7, none⟩) hga).trans c0) (((below_drewN (Below.refl _ _) n).cell (p := ⟨ga, oa + j * 7 + 1, none⟩) hga).trans c1) (((below_drewN (Below.refl _ _) n).cell (p := ⟨ga, oa + j * 7 + 2, none⟩) hga).trans c2) (((below_drewN (Below.refl _ _) n).cell (p := ⟨ga, oa + j * 7 + 3, none⟩) hga).trans c3) (((below_drewN (Below.refl _ _) n).cell (p := ⟨ga, oa + j * 7 + 4, none⟩) hga).trans c4) (((below_drewN (Below.refl _ _) n).cell (p := ⟨ga, oa + j * 7 + 5, none⟩) hga).trans c5) (((below_drewN (Below.refl _ _) n).cell (p := ⟨ga, oa + j * 7 + 6, none⟩) hga).trans c6) (((below_drewN (Below.refl _ _) n).cell (p := ⟨gb, ob + j * 7, none⟩) hgb).trans d0) (((below_drewN (Below.refl _ _) n).cell (p := ⟨gb, ob + j * 7 + 1, none⟩) hgb).trans d1) (((below_drewN (Below.refl _ _) n).cell (p := ⟨gb, ob + j * 7 + 2, none⟩) hgb).trans d2) (((below_drewN (Below.refl _ _) n).cell (p := ⟨gb, ob + j * 7 + 3, none⟩) hgb).trans d3) (((below_drewN (Below.refl _ _) n).cell (p := ⟨gb, ob + j * 7 + 4, none⟩) hgb).trans d4) (((below_drewN (Below.refl _ _) n).cell (p := ⟨gb, ob + j * 7 + 5, none⟩) hgb).trans d5) (((below_drewN (Below.refl _ _) n).cell (p := ⟨gb, ob + j * 7 + 6, none⟩) hgb).trans d6) (bs_below (bsOf SA) (below_drewN (Below.refl _ _) n)) (bs_below (bsOf SB) (below_drewN (Below.refl _ _) n)) (HBA.out _ (List.getElem_mem hlt)) (HBB.out _ (List.getElem_mem hlb)))
        have HNE := hidH (fun (h : sameG a[j] b[j] = false) => show ¬ (a = b) from fun e => by subst e; rw [sameG_yes rfl] at h; cases h)
        have HEQ := hidH (fun (h : sameG a[j] b[j] = true) => show (∀ t, t < j + 1 → a[t]? = b[t]?) from fun t ht => by
          by_cases e : t = j
          · subst e; rw [List.getElem?_eq_getElem hlt, List.getElem?_eq_getElem hlb, (show a[t] = b[t] by simpa [sameG] using h)]
          · exact hEq t (by omega))
        obtain ⟨r, hr⟩ : ∃ r, sameG a[j] b[j] = r := ⟨_, rfl⟩
        simp only [hr] at HC HNE HEQ
        have HBW := hidH hBw
        clear hEq hBw hr SA SB c0 c1 c2 c3 c4 c5 c6 d0 d1 d2 d3 d4 d5 d6
        rcases r with _ | _
        · go_wp2
          go_quiet ((go_at_call 80; exact Calls.quiet_of (HC.out _)))
          go_wp2
          go_ret
          exact ⟨false, rfl, ⟨(fun h => by cases h), fun h => absurd h (HNE.out (by simp))⟩, below_drewN HBW.out _⟩
        · go_wp2
          go_quiet ((go_at_call 80; exact Calls.quiet_of (HC.out _)))
          go_wp2
          exact ⟨⟨j + 1, by omega, by go_num, HEQ.out (by simp), below_drewN HBW.out _⟩, by simp [intOf]; omega⟩
      · obtain rfl : j = a.length := by omega
        have HE := hidH (show a = b from List.ext_getElem? fun t => by
          by_cases h : t < a.length
          · exact hEq t h
          · have := HL.out
            rw [List.getElem?_eq_none (by omega), List.getElem?_eq_none (by omega)])
        have HBW := hidH hBw
        clear hEq hBw hlt hj
        go_wp2
        go_ret
        exact ⟨true, rfl, ⟨fun _ => HE.out, fun _ => rfl⟩, HBW.out⟩
  · have hd : ((a.length : Int) != (b.length : Int)) = true := by rw [bne_iff_ne]; omega
    have HL := hidH (show ¬ a = b from fun h => hl (by rw [h]))
    clear hl
    go_enter Try.func61, Try.ntmps61
    go_wp2
    go_ret
    exact ⟨false, rfl, ⟨(fun h => by cases h), fun h => absurd h HL.out⟩, Below.refl _ _⟩
theorem sds_spec (a : List DataM) (v : Value) (b : List DataM) (v2 : Value) (u : World) (h : Rd u (st_Data a) v) (hw : WfV (st_Data a)) (_ : tot (st_Data a) ≤ 1048576) (h2 : Rd u (st_Data b) v2) (hw2 : WfV (st_Data b)) (_ : tot (st_Data b) ≤ 1048576) :
    Calls Try.prog 61 #[v, v2] u (BolR (sameG a b) u) := (sdsE_spec a b v v2 u h h2 (wfb_Data hw) (wfb_Data hw2)).mono (fun _ _ h => h.bol)
end Go.Proofs.Ytncnibkojneejaa
