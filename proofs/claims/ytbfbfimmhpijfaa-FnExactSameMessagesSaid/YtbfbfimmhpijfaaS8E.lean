/- Chapter 8: SameMessages, the program's and the model's. (WRITTEN BY tools/same8.py) -/
import Derived.Test.YtbfbfimmhpijfaaM8
import Derived.Test.YtbfbfimmhpijfaaUniR
import Derived.Test.YtbfbfimmhpijfaaImB
import Derived.BigQuiet
namespace Go.Proofs.Ytbfbfimmhpijfaa
open Go.RowKit Go.Deep

theorem at_Message {w : World} {r : List MessageM} {v : Value} (h : Rd w (st_Message r) v) {j : Nat} (hj : j < r.length) :
    ∃ g o c A cA, v = .slice (some ⟨g, o, none⟩) r.length c ∧ g < w.heap.size ∧ w.cell? ⟨g, o + j * 3, none⟩ = some (.int .i64 r[j].Stream) ∧ w.cell? ⟨g, o + j * 3 + 1, none⟩ = some (.bool r[j].Unordered) ∧ w.cell? ⟨g, o + j * 3 + 2, none⟩ = some (.slice A r[j].Bytes.length cA) ∧ Rd w (.bs r[j].Bytes) (.slice A r[j].Bytes.length cA) := by
  obtain ⟨gb, ob, cb, eb, hgb, RB⟩ := Rd.row (f := MessageM.vs) (W := 3) (fun _ => rfl) h hj
  obtain ⟨u0, p0, t0⟩ := RB 0 (.int r[j].Stream) rfl
  obtain ⟨u1, p1, t1⟩ := RB 1 (.bool r[j].Unordered) rfl
  obtain ⟨u2, p2, t2⟩ := RB 2 (.bs r[j].Bytes) rfl
  have e0 := t0.int_out
  subst e0
  have e1 := t1.bool_out
  subst e1
  rw [Nat.add_zero] at p0
  obtain ⟨A, cA, e⟩ := t2.bs_sh
  subst e
  exact ⟨gb, ob, cb, A, cA, eb, hgb, p0, p1, p2, t2⟩
theorem wfb_Message {r : List MessageM} (h : WfV (st_Message r)) : ∀ x ∈ r, Bytes x.Bytes := by
  intro x hx
  have h1 : WfA (r.flatMap MessageM.vs) := h
  induction r with
  | nil => simp at hx
  | cons y r ih =>
    rw [List.flatMap_cons] at h1
    have h2 : WfV (.int y.Stream) ∧ WfV (.bool y.Unordered) ∧ WfV (.bs y.Bytes) ∧ WfA (r.flatMap MessageM.vs) := h1
    rcases List.mem_cons.1 hx with rfl | hx
    · exact h2.2.2.1
    · exact ih h2.2.2.2 hx h2.2.2.2
set_option maxHeartbeats 1000000 in
theorem sameMessage_any (x y : MessageM) (A B : Option Addr) (ca cb : Nat) (w : World) (hA : Bs w A x.Bytes) (hB : Bs w B y.Bytes) (bx : Bytes x.Bytes) (by_ : Bytes y.Bytes) :
    Calls Try.prog 62 #[.agg #[.int .i64 x.Stream, .bool x.Unordered, .slice A x.Bytes.length ca], .agg #[.int .i64 y.Stream, .bool y.Unordered, .slice B y.Bytes.length cb]] w (EqG x y w) := by
  have B2 := bal (bal (Below.refl w.heap.size w) (.cells #[.int .i64 x.Stream, .bool x.Unordered, .slice A x.Bytes.length ca] 25)) (.cells #[.int .i64 y.Stream, .bool y.Unordered, .slice B y.Bytes.length cb] 25)
  have HE := hidH (fun u h1 h2 => bEqual_any A B x.Bytes y.Bytes ca cb u h1 h2 bx by_)
  have HB := hidH B2
  have HA1 := hidH (bs_below hA B2)
  have HB1 := hidH (bs_below hB B2)
  have HQ := hidH (@msg_eq x y)
  clear hA hB bx by_ B2
  by_cases e0 : x.Stream = y.Stream
  case neg =>
    have f0 : (x.Stream == y.Stream) = false := by rw [beq_eq_false_iff_ne]; exact e0
    have HX := hidH (show ¬ x = y from fun h => e0 (HQ.out.1 h).1)
    clear HQ e0
    go_enter Try.func62, Try.ntmps62
    go_wp2
    go_ret
    exact ⟨false, rfl, ⟨(fun h => by cases h), fun h => absurd h HX.out⟩, HB.out⟩
  have f0 : (x.Stream == y.Stream) = true := by rw [beq_iff_eq]; exact e0
  by_cases e1 : x.Unordered = y.Unordered
  case neg =>
    have f1 : (x.Unordered == y.Unordered) = false := by rw [beq_eq_false_iff_ne]; exact e1
    have HX := hidH (show ¬ x = y from fun h => e1 (HQ.out.1 h).2.1)
    clear HQ e0 e1
    go_enter Try.func62, Try.ntmps62
    go_wp2
    go_ret
    exact ⟨false, rfl, ⟨(fun h => by cases h), fun h => absurd h HX.out⟩, HB.out⟩
  have f1 : (x.Unordered == y.Unordered) = true := by rw [beq_iff_eq]; exact e1
  have HX := hidH (fun (h : x.Bytes = y.Bytes) => HQ.out.2 ⟨e0, e1, h⟩)
  have HY := hidH (fun (h : x = y) => (HQ.out.1 h).2.2)
  clear HQ e0 e1
  go_enter Try.func62, Try.ntmps62
  go_wp2_with fail
  refine (HE.out _ HA1.out HB1.out).mono ?_
  rintro e w3 ⟨rfl, rfl⟩
  clear HE
  obtain ⟨d, hd⟩ : ∃ d : Bool, decide (x.Bytes = y.Bytes) = d := ⟨_, rfl⟩
  rw [hd]
  have HD := hidH hd
  clear hd
  go_wp2
  go_ret
  refine ⟨d, by cases d <;> rfl, ⟨fun h => HX.out (by have := HD.out; rw [h] at this; exact of_decide_eq_true this), fun h => by rw [← HD.out]; exact decide_eq_true (HY.out h)⟩, HB.out⟩
set_option maxRecDepth 100000 in
set_option maxHeartbeats 2000000 in
theorem eqFunc_Message (a b : List MessageM) (v u : Value) (w : World) (hA : Rd w (st_Message a) v) (hB : Rd w (st_Message b) u) (ba : ∀ x ∈ a, Bytes x.Bytes) (bb : ∀ x ∈ b, Bytes x.Bytes) :
    Calls Try.prog 61 #[v, u, .func (.func 62) #[] #[]] w (EqG a b w) := by
  obtain ⟨PA, ca, rfl⟩ := st_Message_sh hA
  obtain ⟨PB, cb, rfl⟩ := st_Message_sh hB
  have hm : (a.length : Int) ≤ 9223372036854775807 := Rd.st_len hA
  have HA := hidH (fun (u : World) (h : Below w.heap.size w u) => Rd.below h _ hA)
  have HB := hidH (fun (u : World) (h : Below w.heap.size w u) => Rd.below h _ hB)
  have HBA := hidH ba
  have HBB := hidH bb
  clear hA hB ba bb
  by_cases hl : a.length = b.length
  · have hd : ((a.length : Int) != (b.length : Int)) = false := by rw [bne_eq_false_iff_eq]; omega
    have HL := hidH hl
    clear hl
    go_enter Try.func61, Try.ntmps61
    go_wp2
    go_loopw [17] (fun i wr => ∃ j : Nat, j ≤ a.length ∧ i = .int .i64 j ∧ (∀ t, t < j → a[t]? = b[t]?) ∧ Below w.heap.size w wr) (fun i _ => a.length - (intOf i).toNat)
    case atStart => exact ⟨0, by omega, rfl, fun t ht => by omega, Below.refl _ _⟩
    case round =>
      obtain ⟨j, hj, rfl, hEq, hBw⟩ := hrel
      by_cases hlt : j < a.length
      · have hj0 : (0 : Int) ≤ (j : Int) := by omega
        have hj1 : (j : Int) < (a.length : Int) := by omega
        have hlb : j < b.length := by have := HL.out; omega
        have hj2 : (j : Int) < (b.length : Int) := by omega
        obtain ⟨ga, oa, c', A, cA, e, hga, c0, c1, c2, SA⟩ := at_Message (HA.out _ hBw) hlt
        injection e with e1 e2 e3
        subst e1 e3
        obtain ⟨gb, ob, c', B, cB, e, hgb, b0, b1, b2, SB⟩ := at_Message (HB.out _ hBw) hlb
        injection e with e1 e2 e3
        subst e1 e3
        have B1 := bal (Below.refl wr.heap.size wr) (.cells #[.int .i64 a[j].Stream, .bool a[j].Unordered, .slice A a[j].Bytes.length cA] 25)
        have d0 := (B1.cell (p := ⟨gb, ob + j * 3, none⟩) hgb).trans b0
        have d1 := (B1.cell (p := ⟨gb, ob + j * 3 + 1, none⟩) hgb).trans b1
        have d2 := (B1.cell (p := ⟨gb, ob + j * 3 + 2, none⟩) hgb).trans b2
        have HNE := hidH (fun (h : a[j] ≠ b[j]) => show ¬ (a = b) from fun e => h (by subst e; rfl))
        have HEQ := hidH (fun (h : a[j] = b[j]) => show (∀ t, t < j + 1 → a[t]? = b[t]?) from fun t ht => by
          by_cases e : t = j
          · subst e; rw [List.getElem?_eq_getElem hlt, List.getElem?_eq_getElem hlb, h]
          · exact hEq t (by omega))
        have HSA := hidH (fun (u : World) (h1 : Bs u A a[j].Bytes) (h2 : Bs u B b[j].Bytes) => sameMessage_any a[j] b[j] A B cA cB u h1 h2 (HBA.out _ (List.getElem_mem hlt)) (HBB.out _ (List.getElem_mem hlb)))
        obtain ⟨x, hx⟩ : ∃ x, a[j] = x := ⟨_, rfl⟩
        obtain ⟨y, hy⟩ : ∃ y, b[j] = y := ⟨_, rfl⟩
        simp only [hx] at c0 c1 c2 d0 d1 d2 HSA HNE HEQ SA B1
        simp only [hy] at d0 d1 d2 HSA HNE HEQ SB
        have B2 := bal B1 (.cells #[.int .i64 y.Stream, .bool y.Unordered, .slice B y.Bytes.length cB] 25)
        have SA2 := hidH (bs_below (bsOf SA) B2)
        have SB2 := hidH (bs_below (bsOf SB) B2)
        have HBW := hidH (btr hBw B2)
        clear hEq hBw hx hy B1 B2 SA SB b0 b1 b2
        go_wp2_with fail
        refine (HSA.out _ SA2.out SB2.out).mono ?_
        rintro e w3 ⟨r, rfl, hr, b3⟩
        have HR := hidH hr
        have B3 := hidH (btr HBW.out b3)
        clear HSA SA2 SB2 hr b3 c0 c1 c2 d0 d1 d2
        rcases r with _ | _
        · go_wp2
          go_ret
          exact ⟨false, rfl, ⟨(fun h => by cases h), fun h => absurd h (HNE.out fun e => by have := HR.out.2 e; cases this)⟩, B3.out⟩
        · go_wp2
          go_roundw
          case rel => exact ⟨j + 1, by omega, by go_num, HEQ.out (HR.out.1 (by simp)), B3.out⟩
          case measure => simp [intOf]; omega
      · obtain rfl : j = a.length := by omega
        have HE := hidH (show a = b from List.ext_getElem? fun t => by
          by_cases h : t < a.length
          · exact hEq t h
          · have := HL.out
            rw [List.getElem?_eq_none (by omega), List.getElem?_eq_none (by omega)])
        have HBW := hidH hBw
        clear hEq hBw hlt hj
        go_wp2
        go_ret
        exact ⟨true, rfl, ⟨fun _ => HE.out, fun _ => rfl⟩, HBW.out⟩
  · have hd : ((a.length : Int) != (b.length : Int)) = true := by rw [bne_iff_ne]; omega
    have HL := hidH (show ¬ a = b from fun h => hl (by rw [h]))
    clear hl
    go_enter Try.func61, Try.ntmps61
    go_wp2
    go_ret
    exact ⟨false, rfl, ⟨(fun h => by cases h), fun h => absurd h HL.out⟩, Below.refl _ _⟩
set_option maxHeartbeats 1000000 in
theorem sms_impl (a : List MessageM) (v : Value) (b : List MessageM) (v2 : Value) (u : World) (h : Rd u (st_Message a) v) (hw : WfV (st_Message a)) (_ : tot (st_Message a) ≤ 1048576) (h2 : Rd u (st_Message b) v2) (hw2 : WfV (st_Message b)) (_ : tot (st_Message b) ≤ 1048576) :
    Calls Try.prog 18 #[v, v2] u (BolR (sameG a b) u) := by
  have HS := hidH (eqFunc_Message a b v v2 u h h2 (wfb_Message hw) (wfb_Message hw2))
  clear hw hw2
  obtain ⟨PA, ca, rfl⟩ := st_Message_sh h
  obtain ⟨PB, cb, rfl⟩ := st_Message_sh h2
  clear h h2
  go_enter Try.func18, Try.ntmps18
  go_wp2_with fail
  refine HS.out.mono ?_
  intro e w3 hE
  obtain ⟨rfl, h3⟩ := hE.bol
  have H3 := hidH h3
  clear hE h3
  go_wp2
  go_ret
  exact ⟨rfl, H3.out⟩
set_option maxRecDepth 100000 in
set_option maxHeartbeats 2000000 in
theorem smsE_spec (a b : List MessageM) (v u : Value) (w : World) (hA : Rd w (st_Message a) v) (hB : Rd w (st_Message b) u) (ba : ∀ x ∈ a, Bytes x.Bytes) (bb : ∀ x ∈ b, Bytes x.Bytes) :
    Calls Try.prog 34 #[v, u] w (EqG a b w) := by
  obtain ⟨PA, ca, rfl⟩ := st_Message_sh hA
  obtain ⟨PB, cb, rfl⟩ := st_Message_sh hB
  have hm : (a.length : Int) ≤ 9223372036854775807 := Rd.st_len hA
  have HA := hidH (fun (u : World) (h : Below w.heap.size w u) => Rd.below h _ hA)
  have HB := hidH (fun (u : World) (h : Below w.heap.size w u) => Rd.below h _ hB)
  have HBA := hidH ba
  have HBB := hidH bb
  clear hA hB ba bb
  by_cases hl : a.length = b.length
  · have hd : ((a.length : Int) != (b.length : Int)) = false := by rw [bne_eq_false_iff_eq]; omega
    have HL := hidH hl
    clear hl
    go_enter Try.func34, Try.ntmps34
    go_wp2
    go_loopw [5] (fun i wr => ∃ j : Nat, j ≤ a.length ∧ i = .int .i64 j ∧ (∀ t, t < j → a[t]? = b[t]?) ∧ Below w.heap.size w wr) (fun i _ => a.length - (intOf i).toNat)
    case atStart => exact ⟨0, by omega, rfl, fun t ht => by omega, Below.refl _ _⟩
    case round =>
      obtain ⟨j, hj, rfl, hEq, hBw⟩ := hrel
      by_cases hlt : j < a.length
      · have hj0 : (0 : Int) ≤ (j : Int) := by omega
        have hj1 : (j : Int) < (a.length : Int) := by omega
        have hlb : j < b.length := by have := HL.out; omega
        have hj2 : (j : Int) < (b.length : Int) := by omega
        obtain ⟨ga, oa, c', A, cA, e, hga, c0, c1, c2, SA⟩ := at_Message (HA.out _ hBw) hlt
        injection e with e1 e2 e3
        subst e1 e3
        obtain ⟨gb, ob, c', B, cB, e, hgb, d0, d1, d2, SB⟩ := at_Message (HB.out _ hBw) hlb
        injection e with e1 e2 e3
        subst e1 e3
        have HX := hidH (HBA.out _ (List.getElem_mem hlt))
        have HY := hidH (HBB.out _ (List.getElem_mem hlb))
        have h1 := fun n => conv_bs (wr.drewN n) A a[j].Bytes cA (bs_below (bsOf SA) (below_drewN (Below.refl _ _) n))
        have h2 := fun n => conv_bs (wr.drewN n) B b[j].Bytes cB (bs_below (bsOf SB) (below_drewN (Below.refl _ _) n))
        have HNE := hidH (fun (h : a[j] ≠ b[j]) => show ¬ (a = b) from fun e => h (by subst e; rfl))
        have HEQ := hidH (fun (h : a[j] = b[j]) => show (∀ t, t < j + 1 → a[t]? = b[t]?) from fun t ht => by
          by_cases e : t = j
          · subst e; rw [List.getElem?_eq_getElem hlt, List.getElem?_eq_getElem hlb, h]
          · exact hEq t (by omega))
        have HS := hidH (str_eqb HX.out HY.out)
        obtain ⟨x, hx⟩ : ∃ x, a[j] = x := ⟨_, rfl⟩
        obtain ⟨y, hy⟩ : ∃ y, b[j] = y := ⟨_, rfl⟩
        simp only [hx] at c0 c1 c2 h1 HX HNE HEQ HS
        simp only [hy] at d0 d1 d2 h2 HY HNE HEQ HS
        have HBW := hidH hBw
        have HQ := hidH (@msg_eq x y)
        clear hEq hBw hx hy SA SB
        by_cases e0 : x.Stream = y.Stream
        case neg =>
          have f0 : (x.Stream != y.Stream) = true := by rw [bne_iff_ne]; exact e0
          have HXY := hidH (HNE.out (fun h => e0 (HQ.out.1 h).1))
          clear HQ e0
          go_wp2
          go_quiet (fail)
          go_wp2
          go_ret
          exact ⟨false, rfl, ⟨(fun h => by cases h), fun h => absurd h HXY.out⟩, below_drewN HBW.out _⟩
        have f0 : (x.Stream != y.Stream) = false := by rw [bne_eq_false_iff_eq]; exact e0
        by_cases e1 : x.Unordered = y.Unordered
        case neg =>
          obtain ⟨p, hp⟩ : ∃ p, y.Unordered = p := ⟨_, rfl⟩
          have hq : x.Unordered = !p := by rw [hp] at e1; revert e1; cases x.Unordered <;> cases p <;> simp
          have HXY := hidH (HNE.out (fun h => e1 (HQ.out.1 h).2.1))
          rw [hp] at d1
          rw [hq] at c1
          clear HQ hp hq e0 e1
          cases p
          all_goals
            go_wp2
            go_quiet (fail)
            go_wp2
            go_ret
            exact ⟨false, rfl, ⟨(fun h => by cases h), fun h => absurd h HXY.out⟩, below_drewN HBW.out _⟩
        rw [e1] at c1
        by_cases e2 : x.Bytes = y.Bytes
        · have HXY := hidH (HQ.out.2 ⟨e0, e1, e2⟩)
          have f2 : ((strOfNums x.Bytes).toList == (strOfNums y.Bytes).toList) = true := by rw [HS.out, decide_eq_true e2]
          clear HQ e0 e1 e2
          go_wp2
          go_quiet (fail)
          go_wp2
          exact ⟨⟨j + 1, by omega, by go_num, HEQ.out HXY.out, below_drewN HBW.out _⟩, by simp [intOf]; omega⟩
        · have HXY := hidH (HNE.out (fun h => e2 (HQ.out.1 h).2.2))
          have f2 : ((strOfNums x.Bytes).toList == (strOfNums y.Bytes).toList) = false := by rw [HS.out, decide_eq_false e2]
          clear HQ e0 e1 e2
          go_wp2
          go_quiet (fail)
          go_wp2
          go_ret
          exact ⟨false, rfl, ⟨(fun h => by cases h), fun h => absurd h HXY.out⟩, below_drewN HBW.out _⟩
      · obtain rfl : j = a.length := by omega
        have HE := hidH (show a = b from List.ext_getElem? fun t => by
          by_cases h : t < a.length
          · exact hEq t h
          · have := HL.out
            rw [List.getElem?_eq_none (by omega), List.getElem?_eq_none (by omega)])
        have HBW := hidH hBw
        clear hEq hBw hlt hj
        go_wp2
        go_ret
        exact ⟨true, rfl, ⟨fun _ => HE.out, fun _ => rfl⟩, HBW.out⟩
  · have hd : ((a.length : Int) != (b.length : Int)) = true := by rw [bne_iff_ne]; omega
    have HL := hidH (show ¬ a = b from fun h => hl (by rw [h]))
    clear hl
    go_enter Try.func34, Try.ntmps34
    go_wp2
    go_ret
    exact ⟨false, rfl, ⟨(fun h => by cases h), fun h => absurd h HL.out⟩, Below.refl _ _⟩
theorem sms_spec (a : List MessageM) (v : Value) (b : List MessageM) (v2 : Value) (u : World) (h : Rd u (st_Message a) v) (hw : WfV (st_Message a)) (_ : tot (st_Message a) ≤ 1048576) (h2 : Rd u (st_Message b) v2) (hw2 : WfV (st_Message b)) (_ : tot (st_Message b) ≤ 1048576) :
    Calls Try.prog 34 #[v, v2] u (BolR (sameG a b) u) := (smsE_spec a b v v2 u h h2 (wfb_Message hw) (wfb_Message hw2)).mono (fun _ _ h => h.bol)
end Go.Proofs.Ytbfbfimmhpijfaa
