/- Chapter 6: SameSecrets, the program's and the model's. -/
import Derived.Test.YtjjileefdjjijaaS6F
import Derived.Test.YtjjileefdjjijaaImB
namespace Go.Proofs.Ytjjileefdjjijaa
open Go.RowKit Go.Deep

theorem sec_eq {x y : SecretM} : x = y ↔ x.Id = y.Id ∧ x.Bytes = y.Bytes := by cases x; cases y; simp
/-- What a comparison of two lists answers. -/
def EqL (a b : List SecretM) (w : World) (e : Ending) (w' : World) : Prop := ∃ r : Bool, e = .returned (.bool r) ∧ (r = true ↔ a = b) ∧ Below w.heap.size w w'
theorem EqL.bol {a b : List SecretM} {w : World} {e : Ending} {w' : World} (h : EqL a b w e w') : BolR (sameL a b) w e w' := by
  obtain ⟨r, rfl, h1, h2⟩ := h
  refine ⟨?_, h2⟩
  have : r = sameL a b := by rw [Bool.eq_iff_iff, h1, sameL_iff]
  rw [this]
theorem wf_body {r : List SecretM} (h : WfV (st_Secret r)) : ∀ x ∈ r, Bytes x.Bytes := by
  intro x hx
  have h1 : WfA (r.flatMap SecretM.vs) := h
  induction r with
  | nil => simp at hx
  | cons y r ih =>
    rw [List.flatMap_cons] at h1
    have h2 : WfV (.int y.Id) ∧ WfV (.bs y.Bytes) ∧ WfA (r.flatMap SecretM.vs) := h1
    rcases List.mem_cons.1 hx with rfl | hx
    · exact h2.2.1
    · exact ih h2.2.2 hx h2.2.2
theorem rd_bs {w : World} {A : Option Addr} {l : List Int} {c : Nat} (h : Rd w (.bs l) (.slice A l.length c)) : Bs w A l := by
  obtain ⟨A', c', e, _, hb⟩ := h.bs_out
  injection e with e1 e2 e3; subst e1; exact hb
set_option maxHeartbeats 1000000 in
theorem sameSec_any (x y : SecretM) (A B : Option Addr) (ca cb : Nat) (w : World) (hA : Bs w A x.Bytes) (hB : Bs w B y.Bytes) (bx : Bytes x.Bytes) (by_ : Bytes y.Bytes) :
    Calls Try.prog 64 #[.agg #[.int .i64 x.Id, .slice A x.Bytes.length ca], .agg #[.int .i64 y.Id, .slice B y.Bytes.length cb]] w fun e w' => ∃ r : Bool, e = .returned (.bool r) ∧ (r = true ↔ x = y) ∧ Below w.heap.size w w' := by
  have B2 := bal (bal (Below.refl w.heap.size w) (.cells #[.int .i64 x.Id, .slice A x.Bytes.length ca] 58)) (.cells #[.int .i64 y.Id, .slice B y.Bytes.length cb] 58)
  have HE := hidH (fun u h1 h2 => bEqual_any A B x.Bytes y.Bytes ca cb u h1 h2 bx by_)
  have HB := hidH B2
  have HA1 := hidH (bs_below hA B2)
  have HB1 := hidH (bs_below hB B2)
  clear hA hB bx by_ B2
  by_cases e1 : x.Id = y.Id
  · have f1 : (x.Id == y.Id) = true := by rw [beq_iff_eq]; exact e1
    have HX := hidH (fun (h : x.Bytes = y.Bytes) => sec_eq.2 ⟨e1, h⟩)
    have HY := hidH (fun (h : x = y) => (sec_eq.1 h).2)
    clear e1
    go_enter Try.func64, Try.ntmps64
    go_wp2_with fail
    refine (HE.out _ HA1.out HB1.out).mono ?_
    rintro e w3 ⟨rfl, rfl⟩
    clear HE
    obtain ⟨d, hd⟩ : ∃ d : Bool, decide (x.Bytes = y.Bytes) = d := ⟨_, rfl⟩
    rw [hd]
    have HD := hidH hd
    clear hd
    go_wp2
    go_ret
    refine ⟨d, by cases d <;> rfl, ⟨fun h => HX.out (by have := HD.out; rw [h] at this; exact of_decide_eq_true this), fun h => by rw [← HD.out]; exact decide_eq_true (HY.out h)⟩, HB.out⟩
  · have f1 : (x.Id == y.Id) = false := by rw [beq_eq_false_iff_ne]; exact e1
    have HX := hidH (show ¬ x = y from fun h => e1 (sec_eq.1 h).1)
    clear e1
    go_enter Try.func64, Try.ntmps64
    go_wp2
    go_ret
    exact ⟨false, rfl, ⟨(fun h => by cases h), fun h => absurd h HX.out⟩, HB.out⟩
set_option maxRecDepth 100000 in
set_option maxHeartbeats 2000000 in
theorem eqFuncS_any (a b : List SecretM) (v u : Value) (w : World) (hA : Rd w (st_Secret a) v) (hB : Rd w (st_Secret b) u) (ba : ∀ x ∈ a, Bytes x.Bytes) (bb : ∀ x ∈ b, Bytes x.Bytes) :
    Calls Try.prog 63 #[v, u, .func (.func 64) #[] #[]] w (EqL a b w) := by
  obtain ⟨PA, ca, rfl⟩ := st_Secret_sh hA
  obtain ⟨PB, cb, rfl⟩ := st_Secret_sh hB
  have hm : (a.length : Int) ≤ 9223372036854775807 := Rd.st_len hA
  have HA := hidH (fun (u : World) (h : Below w.heap.size w u) => Rd.below h _ hA)
  have HB := hidH (fun (u : World) (h : Below w.heap.size w u) => Rd.below h _ hB)
  have HBA := hidH ba
  have HBB := hidH bb
  clear hA hB ba bb
  by_cases hl : a.length = b.length
  · have hd : ((a.length : Int) != (b.length : Int)) = false := by rw [bne_eq_false_iff_eq]; omega
    have HL := hidH hl
    clear hl
    go_enter Try.func63, Try.ntmps63
    go_wp2
    go_loopw [17] (fun i wr => ∃ j : Nat, j ≤ a.length ∧ i = .int .i64 j ∧ (∀ t, t < j → a[t]? = b[t]?) ∧ Below w.heap.size w wr) (fun i _ => a.length - (intOf i).toNat)
    case atStart => exact ⟨0, by omega, rfl, fun t ht => by omega, Below.refl _ _⟩
    case round =>
      obtain ⟨j, hj, rfl, hEq, hBw⟩ := hrel
      by_cases hlt : j < a.length
      · have hj0 : (0 : Int) ≤ (j : Int) := by omega
        have hj1 : (j : Int) < (a.length : Int) := by omega
        have hlb : j < b.length := by have := HL.out; omega
        have hj2 : (j : Int) < (b.length : Int) := by omega
        obtain ⟨ga, oa, c', A, cA, e, hga, c0, c1, SA⟩ := sec_at (HA.out _ hBw) hlt
        injection e with e1 e2 e3
        subst e1 e3
        obtain ⟨gb, ob, c', B, cB, e, hgb, b0, b1, SB⟩ := sec_at (HB.out _ hBw) hlb
        injection e with e1 e2 e3
        subst e1 e3
        have B1 := bal (Below.refl wr.heap.size wr) (.cells #[.int .i64 a[j].Id, .slice A a[j].Bytes.length cA] 58)
        have d0 := (B1.cell (p := ⟨gb, ob + j * 2, none⟩) hgb).trans b0
        have d1 := (B1.cell (p := ⟨gb, ob + j * 2 + 1, none⟩) hgb).trans b1
        have HNE := hidH (fun (h : a[j] ≠ b[j]) => show ¬ (a = b) from fun e => h (by subst e; rfl))
        have HEQ := hidH (fun (h : a[j] = b[j]) => show (∀ t, t < j + 1 → a[t]? = b[t]?) from fun t ht => by
          by_cases e : t = j
          · subst e; rw [List.getElem?_eq_getElem hlt, List.getElem?_eq_getElem hlb, h]
          · exact hEq t (by omega))
        have HSA := hidH (fun (u : World) (h1 : Bs u A a[j].Bytes) (h2 : Bs u B b[j].Bytes) => sameSec_any a[j] b[j] A B cA cB u h1 h2 (HBA.out _ (List.getElem_mem hlt)) (HBB.out _ (List.getElem_mem hlb)))
        obtain ⟨x, hx⟩ : ∃ x, a[j] = x := ⟨_, rfl⟩
        obtain ⟨y, hy⟩ : ∃ y, b[j] = y := ⟨_, rfl⟩
        simp only [hx] at c0 c1 d0 d1 HSA HNE HEQ SA B1
        simp only [hy] at d0 d1 HSA HNE HEQ SB
        have B2 := bal B1 (.cells #[.int .i64 y.Id, .slice B y.Bytes.length cB] 58)
        have SA2 := hidH (bs_below (rd_bs SA) B2)
        have SB2 := hidH (bs_below (rd_bs SB) B2)
        have HBW := hidH (btr hBw B2)
        clear hEq hBw hx hy B1 B2 SA SB b0 b1
        go_wp2_with fail
        refine (HSA.out _ SA2.out SB2.out).mono ?_
        rintro e w3 ⟨r, rfl, hr, b3⟩
        have HR := hidH hr
        have B3 := hidH (btr HBW.out b3)
        clear HSA SA2 SB2 hr b3 c0 c1 d0 d1
        rcases r with _ | _
        · go_wp2
          go_ret
          exact ⟨false, rfl, ⟨(fun h => by cases h), fun h => absurd h (HNE.out fun e => by have := HR.out.2 e; cases this)⟩, B3.out⟩
        · go_wp2
          go_roundw
          case rel => exact ⟨j + 1, by omega, by go_num, HEQ.out (HR.out.1 (by simp)), B3.out⟩
          case measure => simp [intOf]; omega
      · obtain rfl : j = a.length := by omega
        have HE := hidH (show a = b from List.ext_getElem? fun t => by
          by_cases h : t < a.length
          · exact hEq t h
          · have := HL.out
            rw [List.getElem?_eq_none (by omega), List.getElem?_eq_none (by omega)])
        have HBW := hidH hBw
        clear hEq hBw hlt hj
        go_wp2
        go_ret
        exact ⟨true, rfl, ⟨fun _ => HE.out, fun _ => rfl⟩, HBW.out⟩
  · have hd : ((a.length : Int) != (b.length : Int)) = true := by rw [bne_iff_ne]; omega
    have HL := hidH (show ¬ a = b from fun h => hl (by rw [h]))
    clear hl
    go_enter Try.func63, Try.ntmps63
    go_wp2
    go_ret
    exact ⟨false, rfl, ⟨(fun h => by cases h), fun h => absurd h HL.out⟩, Below.refl _ _⟩
set_option maxHeartbeats 1000000 in
theorem sm_impl (a : List SecretM) (v : Value) (b : List SecretM) (v2 : Value) (u : World) (h : Rd u (st_Secret a) v) (hw : WfV (st_Secret a)) (_ : tot (st_Secret a) ≤ 1048576) (h2 : Rd u (st_Secret b) v2) (hw2 : WfV (st_Secret b)) (_ : tot (st_Secret b) ≤ 1048576) :
    Calls Try.prog 41 #[v, v2] u (BolR (sameL a b) u) := by
  have HS := hidH (eqFuncS_any a b v v2 u h h2 (wf_body hw) (wf_body hw2))
  clear hw hw2
  obtain ⟨PA, ca, rfl⟩ := st_Secret_sh h
  obtain ⟨PB, cb, rfl⟩ := st_Secret_sh h2
  clear h h2
  go_enter Try.func41, Try.ntmps41
  go_wp2_with fail
  refine HS.out.mono ?_
  intro e w3 hE
  have HE := hidH hE.bol
  obtain ⟨rfl, h3⟩ := hE.bol
  have H3 := hidH h3
  clear hE h3
  go_wp2
  go_ret
  exact ⟨rfl, H3.out⟩
set_option maxRecDepth 100000 in
set_option maxHeartbeats 2000000 in
theorem smE_spec (a b : List SecretM) (v u : Value) (w : World) (hA : Rd w (st_Secret a) v) (hB : Rd w (st_Secret b) u) (ba : ∀ x ∈ a, Bytes x.Bytes) (bb : ∀ x ∈ b, Bytes x.Bytes) :
    Calls Try.prog 40 #[v, u] w (EqL a b w) := by
  obtain ⟨PA, ca, rfl⟩ := st_Secret_sh hA
  obtain ⟨PB, cb, rfl⟩ := st_Secret_sh hB
  have hm : (a.length : Int) ≤ 9223372036854775807 := Rd.st_len hA
  have HA := hidH (fun (u : World) (h : Below w.heap.size w u) => Rd.below h _ hA)
  have HB := hidH (fun (u : World) (h : Below w.heap.size w u) => Rd.below h _ hB)
  have HBA := hidH ba
  have HBB := hidH bb
  clear hA hB ba bb
  by_cases hl : a.length = b.length
  · have hd : ((a.length : Int) != (b.length : Int)) = false := by rw [bne_eq_false_iff_eq]; omega
    have HL := hidH hl
    clear hl
    go_enter Try.func40, Try.ntmps40
    go_wp2
    go_loopw [5] (fun i wr => ∃ j : Nat, j ≤ a.length ∧ i = .int .i64 j ∧ (∀ t, t < j → a[t]? = b[t]?) ∧ Below w.heap.size w wr) (fun i _ => a.length - (intOf i).toNat)
    case atStart => exact ⟨0, by omega, rfl, fun t ht => by omega, Below.refl _ _⟩
    case round =>
      obtain ⟨j, hj, rfl, hEq, hBw⟩ := hrel
      by_cases hlt : j < a.length
      · have hj0 : (0 : Int) ≤ (j : Int) := by omega
        have hj1 : (j : Int) < (a.length : Int) := by omega
        have hlb : j < b.length := by have := HL.out; omega
        have hj2 : (j : Int) < (b.length : Int) := by omega
        obtain ⟨ga, oa, c', A, cA, e, hga, c0, c1, SA⟩ := sec_at (HA.out _ hBw) hlt
        injection e with e1 e2 e3
        subst e1 e3
        obtain ⟨gb, ob, c', B, cB, e, hgb, d0, d1, SB⟩ := sec_at (HB.out _ hBw) hlb
        injection e with e1 e2 e3
        subst e1 e3
        have HX := hidH (HBA.out _ (List.getElem_mem hlt))
        have HY := hidH (HBB.out _ (List.getElem_mem hlb))
        have h1 := fun n => conv_bs (wr.drewN n) A a[j].Bytes cA (bs_below (rd_bs SA) (below_drewN (Below.refl _ _) n))
        have h2 := fun n => conv_bs (wr.drewN n) B b[j].Bytes cB (bs_below (rd_bs SB) (below_drewN (Below.refl _ _) n))
        have HNE := hidH (fun (h : a[j] ≠ b[j]) => show ¬ (a = b) from fun e => h (by subst e; rfl))
        have HEQ := hidH (fun (h : a[j] = b[j]) => show (∀ t, t < j + 1 → a[t]? = b[t]?) from fun t ht => by
          by_cases e : t = j
          · subst e; rw [List.getElem?_eq_getElem hlt, List.getElem?_eq_getElem hlb, h]
          · exact hEq t (by omega))
        have HS := hidH (str_eqb HX.out HY.out)
        obtain ⟨x, hx⟩ : ∃ x, a[j] = x := ⟨_, rfl⟩
        obtain ⟨y, hy⟩ : ∃ y, b[j] = y := ⟨_, rfl⟩
        simp only [hx] at c0 c1 h1 HX HNE HEQ HS
        simp only [hy] at d0 d1 h2 HY HNE HEQ HS
        have HBW := hidH hBw
        clear hEq hBw hx hy SA SB
        by_cases e1 : x.Id = y.Id
        · have f1 : (x.Id != y.Id) = false := by rw [bne_eq_false_iff_eq]; exact e1
          by_cases e3 : x.Bytes = y.Bytes
          · have HXY := hidH (sec_eq.2 ⟨e1, e3⟩)
            have f3 : ((strOfNums x.Bytes).toList == (strOfNums y.Bytes).toList) = true := by rw [HS.out, decide_eq_true e3]
            clear e1 e3
            go_wp2
            go_quiet (fail)
            go_wp2
            exact ⟨⟨j + 1, by omega, by go_num, HEQ.out HXY.out, below_drewN HBW.out _⟩, by simp [intOf]; omega⟩
          · have HXY := hidH (HNE.out (fun h => e3 (sec_eq.1 h).2))
            have f3 : ((strOfNums x.Bytes).toList == (strOfNums y.Bytes).toList) = false := by rw [HS.out, decide_eq_false e3]
            clear e1 e3
            go_wp2
            go_quiet (fail)
            go_wp2
            go_ret
            exact ⟨false, rfl, ⟨(fun h => by cases h), fun h => absurd h HXY.out⟩, below_drewN HBW.out _⟩
        · have f1 : (x.Id != y.Id) = true := by rw [bne_iff_ne]; exact e1
          have HXY := hidH (HNE.out (fun h => e1 (sec_eq.1 h).1))
          clear e1
          go_wp2
          go_quiet (fail)
          go_wp2
          go_ret
          exact ⟨false, rfl, ⟨(fun h => by cases h), fun h => absurd h HXY.out⟩, below_drewN HBW.out _⟩
      · obtain rfl : j = a.length := by omega
        have HE := hidH (show a = b from List.ext_getElem? fun t => by
          by_cases h : t < a.length
          · exact hEq t h
          · have := HL.out
            rw [List.getElem?_eq_none (by omega), List.getElem?_eq_none (by omega)])
        have HBW := hidH hBw
        clear hEq hBw hlt hj
        go_wp2
        go_ret
        exact ⟨true, rfl, ⟨fun _ => HE.out, fun _ => rfl⟩, HBW.out⟩
  · have hd : ((a.length : Int) != (b.length : Int)) = true := by rw [bne_iff_ne]; omega
    have HL := hidH (show ¬ a = b from fun h => hl (by rw [h]))
    clear hl
    go_enter Try.func40, Try.ntmps40
    go_wp2
    go_ret
    exact ⟨false, rfl, ⟨(fun h => by cases h), fun h => absurd h HL.out⟩, Below.refl _ _⟩
theorem sm_spec (a : List SecretM) (v : Value) (b : List SecretM) (v2 : Value) (u : World) (h : Rd u (st_Secret a) v) (hw : WfV (st_Secret a)) (_ : tot (st_Secret a) ≤ 1048576) (h2 : Rd u (st_Secret b) v2) (hw2 : WfV (st_Secret b)) (_ : tot (st_Secret b) ≤ 1048576) :
    Calls Try.prog 40 #[v, v2] u (BolR (sameL a b) u) := (smE_spec a b v v2 u h h2 (wf_body hw) (wf_body hw2)).mono (fun _ _ h => h.bol)
end Go.Proofs.Ytjjileefdjjijaa
