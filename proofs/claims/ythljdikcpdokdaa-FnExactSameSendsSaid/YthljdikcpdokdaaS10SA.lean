/- Chapter 10: SameSends, the program's. (WRITTEN BY tools/same10.py) -/
import Derived.Test.YthljdikcpdokdaaS10F
import Derived.Test.YthljdikcpdokdaaS8DA
namespace Go.Proofs.Ythljdikcpdokdaa
open Go.RowKit Go.Deep

theorem item_eq {x y : SendItemM} : x = y ↔ x.d = y.d ∧ x.Sent = y.Sent ∧ x.Due = y.Due := by
  cases x; cases y; simp [SendItemM.d]; constructor
  · rintro ⟨rfl, rfl, rfl, rfl, rfl, rfl, rfl, rfl, rfl⟩; simp
  · rintro ⟨⟨rfl, rfl, rfl, rfl, rfl, rfl, rfl⟩, rfl, rfl⟩; simp
theorem send_eq {x y : SendM} : x = y ↔ x.Next = y.Next ∧ x.Acked = y.Acked ∧ x.Seqs = y.Seqs ∧ x.Items = y.Items := by cases x; cases y; simp
theorem tot_send {y : SendM} (h : tot.totL y.vs ≤ 1048576) : y.Seqs.length ≤ 1048576 ∧ tot (st_SendItem y.Items) ≤ 1048576 := by
  have e : tot.totL y.vs = 0 + (0 + (y.Seqs.length + (tot (st_SendItem y.Items) + 0))) := rfl
  omega
theorem at_Item {w : World} {r : List SendItemM} {v : Value} (h : Rd w (st_SendItem r) v) {j : Nat} (hj : j < r.length) :
    ∃ g o c A cA, v = .slice (some ⟨g, o, none⟩) r.length c ∧ g < w.heap.size ∧ w.cell? ⟨g, o + j * 9, none⟩ = some (.int .i64 r[j].Data_Tsn) ∧ w.cell? ⟨g, o + j * 9 + 1, none⟩ = some (.int .i64 r[j].Data_Stream) ∧ w.cell? ⟨g, o + j * 9 + 2, none⟩ = some (.int .i64 r[j].Data_Seq) ∧ w.cell? ⟨g, o + j * 9 + 3, none⟩ = some (.bool r[j].Data_First) ∧ w.cell? ⟨g, o + j * 9 + 4, none⟩ = some (.bool r[j].Data_Last) ∧ w.cell? ⟨g, o + j * 9 + 5, none⟩ = some (.bool r[j].Data_Unordered) ∧ w.cell? ⟨g, o + j * 9 + 6, none⟩ = some (.slice A r[j].Data_Piece.length cA) ∧ w.cell? ⟨g, o + j * 9 + 7, none⟩ = some (.int .i64 r[j].Sent) ∧ w.cell? ⟨g, o + j * 9 + 8, none⟩ = some (.int .i64 r[j].Due) ∧ Rd w (.bs r[j].Data_Piece) (.slice A r[j].Data_Piece.length cA) := by
  obtain ⟨g, o, c, e, hg, E⟩ := el_Item h hj
  obtain ⟨A, cA, z0, z1, z2, z3, z4, z5, z6, z7, z8, hb⟩ := mem_SendItem E
  exact ⟨g, o, c, A, cA, e, hg, z0, z1, z2, z3, z4, z5, z6, z7, z8, hb⟩
theorem wfb_Item {r : List SendItemM} (h : WfV (st_SendItem r)) : ∀ x ∈ r, Bytes x.Data_Piece := by
  intro x hx
  have h1 : WfA (r.flatMap SendItemM.vs) := h
  induction r with
  | nil => simp at hx
  | cons y r ih =>
    rw [List.flatMap_cons] at h1
    have h2 : WfV (.int y.Data_Tsn) ∧ WfV (.int y.Data_Stream) ∧ WfV (.int y.Data_Seq) ∧ WfV (.bool y.Data_First) ∧ WfV (.bool y.Data_Last) ∧ WfV (.bool y.Data_Unordered) ∧ WfV (.bs y.Data_Piece) ∧ WfV (.int y.Sent) ∧ WfV (.int y.Due) ∧ WfA (r.flatMap SendItemM.vs) := h1
    rcases List.mem_cons.1 hx with rfl | hx
    · exact h2.2.2.2.2.2.2.1
    · exact ih h2.2.2.2.2.2.2.2.2.2 hx h2.2.2.2.2.2.2.2.2.2
set_option maxRecDepth 100000 in
set_option maxHeartbeats 2000000 in
theorem equalI10_any (a b : List Int) (A B : Option Addr) (ca cb : Nat) (w : World) (hA : Is w A a) (hB : Is w B b) (hm : (a.length : Int) ≤ 1000000000000) :
    Calls Try.prog 86 #[.slice A a.length ca, .slice B b.length cb] w (EqG a b w) := by
  have HA := hidH (fun (u : World) (h : Below w.heap.size w u) => is_below hA h)
  have HB := hidH (fun (u : World) (h : Below w.heap.size w u) => is_below hB h)
  clear hA hB
  by_cases hl : a.length = b.length
  case neg =>
    have hl2 : ((a.length : Int) != (b.length : Int)) = true := by rw [bne_iff_ne]; omega
    have HX := hidH (show ¬ a = b from fun h => hl (by rw [h]))
    clear hl
    go_enter Try.func86, Try.ntmps86
    go_wp2
    go_ret
    exact ⟨false, rfl, ⟨(fun h => by cases h), fun h => absurd h HX.out⟩, Below.refl _ _⟩
  have HL := hidH hl
  rw [← hl]
  clear hl
  go_enter Try.func86, Try.ntmps86
  go_wp2
  go_loopw [13] (fun i wr => ∃ j : Nat, j ≤ a.length ∧ i = .int .i64 j ∧ (∀ t, t < j → a.getD t 0 = b.getD t 0) ∧ Below w.heap.size w wr) (fun i _ => a.length - (intOf i).toNat)
  case atStart => exact ⟨0, by omega, rfl, fun t ht => by omega, Below.refl _ _⟩
  case round =>
    obtain ⟨j, hj, rfl, hk, hB⟩ := hrel
    by_cases hlt : j < a.length
    · have hj0 : (0 : Int) ≤ (j : Int) := by omega
      have hj1 : (j : Int) < (a.length : Int) := by omega
      obtain ⟨g1, o1, e1, _, c1⟩ := is_at10 (HA.out wr hB) hlt
      obtain ⟨g2, o2, e2, _, c2⟩ := is_at10 (HB.out wr hB) (j := j) (by have := HL.out; omega)
      subst e1 e2
      obtain ⟨x, hx⟩ : ∃ x, a.getD j 0 = x := ⟨_, rfl⟩
      obtain ⟨y, hy⟩ : ∃ y, b.getD j 0 = y := ⟨_, rfl⟩
      rw [hx] at c1
      rw [hy] at c2
      have HB2 := hidH hB
      by_cases e : x = y
      · have f : (x != y) = false := by rw [bne_eq_false_iff_eq]; exact e
        have HK := hidH (show ∀ t, t < j + 1 → a.getD t 0 = b.getD t 0 from fun t ht => by
          by_cases e2 : t = j
          · subst e2; rw [hx, hy, e]
          · exact hk t (by omega))
        clear e hk hx hy hB
        go_wp2
        go_quiet (fail)
        go_wp2
        go_roundw
        case rel => exact ⟨j + 1, by omega, by go_num, HK.out, below_drewN HB2.out _⟩
        case measure => simp [intOf]; omega
      · have f : (x != y) = true := by rw [bne_iff_ne]; exact e
        have HX := hidH (show ¬ a = b from fun h => e (by rw [← hx, ← hy, h]))
        clear e hk hx hy hB
        go_wp2
        go_quiet (fail)
        go_wp2
        go_ret
        exact ⟨false, rfl, ⟨(fun h => by cases h), fun h => absurd h HX.out⟩, below_drewN HB2.out _⟩
    · obtain rfl : j = a.length := by omega
      have HX := hidH (show a = b from List.ext_getElem HL.out (fun t h1 h2 => by have := hk t h1; rwa [getD_at9 h1, getD_at9 h2] at this))
      have HB2 := hidH hB
      clear hk hlt hj hB
      go_wp2
      go_ret
      exact ⟨true, rfl, ⟨fun _ => HX.out, fun _ => rfl⟩, HB2.out⟩
set_option maxRecDepth 100000 in
set_option maxHeartbeats 2000000 in
theorem sameItem_any (x y : SendItemM) (A B : Option Addr) (ca cb : Nat) (w : World) (hA : Bs w A x.Data_Piece) (hB : Bs w B y.Data_Piece) (bx : Bytes x.Data_Piece) (by_ : Bytes y.Data_Piece) :
    Calls Try.prog 88 #[.agg #[.int .i64 x.Data_Tsn, .int .i64 x.Data_Stream, .int .i64 x.Data_Seq, .bool x.Data_First, .bool x.Data_Last, .bool x.Data_Unordered, .slice A x.Data_Piece.length ca, .int .i64 x.Sent, .int .i64 x.Due], .agg #[.int .i64 y.Data_Tsn, .int .i64 y.Data_Stream, .int .i64 y.Data_Seq, .bool y.Data_First, .bool y.Data_Last, .bool y.Data_Unordered, .slice B y.Data_Piece.length cb, .int .i64 y.Sent, .int .i64 y.Due]] w (EqG x y w) := by
  have KX := (Blk.new w 121 #[.int .i64 x.Data_Tsn, .int .i64 x.Data_Stream, .int .i64 x.Data_Seq, .bool x.Data_First, .bool x.Data_Last, .bool x.Data_Unordered, .slice A x.Data_Piece.length ca, .int .i64 x.Sent, .int .i64 x.Due]).alloc (.cells #[.int .i64 y.Data_Tsn, .int .i64 y.Data_Stream, .int .i64 y.Data_Seq, .bool y.Data_First, .bool y.Data_Last, .bool y.Data_Unordered, .slice B y.Data_Piece.length cb, .int .i64 y.Sent, .int .i64 y.Due] 121)
  have KY := Blk.new (w.alloc (.cells #[.int .i64 x.Data_Tsn, .int .i64 x.Data_Stream, .int .i64 x.Data_Seq, .bool x.Data_First, .bool x.Data_Last, .bool x.Data_Unordered, .slice A x.Data_Piece.length ca, .int .i64 x.Sent, .int .i64 x.Due] 121)) 121 #[.int .i64 y.Data_Tsn, .int .i64 y.Data_Stream, .int .i64 y.Data_Seq, .bool y.Data_First, .bool y.Data_Last, .bool y.Data_Unordered, .slice B y.Data_Piece.length cb, .int .i64 y.Sent, .int .i64 y.Due]
  have B2 := bal (bal (Below.refl w.heap.size w) (.cells #[.int .i64 x.Data_Tsn, .int .i64 x.Data_Stream, .int .i64 x.Data_Seq, .bool x.Data_First, .bool x.Data_Last, .bool x.Data_Unordered, .slice A x.Data_Piece.length ca, .int .i64 x.Sent, .int .i64 x.Due] 121)) (.cells #[.int .i64 y.Data_Tsn, .int .i64 y.Data_Stream, .int .i64 y.Data_Seq, .bool y.Data_First, .bool y.Data_Last, .bool y.Data_Unordered, .slice B y.Data_Piece.length cb, .int .i64 y.Sent, .int .i64 y.Due] 121)
  rw [World.size_alloc] at KY
  obtain ⟨W, hW⟩ : ∃ W, (w.alloc (.cells #[.int .i64 x.Data_Tsn, .int .i64 x.Data_Stream, .int .i64 x.Data_Seq, .bool x.Data_First, .bool x.Data_Last, .bool x.Data_Unordered, .slice A x.Data_Piece.length ca, .int .i64 x.Sent, .int .i64 x.Due] 121)).alloc (.cells #[.int .i64 y.Data_Tsn, .int .i64 y.Data_Stream, .int .i64 y.Data_Seq, .bool y.Data_First, .bool y.Data_Last, .bool y.Data_Unordered, .slice B y.Data_Piece.length cb, .int .i64 y.Sent, .int .i64 y.Due] 121) = W := ⟨_, rfl⟩
  rw [hW] at KX KY B2
  have HS := hidH (sameData_any x.d y.d A B ca cb W (bs_below hA B2) (bs_below hB B2) bx by_)
  have HQ := hidH (@item_eq x y)
  have HW := hidH hW
  have HX := hidH KX
  have HY := hidH KY
  have HB := hidH B2
  clear hA hB bx by_ hW KX KY B2
  go_enter Try.func88, Try.ntmps88
  go_wp2_with fail
  rw [HW.out]
  refine HS.out.mono ?_
  rintro e w3 ⟨r, rfl, hr, b3⟩
  have HR := hidH hr
  replace HX := hidH (HX.out.below b3)
  replace HY := hidH (HY.out.below b3)
  have HB3 := hidH (btr HB.out b3)
  have p7 := HX.out.cell 7
  have p8 := HX.out.cell 8
  have q7 := HY.out.cell 7
  have q8 := HY.out.cell 8
  simp only [List.getElem?_toArray, List.getElem?_cons_succ, List.getElem?_cons_zero] at p7 p8 q7 q8
  have lp := HX.out.lt
  have lq := HY.out.lt
  clear hr b3 HS HW HB
  cases r
  case false =>
    have HN := hidH (show ¬ x = y from fun h => by have := HR.out.2 (HQ.out.1 h).1; cases this)
    go_wp2
    go_ret
    exact ⟨false, rfl, ⟨(fun h => by cases h), fun h => absurd h HN.out⟩, HB3.out⟩
  by_cases e1 : x.Sent = y.Sent
  case neg =>
    have f1 : (x.Sent == y.Sent) = false := by rw [beq_eq_false_iff_ne]; exact e1
    have HN := hidH (show ¬ x = y from fun h => e1 (HQ.out.1 h).2.1)
    clear e1
    go_wp2
    go_ret
    exact ⟨false, rfl, ⟨(fun h => by cases h), fun h => absurd h HN.out⟩, HB3.out⟩
  have f1 : (x.Sent == y.Sent) = true := by rw [beq_iff_eq]; exact e1
  have HE1 := hidH e1
  clear e1
  by_cases e2 : x.Due = y.Due
  case neg =>
    have f2 : (x.Due == y.Due) = false := by rw [beq_eq_false_iff_ne]; exact e2
    have HN := hidH (show ¬ x = y from fun h => e2 (HQ.out.1 h).2.2)
    clear e2
    go_wp2
    go_ret
    exact ⟨false, rfl, ⟨(fun h => by cases h), fun h => absurd h HN.out⟩, HB3.out⟩
  have f2 : (x.Due == y.Due) = true := by rw [beq_iff_eq]; exact e2
  have HN := hidH (show x = y from HQ.out.2 ⟨HR.out.1 rfl, HE1.out, e2⟩)
  clear e2
  go_wp2
  go_ret
  exact ⟨true, rfl, ⟨fun _ => HN.out, fun _ => rfl⟩, HB3.out⟩
set_option maxRecDepth 100000 in
set_option maxHeartbeats 2000000 in
theorem eqFunc_SendItem (a b : List SendItemM) (v u : Value) (w : World) (hA : Rd w (st_SendItem a) v) (hB : Rd w (st_SendItem b) u) (ba : ∀ x ∈ a, Bytes x.Data_Piece) (bb : ∀ x ∈ b, Bytes x.Data_Piece) :
    Calls Try.prog 87 #[v, u, .func (.func 88) #[] #[]] w (EqG a b w) := by
  obtain ⟨PA, ca, rfl⟩ := st_SendItem_sh hA
  obtain ⟨PB, cb, rfl⟩ := st_SendItem_sh hB
  have hm : (a.length : Int) ≤ 9223372036854775807 := Rd.st_len hA
  have HA := hidH (fun (u : World) (h : Below w.heap.size w u) => Rd.below h _ hA)
  have HB := hidH (fun (u : World) (h : Below w.heap.size w u) => Rd.below h _ hB)
  have HBA := hidH ba
  have HBB := hidH bb
  clear hA hB ba bb
  by_cases hl : a.length = b.length
  · have hd : ((a.length : Int) != (b.length : Int)) = false := by rw [bne_eq_false_iff_eq]; omega
    have HL := hidH hl
    clear hl
    go_enter Try.func87, Try.ntmps87
    go_wp2
    go_loopw [17] (fun i wr => ∃ j : Nat, j ≤ a.length ∧ i = .int .i64 j ∧ (∀ t, t < j → a[t]? = b[t]?) ∧ Below w.heap.size w wr) (fun i _ => a.length - (intOf i).toNat)
    case atStart => exact ⟨0, by omega, rfl, fun t ht => by omega, Below.refl _ _⟩
    case round =>
      obtain ⟨j, hj, rfl, hEq, hBw⟩ := hrel
      by_cases hlt : j < a.length
      · have hj0 : (0 : Int) ≤ (j : Int) := by omega
        have hj1 : (j : Int) < (a.length : Int) := by omega
        have hlb : j < b.length := by have := HL.out; omega
        have hj2 : (j : Int) < (b.length : Int) := by omega
        obtain ⟨ga, oa, c', A, cA, e, hga, c0, c1, c2, c3, c4, c5, c6, c7, c8, SA⟩ := at_Item (HA.out _ hBw) hlt
        injection e with e1 e2 e3
        subst e1 e3
        obtain ⟨gb, ob, c', B, cB, e, hgb, b0, b1, b2, b3, b4, b5, b6, b7, b8, SB⟩ := at_Item (HB.out _ hBw) hlb
        injection e with e1 e2 e3
        subst e1 e3
        have B1 := bal (Below.refl wr.heap.size wr) (.cells #[.int .i64 a[j].Data_Tsn, .int .i64 a[j].Data_Stream, .int .i64 a[j].Data_Seq, .bool a[j].Data_First, .bool a[j].Data_Last, .bool a[j].Data_Unordered, .slice A a[j].Data_Piece.length cA, .int .i64 a[j].Sent, .int .i64 a[j].Due] 121)
        have d0 := (B1.cell (p := ⟨gb, ob + j * 9, none⟩) hgb).trans b0
        have d1 := (B1.cell (p := ⟨gb, ob + j * 9 + 1, none⟩) hgb).trans b1
        have d2 := (B1.cell (p := ⟨gb, ob + j * 9 + 2, none⟩) hgb).trans b2
        have d3 := (B1.cell (p := ⟨gb, ob + j * 9 + 3, none⟩) hgb).trans b3
        have d4 := (B1.cell (p := ⟨gb, ob + j * 9 + 4, none⟩) hgb).trans b4
        have d5 := (B1.cell (p := ⟨gb, ob + j * 9 + 5, none⟩) hgb).trans b5
        have d6 := (B1.cell (p := ⟨gb, ob + j * 9 + 6, none⟩) hgb).trans b6
        have d7 := (B1.cell (p := ⟨gb, ob + j * 9 + 7, none⟩) hgb).trans b7
        have d8 := (B1.cell (p := ⟨gb, ob + j * 9 + 8, none⟩) hgb).trans b8
        have HNE := hidH (fun (h : a[j] ≠ b[j]) => show ¬ (a = b) from fun e => h (by subst e; rfl))
        have HEQ := hidH (fun (h : a[j] = b[j]) => show (∀ t, t < j + 1 → a[t]? = b[t]?) from fun t ht => by
          by_cases e : t = j
          · subst e; rw [List.getElem?_eq_getElem hlt, List.getElem?_eq_getElem hlb, h]
          · exact hEq t (by omega))
        have HSA := hidH (fun (u : World) (h1 : Bs u A a[j].Data_Piece) (h2 : Bs u B b[j].Data_Piece) => sameItem_any a[j] b[j] A B cA cB u h1 h2 (HBA.out _ (List.getElem_mem hlt)) (HBB.out _ (List.getElem_mem hlb)))
        obtain ⟨x, hx⟩ : ∃ x, a[j] = x := ⟨_, rfl⟩
        obtain ⟨y, hy⟩ : ∃ y, b[j] = y := ⟨_, rfl⟩
        simp only [hx] at c0 c1 c2 c3 c4 c5 c6 c7 c8 d0 d1 d2 d3 d4 d5 d6 d7 d8 HSA HNE HEQ SA B1
        simp only [hy] at d0 d1 d2 d3 d4 d5 d6 d7 d8 HSA HNE HEQ SB
        have B2 := bal B1 (.cells #[.int .i64 y.Data_Tsn, .int .i64 y.Data_Stream, .int .i64 y.Data_Seq, .bool y.Data_First, .bool y.Data_Last, .bool y.Data_Unordered, .slice B y.Data_Piece.length cB, .int .i64 y.Sent, .int .i64 y.Due] 121)
        have SA2 := hidH (bs_below (bsOf SA) B2)
        have SB2 := hidH (bs_below (bsOf SB) B2)
        have HBW := hidH (btr hBw B2)
        clear hEq hBw hx hy B1 B2 SA SB b0 b1 b2 b3 b4 b5 b6 b7 b8
        go_wp2_with fail
        refine (HSA.out _ SA2.out SB2.out).mono ?_
        rintro e w3 ⟨r, rfl, hr, b3⟩
        have HR := hidH hr
        have B3 := hidH (btr HBW.out b3)
        clear HSA SA2 SB2 hr b3 c0 c1 c2 c3 c4 c5 c6 c7 c8 d0 d1 d2 d3 d4 d5 d6 d7 d8
        rcases r with _ | _
        · go_wp2
          go_ret
          exact ⟨false, rfl, ⟨(fun h => by cases h), fun h => absurd h (HNE.out fun e => by have := HR.out.2 e; cases this)⟩, B3.out⟩
        · go_wp2
          go_roundw
          case rel => exact ⟨j + 1, by omega, by go_num, HEQ.out (HR.out.1 (by simp)), B3.out⟩
          case measure => simp [intOf]; omega
      · obtain rfl : j = a.length := by omega
        have HE := hidH (show a = b from List.ext_getElem? fun t => by
          by_cases h : t < a.length
          · exact hEq t h
          · have := HL.out
            rw [List.getElem?_eq_none (by omega), List.getElem?_eq_none (by omega)])
        have HBW := hidH hBw
        clear hEq hBw hlt hj
        go_wp2
        go_ret
        exact ⟨true, rfl, ⟨fun _ => HE.out, fun _ => rfl⟩, HBW.out⟩
  · have hd : ((a.length : Int) != (b.length : Int)) = true := by rw [bne_iff_ne]; omega
    have HL := hidH (show ¬ a = b from fun h => hl (by rw [h]))
    clear hl
    go_enter Try.func87, Try.ntmps87
    go_wp2
    go_ret
    exact ⟨false, rfl, ⟨(fun h => by cases h), fun h => absurd h HL.out⟩, Below.refl _ _⟩
set_option maxRecDepth 100000 in
set_option maxHeartbeats 8000000 in
theorem ss_implE (x y : SendM) (vs us : List Value) (w : World) (h : RdA w x.vs vs) (k : RdA w y.vs us) (hwx : WfA x.vs) (htx : tot.totL x.vs ≤ 1048576) (hwy : WfA y.vs) (hty : tot.totL y.vs ≤ 1048576) :
    Calls Try.prog 24 #[.agg vs.toArray, .agg us.toArray] w (EqG x y w) := by
  obtain ⟨X2, Xc2, X3, Xc3, rfl, i2, i3, m2, m3, _⟩ := send_sh h
  obtain ⟨Y2, Yc2, Y3, Yc3, rfl, j2, j3, n2, n3, _⟩ := send_sh k
  have tx := tot_send htx
  have ty := tot_send hty
  have HE1 := hidH (fun (u : World) (h : Below w.heap.size w u) => equalI10_any x.Seqs y.Seqs X2 Y2 Xc2 Yc2 u (is_below i2 h) (is_below j2 h) (by omega))
  have HE2 := hidH (fun (u : World) (h : Below w.heap.size w u) => eqFunc_SendItem x.Items y.Items _ _ u (Rd.below h _ i3) (Rd.below h _ j3) (wfb_Item hwx.2.2.2.1) (wfb_Item hwy.2.2.2.1))
  have HIF := hidH (@send_eq x y)
  obtain ⟨w2, hw2⟩ : ∃ W, (w.alloc (.cells #[.int .i64 x.Next, .int .i64 x.Acked, .slice X2 x.Seqs.length Xc2, .slice X3 x.Items.length Xc3] 47)).alloc (.cells #[.int .i64 y.Next, .int .i64 y.Acked, .slice Y2 y.Seqs.length Yc2, .slice Y3 y.Items.length Yc3] 47) = W := ⟨_, rfl⟩
  have KX := (Blk.new w 47 #[.int .i64 x.Next, .int .i64 x.Acked, .slice X2 x.Seqs.length Xc2, .slice X3 x.Items.length Xc3]).alloc (.cells #[.int .i64 y.Next, .int .i64 y.Acked, .slice Y2 y.Seqs.length Yc2, .slice Y3 y.Items.length Yc3] 47)
  have KY := Blk.new (w.alloc (.cells #[.int .i64 x.Next, .int .i64 x.Acked, .slice X2 x.Seqs.length Xc2, .slice X3 x.Items.length Xc3] 47)) 47 #[.int .i64 y.Next, .int .i64 y.Acked, .slice Y2 y.Seqs.length Yc2, .slice Y3 y.Items.length Yc3]
  have B2 := bal (bal (Below.refl w.heap.size w) (.cells #[.int .i64 x.Next, .int .i64 x.Acked, .slice X2 x.Seqs.length Xc2, .slice X3 x.Items.length Xc3] 47)) (.cells #[.int .i64 y.Next, .int .i64 y.Acked, .slice Y2 y.Seqs.length Yc2, .slice Y3 y.Items.length Yc3] 47)
  rw [World.size_alloc] at KY
  rw [hw2] at KX KY B2
  have H2 := hidH hw2
  have HX := hidH KX
  have HY := hidH KY
  have HBB := hidH B2
  clear h k i2 i3 j2 j3 hw2 KX KY B2 m2 n2 n3 hwx htx hwy hty tx ty
  by_cases e0 : x.Next = y.Next
  case neg =>
    have f0 : (x.Next == y.Next) = false := by rw [beq_eq_false_iff_ne]; exact e0
    have HN := hidH (show ¬ x = y from fun h => e0 (HIF.out.1 h).1)
    clear e0 HIF HE1
    go_enter Try.func24, Try.ntmps24
    go_wp2
    go_ret
    exact ⟨false, rfl, ⟨(fun h => by cases h), fun h => absurd h HN.out⟩, by rw [H2.out]; exact HBB.out⟩
  have f0 : (x.Next == y.Next) = true := by rw [beq_iff_eq]; exact e0
  by_cases e1 : x.Acked = y.Acked
  case neg =>
    have f1 : (x.Acked == y.Acked) = false := by rw [beq_eq_false_iff_ne]; exact e1
    have HN := hidH (show ¬ x = y from fun h => e1 (HIF.out.1 h).2.1)
    clear e0 e1 HIF HE1
    go_enter Try.func24, Try.ntmps24
    go_wp2
    go_ret
    exact ⟨false, rfl, ⟨(fun h => by cases h), fun h => absurd h HN.out⟩, by rw [H2.out]; exact HBB.out⟩
  have f1 : (x.Acked == y.Acked) = true := by rw [beq_iff_eq]; exact e1
  have HC := hidH (And.intro e0 e1)
  clear e0 e1
  go_enter Try.func24, Try.ntmps24
  go_wp2_with fail
  rw [H2.out]
  refine (HE1.out _ HBB.out).mono ?_
  rintro e w3 ⟨b1, rfl, q1, b3⟩
  have HQ1 := hidH q1
  replace HX := hidH (HX.out.below b3)
  replace HY := hidH (HY.out.below b3)
  replace HBB := hidH (btr HBB.out b3)
  have px0 := HX.out.cell 0
  have px1 := HX.out.cell 1
  have px2 := HX.out.cell 2
  have px3 := HX.out.cell 3
  have py0 := HY.out.cell 0
  have py1 := HY.out.cell 1
  have py2 := HY.out.cell 2
  have py3 := HY.out.cell 3
  simp only [List.getElem?_toArray, List.getElem?_cons_succ, List.getElem?_cons_zero] at px0 px1 px2 px3 py0 py1 py2 py3
  have lpx := HX.out.lt
  have lpy := HY.out.lt
  clear q1 b3 HE1 H2
  cases b1
  case false =>
    have HN := hidH (show ¬ x = y from fun h => by have := HQ1.out.2 (HIF.out.1 h).2.2.1; cases this)
    clear HIF HQ1
    go_wp2
    go_ret
    exact ⟨false, rfl, ⟨(fun h => by cases h), fun h => absurd h HN.out⟩, HBB.out⟩
  go_wp2_with fail
  clear px0 px1 px2 px3 py0 py1 py2 py3 lpx lpy
  refine (HE2.out _ HBB.out).mono ?_
  rintro e w5 ⟨b3, rfl, q3, b5⟩
  have HQ3 := hidH q3
  replace HBB := hidH (btr HBB.out b5)
  clear b5 q3 HE2
  go_wp2
  go_ret
  exact ⟨b3, by cases b3 <;> rfl, ⟨fun h => HIF.out.2 ⟨HC.out.1, HC.out.2, HQ1.out.1 trivial, HQ3.out.1 h⟩, fun h => HQ3.out.2 (HIF.out.1 h).2.2.2⟩, HBB.out⟩
theorem ss_impl (x : SendM) (vs : List Value) (y : SendM) (us : List Value) (u : World) (h : RdA u x.vs vs) (hw : WfA x.vs) (ht : tot.totL x.vs ≤ 1048576) (h2 : RdA u y.vs us) (hw2 : WfA y.vs) (ht2 : tot.totL y.vs ≤ 1048576) :
    Calls Try.prog 24 #[.agg vs.toArray, .agg us.toArray] u (BolR (sameG x y) u) :=
  (ss_implE x y vs us u h h2 hw ht hw2 ht2).mono (fun _ _ h => h.bol)
end Go.Proofs.Ythljdikcpdokdaa
