/- Chunk, Data and their results (WRITTEN BY tools/kinds.py) -/
import Derived.Test.YthljdikcpdokdaaNa2
namespace Go.Proofs.Ythljdikcpdokdaa
open Go.RowKit Go.Deep Go.ChangeShapes Go.WideShapes Go.ChangeAt

structure ChunkM where
  Kind : Int
  Flags : Int
  Body : List Int
def ChunkM.vs (x : ChunkM) : List V := [.int x.Kind, .int x.Flags, .bs x.Body]
theorem shape_Chunk {w : World} {n0 : Int} {n1 : Int} {l2 : List Int} {vs : List Value} (h : RdA w [.int n0, .int n1, .bs l2] vs) : ∃ (A2 : Option Addr) (c2 : Nat), vs = [.int .i64 n0, .int .i64 n1, .slice A2 l2.length c2] := by
  obtain ⟨q0, e0, t0⟩ := h.int_out
  subst e0
  obtain ⟨q1, e1, t1⟩ := t0.int_out
  subst e1
  obtain ⟨v2, q2, e2, h2, t2⟩ := t1.any_out
  obtain ⟨A2, c2, a2⟩ := h2.bs_sh
  subst e2 a2
  have z := t2.nil_out
  subst z
  exact ⟨A2, c2, rfl⟩
theorem cnt_Chunk (y : ChunkM) (h : tot.totL y.vs ≤ 1048576) : vcA y.vs ≤ 1000000000 := by
  simp only [ChunkM.vs, vcA, vc, tot.totL, tot, cc] at *
  omega
theorem mem_Chunk {w : World} {g o : Nat} {y : ChunkM} (h : RdL w y.vs g o) : ∃ (A2 : Option Addr) (c2 : Nat), w.cell? ⟨g, o, none⟩ = some (.int .i64 y.Kind) ∧ w.cell? ⟨g, o + 1, none⟩ = some (.int .i64 y.Flags) ∧ w.cell? ⟨g, o + 2, none⟩ = some (.slice A2 y.Body.length c2) ∧ Rd w (.bs y.Body) (.slice A2 y.Body.length c2) := by
  obtain ⟨u0, p0, t0⟩ := h.get? 0 (.int y.Kind) rfl
  have e0 := t0.int_out
  subst e0
  obtain ⟨u1, p1, t1⟩ := h.get? 1 (.int y.Flags) rfl
  have e1 := t1.int_out
  subst e1
  obtain ⟨u2, p2, t2⟩ := h.get? 2 (.bs y.Body) rfl
  obtain ⟨A2, c2, e2⟩ := t2.bs_sh
  subst e2
  rw [Nat.add_zero] at p0
  exact ⟨A2, c2, p0, p1, p2, t2⟩
structure ChunkResultM where
  Code : Int
  Chunk_Kind : Int
  Chunk_Flags : Int
  Chunk_Body : List Int
def ChunkResultM.vs (x : ChunkResultM) : List V := [.int x.Code, .int x.Chunk_Kind, .int x.Chunk_Flags, .bs x.Chunk_Body]
theorem shape_ChunkResult {w : World} {n0 : Int} {n1 : Int} {n2 : Int} {l3 : List Int} {vs : List Value} (h : RdA w [.int n0, .int n1, .int n2, .bs l3] vs) : ∃ (A3 : Option Addr) (c3 : Nat), vs = [.int .i64 n0, .int .i64 n1, .int .i64 n2, .slice A3 l3.length c3] := by
  obtain ⟨q0, e0, t0⟩ := h.int_out
  subst e0
  obtain ⟨q1, e1, t1⟩ := t0.int_out
  subst e1
  obtain ⟨q2, e2, t2⟩ := t1.int_out
  subst e2
  obtain ⟨v3, q3, e3, h3, t3⟩ := t2.any_out
  obtain ⟨A3, c3, a3⟩ := h3.bs_sh
  subst e3 a3
  have z := t3.nil_out
  subst z
  exact ⟨A3, c3, rfl⟩
theorem cnt_ChunkResult (y : ChunkResultM) (h : tot.totL y.vs ≤ 1048576) : vcA y.vs ≤ 1000000000 := by
  simp only [ChunkResultM.vs, vcA, vc, tot.totL, tot, cc] at *
  omega
theorem mem_ChunkResult {w : World} {g o : Nat} {y : ChunkResultM} (h : RdL w y.vs g o) : ∃ (A3 : Option Addr) (c3 : Nat), w.cell? ⟨g, o, none⟩ = some (.int .i64 y.Code) ∧ w.cell? ⟨g, o + 1, none⟩ = some (.int .i64 y.Chunk_Kind) ∧ w.cell? ⟨g, o + 2, none⟩ = some (.int .i64 y.Chunk_Flags) ∧ w.cell? ⟨g, o + 3, none⟩ = some (.slice A3 y.Chunk_Body.length c3) ∧ Rd w (.bs y.Chunk_Body) (.slice A3 y.Chunk_Body.length c3) := by
  obtain ⟨u0, p0, t0⟩ := h.get? 0 (.int y.Code) rfl
  have e0 := t0.int_out
  subst e0
  obtain ⟨u1, p1, t1⟩ := h.get? 1 (.int y.Chunk_Kind) rfl
  have e1 := t1.int_out
  subst e1
  obtain ⟨u2, p2, t2⟩ := h.get? 2 (.int y.Chunk_Flags) rfl
  have e2 := t2.int_out
  subst e2
  obtain ⟨u3, p3, t3⟩ := h.get? 3 (.bs y.Chunk_Body) rfl
  obtain ⟨A3, c3, e3⟩ := t3.bs_sh
  subst e3
  rw [Nat.add_zero] at p0
  exact ⟨A3, c3, p0, p1, p2, p3, t3⟩
structure DataM where
  Tsn : Int
  Stream : Int
  Seq : Int
  First : Bool
  Last : Bool
  Unordered : Bool
  Piece : List Int
def DataM.vs (x : DataM) : List V := [.int x.Tsn, .int x.Stream, .int x.Seq, .bool x.First, .bool x.Last, .bool x.Unordered, .bs x.Piece]
theorem shape_Data {w : World} {n0 : Int} {n1 : Int} {n2 : Int} {b3 : Bool} {b4 : Bool} {b5 : Bool} {l6 : List Int} {vs : List Value} (h : RdA w [.int n0, .int n1, .int n2, .bool b3, .bool b4, .bool b5, .bs l6] vs) : ∃ (A6 : Option Addr) (c6 : Nat), vs = [.int .i64 n0, .int .i64 n1, .int .i64 n2, .bool b3, .bool b4, .bool b5, .slice A6 l6.length c6] := by
  obtain ⟨q0, e0, t0⟩ := h.int_out
  subst e0
  obtain ⟨q1, e1, t1⟩ := t0.int_out
  subst e1
  obtain ⟨q2, e2, t2⟩ := t1.int_out
  subst e2
  obtain ⟨q3, e3, t3⟩ := t2.bool_out
  subst e3
  obtain ⟨q4, e4, t4⟩ := t3.bool_out
  subst e4
  obtain ⟨q5, e5, t5⟩ := t4.bool_out
  subst e5
  obtain ⟨v6, q6, e6, h6, t6⟩ := t5.any_out
  obtain ⟨A6, c6, a6⟩ := h6.bs_sh
  subst e6 a6
  have z := t6.nil_out
  subst z
  exact ⟨A6, c6, rfl⟩
set_option maxRecDepth 100000 in
set_option maxHeartbeats 1000000 in
theorem eq_Data (n0 : Int) (n1 : Int) (n2 : Int) (b3 : Bool) (b4 : Bool) (b5 : Bool) (l6 : List Int) (v6 u6 : Value) (w : World) (hv6 : Rd w (.bs l6) v6) (hu6 : Rd w (.bs l6) u6) :
    Calls Try.prog 166 #[.agg #[.int .i64 n0, .int .i64 n1, .int .i64 n2, .bool b3, .bool b4, .bool b5, v6], .agg #[.int .i64 n0, .int .i64 n1, .int .i64 n2, .bool b3, .bool b4, .bool b5, u6]] w (EqR w) := by
  obtain ⟨A6, c6, rfl⟩ := hv6.bs_sh
  obtain ⟨B6, d6, rfl⟩ := hu6.bs_sh
  have K1 := (Blk.new w 69 #[.int .i64 n0, .int .i64 n1, .int .i64 n2, .bool b3, .bool b4, .bool b5, .slice A6 l6.length c6]).alloc (.cells #[.int .i64 n0, .int .i64 n1, .int .i64 n2, .bool b3, .bool b4, .bool b5, .slice B6 l6.length d6] 69)
  have K2 := Blk.new (w.alloc (.cells #[.int .i64 n0, .int .i64 n1, .int .i64 n2, .bool b3, .bool b4, .bool b5, .slice A6 l6.length c6] 69)) 69 #[.int .i64 n0, .int .i64 n1, .int .i64 n2, .bool b3, .bool b4, .bool b5, .slice B6 l6.length d6]
  have B0 := bal (bal (Below.refl w.heap.size w) (.cells #[.int .i64 n0, .int .i64 n1, .int .i64 n2, .bool b3, .bool b4, .bool b5, .slice A6 l6.length c6] 69)) (.cells #[.int .i64 n0, .int .i64 n1, .int .i64 n2, .bool b3, .bool b4, .bool b5, .slice B6 l6.length d6] 69)
  rw [World.size_alloc] at K2
  obtain ⟨W, hW⟩ : ∃ W, (w.alloc (.cells #[.int .i64 n0, .int .i64 n1, .int .i64 n2, .bool b3, .bool b4, .bool b5, .slice A6 l6.length c6] 69)).alloc (.cells #[.int .i64 n0, .int .i64 n1, .int .i64 n2, .bool b3, .bool b4, .bool b5, .slice B6 l6.length d6] 69) = W := ⟨_, rfl⟩
  rw [hW] at K1 K2 B0
  have HW := hidH hW
  have HB := hidH B0
  have HA := hidH K1
  have HC := hidH K2
  have HV6 := hidH (fun (u : World) (h : Below w.heap.size w u) => Rd.below h _ hv6)
  have HU6 := hidH (fun (u : World) (h : Below w.heap.size w u) => Rd.below h _ hu6)
  clear hW K1 K2 B0 hv6 hu6
  go_enter Try.func166, Try.ntmps166
  go_wp2_with fail
  rw [HW.out]
  refine (eqB_rd l6 _ _ _ (HV6.out _ HB.out) (HU6.out _ HB.out)).mono ?_
  rintro e w1 ⟨rfl, hb⟩
  replace HA := hidH (HA.out.below hb)
  replace HC := hidH (HC.out.below hb)
  replace HB := hidH (btr HB.out hb)
  clear hb
  go_wp2
  go_ret
  exact ⟨rfl, HB.out⟩
set_option maxRecDepth 100000 in
set_option maxHeartbeats 1000000 in
theorem sz_Data (n0 : Int) (n1 : Int) (n2 : Int) (b3 : Bool) (b4 : Bool) (b5 : Bool) (l6 : List Int) (v6 : Value) (left : Int) (w : World) (hv6 : Rd w (.bs l6) v6) (h0 : 0 ≤ left) (h1 : left ≤ 1048576) :
    Calls Try.prog 180 #[.agg #[.int .i64 n0, .int .i64 n1, .int .i64 n2, .bool b3, .bool b4, .bool b5, v6], .int .i64 left] w (SzR left (tot.totL [.int n0, .int n1, .int n2, .bool b3, .bool b4, .bool b5, .bs l6]) w) := by
  obtain ⟨A6, c6, rfl⟩ := hv6.bs_sh
  have K1 := Blk.new w 199 #[.int .i64 n0, .int .i64 n1, .int .i64 n2, .bool b3, .bool b4, .bool b5, .slice A6 l6.length c6]
  have B0 := bal (Below.refl w.heap.size w) (.cells #[.int .i64 n0, .int .i64 n1, .int .i64 n2, .bool b3, .bool b4, .bool b5, .slice A6 l6.length c6] 199)
  obtain ⟨W, hW⟩ : ∃ W, w.alloc (.cells #[.int .i64 n0, .int .i64 n1, .int .i64 n2, .bool b3, .bool b4, .bool b5, .slice A6 l6.length c6] 199) = W := ⟨_, rfl⟩
  rw [hW] at K1 B0
  have HW := hidH hW
  have HB := hidH B0
  have HA := hidH K1
  have hcnt : tot.totL [.int n0, .int n1, .int n2, .bool b3, .bool b4, .bool b5, .bs l6] = tot (.bs l6) := by simp only [tot.totL, tot] <;> omega
  rw [hcnt]
  have HV6 := hidH (fun (u : World) (h : Below w.heap.size w u) => Rd.below h _ hv6)
  clear hW K1 B0 hcnt hv6
  go_enter Try.func180, Try.ntmps180
  go_wp2_with fail
  rw [HW.out]
  refine (szB_rd l6 _ left _ (HV6.out _ HB.out) (by omega) (by omega)).mono ?_
  rintro e w1 ⟨z0, rfl, hz0, hb⟩
  replace HA := hidH (HA.out.below hb)
  replace HB := hidH (btr HB.out hb)
  clear hb
  have HZ0 := hidH hz0
  have hzl0 := hz0.2.1
  clear hz0
  by_cases hn0 : z0 < 0
  · obtain rfl : z0 = -1 := by rcases HZ0.out.1 with h | h <;> omega
    clear hn0
    go_wp2
    go_ret
    exact ⟨-1, rfl, ⟨.inl rfl, by omega, fun h => by omega⟩, HB.out⟩
  · have hp0 : 0 ≤ z0 := by omega
    clear hzl0
    go_wp2
    go_ret
    exact ⟨z0, rfl, ⟨.inr hp0, by have := HZ0.out.2.1; omega, fun _ => by have := HZ0.out.2.2 hp0; omega⟩, HB.out⟩
set_option maxRecDepth 100000 in
set_option maxHeartbeats 1000000 in
theorem to_Data (n0 : Int) (n1 : Int) (n2 : Int) (b3 : Bool) (b4 : Bool) (b5 : Bool) (l6 : List Int) (v6 : Value) (w : World) (hv6 : Rd w (.bs l6) v6) (hm : tot.totL [.int n0, .int n1, .int n2, .bool b3, .bool b4, .bool b5, .bs l6] ≤ 1048576) :
    Calls Try.prog 181 #[.agg #[.int .i64 n0, .int .i64 n1, .int .i64 n2, .bool b3, .bool b4, .bool b5, v6]] w (Res w [.int n0, .int n1, .int n2, .bool b3, .bool b4, .bool b5, .bs l6]) := by
  obtain ⟨A6, c6, rfl⟩ := hv6.bs_sh
  have KA := ((Blk.new w 199 #[.int .i64 n0, .int .i64 n1, .int .i64 n2, .bool b3, .bool b4, .bool b5, .slice A6 l6.length c6]).alloc (.cells #[.int .i64 0, .int .i64 0, .int .i64 0, .bool false, .bool false, .bool false, .slice none 0 0] 69)).alloc (.cells #[.int .i64 n0, .int .i64 n1, .int .i64 n2, .bool b3, .bool b4, .bool b5, .slice none 0 0] 69)
  have KR := (Blk.new (w.alloc (.cells #[.int .i64 n0, .int .i64 n1, .int .i64 n2, .bool b3, .bool b4, .bool b5, .slice A6 l6.length c6] 199)) 69 #[.int .i64 0, .int .i64 0, .int .i64 0, .bool false, .bool false, .bool false, .slice none 0 0]).alloc (.cells #[.int .i64 n0, .int .i64 n1, .int .i64 n2, .bool b3, .bool b4, .bool b5, .slice none 0 0] 69)
  have KV := Blk.new ((w.alloc (.cells #[.int .i64 n0, .int .i64 n1, .int .i64 n2, .bool b3, .bool b4, .bool b5, .slice A6 l6.length c6] 199)).alloc (.cells #[.int .i64 0, .int .i64 0, .int .i64 0, .bool false, .bool false, .bool false, .slice none 0 0] 69)) 69 #[.int .i64 n0, .int .i64 n1, .int .i64 n2, .bool b3, .bool b4, .bool b5, .slice none 0 0]
  have B0 := bal (bal (bal (Below.refl w.heap.size w) (.cells #[.int .i64 n0, .int .i64 n1, .int .i64 n2, .bool b3, .bool b4, .bool b5, .slice A6 l6.length c6] 199)) (.cells #[.int .i64 0, .int .i64 0, .int .i64 0, .bool false, .bool false, .bool false, .slice none 0 0] 69)) (.cells #[.int .i64 n0, .int .i64 n1, .int .i64 n2, .bool b3, .bool b4, .bool b5, .slice none 0 0] 69)
  have hsz : (((w.alloc (.cells #[.int .i64 n0, .int .i64 n1, .int .i64 n2, .bool b3, .bool b4, .bool b5, .slice A6 l6.length c6] 199)).alloc (.cells #[.int .i64 0, .int .i64 0, .int .i64 0, .bool false, .bool false, .bool false, .slice none 0 0] 69)).alloc (.cells #[.int .i64 n0, .int .i64 n1, .int .i64 n2, .bool b3, .bool b4, .bool b5, .slice none 0 0] 69)).heap.size = w.heap.size + 1 + 1 + 1 := by simp only [World.size_alloc]
  simp only [World.size_alloc] at KR KV
  obtain ⟨w0, hW⟩ : ∃ W, ((w.alloc (.cells #[.int .i64 n0, .int .i64 n1, .int .i64 n2, .bool b3, .bool b4, .bool b5, .slice A6 l6.length c6] 199)).alloc (.cells #[.int .i64 0, .int .i64 0, .int .i64 0, .bool false, .bool false, .bool false, .slice none 0 0] 69)).alloc (.cells #[.int .i64 n0, .int .i64 n1, .int .i64 n2, .bool b3, .bool b4, .bool b5, .slice none 0 0] 69) = W := ⟨_, rfl⟩
  rw [hW] at KA KR KV B0 hsz
  have HW := hidH hW
  have HB := hidH B0
  have HA := hidH KA
  have HR := hidH KR
  have HV := hidH KV
  have HZ := hidH hsz
  have hcnt : tot.totL [.int n0, .int n1, .int n2, .bool b3, .bool b4, .bool b5, .bs l6] = tot (.bs l6) := by simp only [tot.totL, tot] <;> omega
  rw [hcnt] at hm
  have HM := hidH hm
  have HV6 := hidH (fun (u : World) (h : Below w.heap.size w u) => Rd.below h _ hv6)
  have es : ∀ (u : World) (p : Addr) (v : Value), (u.setCell p v).heap.size = u.heap.size := fun u p v => by simp [World.setCell]
  have HES := hidH es
  clear hW hm hcnt KA KR KV B0 hsz es hv6
  go_enter Try.func181, Try.ntmps181
  go_wp2_with fail
  rw [HW.out]
  have HB1 := hidH (HB.out)
  refine (toB_rd l6 _ _ (HV6.out _ HB1.out) (by have := HM.out; omega)).mono ?_
  rintro e w1 ⟨u6, rfl, O0, hb⟩
  obtain ⟨E6, e6, rfl⟩ := O0.rd.bs_sh
  have HA1 := hidH ((HA.out).below hb)
  have HR1 := hidH ((HR.out).below hb)
  have HV1 : Hid (Blk w1 (w.heap.size + 1 + 1) 69 #[.int .i64 n0, .int .i64 n1, .int .i64 n2, .bool b3, .bool b4, .bool b5, .slice none 0 0]) := hidH (Blk.below (HV.out) hb)
  have HZ1 : Hid (w0.heap.size ≤ w1.heap.size) := hidH (by have := hb.size; simpa only [HES.out] using this)
  have O0 := hidH (show OwV w0.heap.size w1.heap.size w1 _ _ by simpa only [HES.out] using O0)
  have HG0 := hidH (show w0.heap.size ≤ w0.heap.size by exact Nat.le_refl _)
  have HZ00 := HZ1
  replace HB := hidH (btr HB1.out hb)
  clear HA HR HV HB1 hb HZ1
  have HA := HA1
  have HR := HR1
  have HV := HV1
  clear HA1 HR1 HV1
  have x0 := HR.out.cell 0
  have h0 := HR.out.frozen 0
  have y0 := HV.out.cell 0
  have f0 := HV.out.frozen 0
  have x1 := HR.out.cell 1
  have h1 := HR.out.frozen 1
  have y1 := HV.out.cell 1
  have f1 := HV.out.frozen 1
  have x2 := HR.out.cell 2
  have h2 := HR.out.frozen 2
  have y2 := HV.out.cell 2
  have f2 := HV.out.frozen 2
  have x3 := HR.out.cell 3
  have h3 := HR.out.frozen 3
  have y3 := HV.out.cell 3
  have f3 := HV.out.frozen 3
  have x4 := HR.out.cell 4
  have h4 := HR.out.frozen 4
  have y4 := HV.out.cell 4
  have f4 := HV.out.frozen 4
  have x5 := HR.out.cell 5
  have h5 := HR.out.frozen 5
  have y5 := HV.out.cell 5
  have f5 := HV.out.frozen 5
  have x6 := HR.out.cell 6
  have h6 := HR.out.frozen 6
  have y6 := HV.out.cell 6
  have f6 := HV.out.frozen 6
  simp only [List.getElem?_toArray, List.getElem?_cons_succ, List.getElem?_cons_zero] at x0 y0 x1 y1 x2 y2 x3 y3 x4 y4 x5 y5 x6 y6
  have gv := HV.out.lt
  have gr := HR.out.lt
  go_wp2
  have BF := bst (bst (bst (bst (bst (bst (bst (bst (HB.out) (p := ⟨w.heap.size + 1 + 1, 6, none⟩) (by show w.heap.size ≤ w.heap.size + 1 + 1; omega) (.slice E6 l6.length e6)) (p := ⟨w.heap.size + 1, 0, none⟩) (by show w.heap.size ≤ w.heap.size + 1; omega) (.int .i64 n0)) (p := ⟨w.heap.size + 1, 1, none⟩) (by show w.heap.size ≤ w.heap.size + 1; omega) (.int .i64 n1)) (p := ⟨w.heap.size + 1, 2, none⟩) (by show w.heap.size ≤ w.heap.size + 1; omega) (.int .i64 n2)) (p := ⟨w.heap.size + 1, 3, none⟩) (by show w.heap.size ≤ w.heap.size + 1; omega) (.bool b3)) (p := ⟨w.heap.size + 1, 4, none⟩) (by show w.heap.size ≤ w.heap.size + 1; omega) (.bool b4)) (p := ⟨w.heap.size + 1, 5, none⟩) (by show w.heap.size ≤ w.heap.size + 1; omega) (.bool b5)) (p := ⟨w.heap.size + 1, 6, none⟩) (by show w.heap.size ≤ w.heap.size + 1; omega) (.slice E6 l6.length e6)
  have P0 := ((((((((O0.out).win (set_win _ (w.heap.size + 1 + 1) 6 (.slice E6 l6.length e6)) (.inr (by have := HZ.out; have := HG0.out; omega))).win (set_win _ (w.heap.size + 1) 0 (.int .i64 n0)) (.inr (by have := HZ.out; have := HG0.out; omega))).win (set_win _ (w.heap.size + 1) 1 (.int .i64 n1)) (.inr (by have := HZ.out; have := HG0.out; omega))).win (set_win _ (w.heap.size + 1) 2 (.int .i64 n2)) (.inr (by have := HZ.out; have := HG0.out; omega))).win (set_win _ (w.heap.size + 1) 3 (.bool b3)) (.inr (by have := HZ.out; have := HG0.out; omega))).win (set_win _ (w.heap.size + 1) 4 (.bool b4)) (.inr (by have := HZ.out; have := HG0.out; omega))).win (set_win _ (w.heap.size + 1) 5 (.bool b5)) (.inr (by have := HZ.out; have := HG0.out; omega))).win (set_win _ (w.heap.size + 1) 6 (.slice E6 l6.length e6)) (.inr (by have := HZ.out; have := HG0.out; omega))
  have es := HES.out
  have PF := OwN.int n0 (OwN.int n1 (OwN.int n2 (OwN.bool b3 (OwN.bool b4 (OwN.bool b5 (OwN.cons P0 (OwN.nil (B := w1.heap.size) (C := w1.heap.size) (by simp only [es]; exact Nat.le_refl _)) HZ00.out (Nat.le_refl _)))))))
  exact bodyPost_ret (v := .agg #[.int .i64 n0, .int .i64 n1, .int .i64 n2, .bool b3, .bool b4, .bool b5, .slice E6 l6.length e6]) (by simp [results, Try.results181, go_sem, x0, x1, x2, x3, x4, x5, x6]) rfl ⟨[.int .i64 n0, .int .i64 n1, .int .i64 n2, .bool b3, .bool b4, .bool b5, .slice E6 l6.length e6], rfl, PF.mono (by have := HB.out.size; have := HZ.out; omega) (by simp only [es]; exact Nat.le_refl _) (Nat.le_refl _), BF⟩
theorem eqA_Data (y : DataM) {vs us : List Value} {w : World} (h : RdA w y.vs vs) (k : RdA w y.vs us) : Calls Try.prog 166 #[.agg vs.toArray, .agg us.toArray] w (EqR w) := by
  obtain ⟨A6, c6, rfl⟩ := shape_Data (h)
  obtain ⟨B6, d6, rfl⟩ := shape_Data (k)
  exact eq_Data y.Tsn y.Stream y.Seq y.First y.Last y.Unordered y.Piece _ _ w h.tl.tl.tl.tl.tl.tl.hd k.tl.tl.tl.tl.tl.tl.hd
theorem szA_Data (y : DataM) {vs : List Value} {left : Int} {w : World} (h : RdA w y.vs vs) (h0 : 0 ≤ left) (h1 : left ≤ 1048576) : Calls Try.prog 180 #[.agg vs.toArray, .int .i64 left] w (SzR left (tot.totL y.vs) w) := by
  obtain ⟨A6, c6, rfl⟩ := shape_Data (h)
  exact sz_Data y.Tsn y.Stream y.Seq y.First y.Last y.Unordered y.Piece _ left w h.tl.tl.tl.tl.tl.tl.hd h0 h1
theorem toA_Data (y : DataM) {vs : List Value} {w : World} (h : RdA w y.vs vs) (hm : tot.totL y.vs ≤ 1048576) : Calls Try.prog 181 #[.agg vs.toArray] w (Res w y.vs) := by
  obtain ⟨A6, c6, rfl⟩ := shape_Data (h)
  exact to_Data y.Tsn y.Stream y.Seq y.First y.Last y.Unordered y.Piece _ w h.tl.tl.tl.tl.tl.tl.hd hm
theorem cnt_Data (y : DataM) (h : tot.totL y.vs ≤ 1048576) : vcA y.vs ≤ 1000000000 := by
  simp only [DataM.vs, vcA, vc, tot.totL, tot, cc] at *
  omega
theorem mem_Data {w : World} {g o : Nat} {y : DataM} (h : RdL w y.vs g o) : ∃ (A6 : Option Addr) (c6 : Nat), w.cell? ⟨g, o, none⟩ = some (.int .i64 y.Tsn) ∧ w.cell? ⟨g, o + 1, none⟩ = some (.int .i64 y.Stream) ∧ w.cell? ⟨g, o + 2, none⟩ = some (.int .i64 y.Seq) ∧ w.cell? ⟨g, o + 3, none⟩ = some (.bool y.First) ∧ w.cell? ⟨g, o + 4, none⟩ = some (.bool y.Last) ∧ w.cell? ⟨g, o + 5, none⟩ = some (.bool y.Unordered) ∧ w.cell? ⟨g, o + 6, none⟩ = some (.slice A6 y.Piece.length c6) ∧ Rd w (.bs y.Piece) (.slice A6 y.Piece.length c6) := by
  obtain ⟨u0, p0, t0⟩ := h.get? 0 (.int y.Tsn) rfl
  have e0 := t0.int_out
  subst e0
  obtain ⟨u1, p1, t1⟩ := h.get? 1 (.int y.Stream) rfl
  have e1 := t1.int_out
  subst e1
  obtain ⟨u2, p2, t2⟩ := h.get? 2 (.int y.Seq) rfl
  have e2 := t2.int_out
  subst e2
  obtain ⟨u3, p3, t3⟩ := h.get? 3 (.bool y.First) rfl
  have e3 := t3.bool_out
  subst e3
  obtain ⟨u4, p4, t4⟩ := h.get? 4 (.bool y.Last) rfl
  have e4 := t4.bool_out
  subst e4
  obtain ⟨u5, p5, t5⟩ := h.get? 5 (.bool y.Unordered) rfl
  have e5 := t5.bool_out
  subst e5
  obtain ⟨u6, p6, t6⟩ := h.get? 6 (.bs y.Piece) rfl
  obtain ⟨A6, c6, e6⟩ := t6.bs_sh
  subst e6
  rw [Nat.add_zero] at p0
  exact ⟨A6, c6, p0, p1, p2, p3, p4, p5, p6, t6⟩
section
variable {H : Type} {enc : TypeId × Value → H} {w : World} {base : Nat} {spare : Nat → Bool} {held : Bool}
theorem cells_Data : Try.prog.cellsOf 199 = 7 := by kernel_rfl
theorem cells_Data_0 : Try.prog.cellsOf 2 = 1 := by kernel_rfl
theorem cells_Data_1 : Try.prog.cellsOf 2 = 1 := by kernel_rfl
theorem cells_Data_2 : Try.prog.cellsOf 2 = 1 := by kernel_rfl
theorem cells_Data_3 : Try.prog.cellsOf 4 = 1 := by kernel_rfl
theorem cells_Data_4 : Try.prog.cellsOf 4 = 1 := by kernel_rfl
theorem cells_Data_5 : Try.prog.cellsOf 4 = 1 := by kernel_rfl
theorem cells_Data_6 : Try.prog.cellsOf 22 = 1 := by kernel_rfl
set_option maxHeartbeats 1000000 in
theorem open_Data {n : Nat} {cs : List Value} {x : DataW H × List MemPlace} (h : DataW.trod enc Try.prog w base spare held n 199 cs = some x) : ∃ y : DataM, RdA w y.vs cs ∧ WfA y.vs := by
  obtain ⟨xs, m, _, _, hl, hlen, hf⟩ := DataW.trod_struct Try.underlying199 h
  rw [cells_Data] at hl
  have hlen2 : xs.length = 7 := hlen
  obtain ⟨v0, v1, v2, v3, v4, v5, v6, rfl⟩ := list_7 hl
  obtain ⟨y0, y1, y2, y3, y4, y5, y6, rfl⟩ := list_7 hlen2
  have t0 : DataW.trod enc Try.prog w base spare held m 2 (([v0, v1, v2, v3, v4, v5, v6].drop 0).take (Try.prog.cellsOf 2)) = _ := hf 0 _ rfl
  rw [cells_Data_0] at t0
  replace t0 : DataW.trod enc Try.prog w base spare held m 2 [v0] = some y0 := t0
  have t1 : DataW.trod enc Try.prog w base spare held m 2 (([v0, v1, v2, v3, v4, v5, v6].drop 1).take (Try.prog.cellsOf 2)) = _ := hf 1 _ rfl
  rw [cells_Data_1] at t1
  replace t1 : DataW.trod enc Try.prog w base spare held m 2 [v1] = some y1 := t1
  have t2 : DataW.trod enc Try.prog w base spare held m 2 (([v0, v1, v2, v3, v4, v5, v6].drop 2).take (Try.prog.cellsOf 2)) = _ := hf 2 _ rfl
  rw [cells_Data_2] at t2
  replace t2 : DataW.trod enc Try.prog w base spare held m 2 [v2] = some y2 := t2
  have t3 : DataW.trod enc Try.prog w base spare held m 4 (([v0, v1, v2, v3, v4, v5, v6].drop 3).take (Try.prog.cellsOf 4)) = _ := hf 3 _ rfl
  rw [cells_Data_3] at t3
  replace t3 : DataW.trod enc Try.prog w base spare held m 4 [v3] = some y3 := t3
  have t4 : DataW.trod enc Try.prog w base spare held m 4 (([v0, v1, v2, v3, v4, v5, v6].drop 4).take (Try.prog.cellsOf 4)) = _ := hf 4 _ rfl
  rw [cells_Data_4] at t4
  replace t4 : DataW.trod enc Try.prog w base spare held m 4 [v4] = some y4 := t4
  have t5 : DataW.trod enc Try.prog w base spare held m 4 (([v0, v1, v2, v3, v4, v5, v6].drop 5).take (Try.prog.cellsOf 4)) = _ := hf 5 _ rfl
  rw [cells_Data_5] at t5
  replace t5 : DataW.trod enc Try.prog w base spare held m 4 [v5] = some y5 := t5
  have t6 : DataW.trod enc Try.prog w base spare held m 22 (([v0, v1, v2, v3, v4, v5, v6].drop 6).take (Try.prog.cellsOf 22)) = _ := hf 6 _ rfl
  rw [cells_Data_6] at t6
  replace t6 : DataW.trod enc Try.prog w base spare held m 22 [v6] = some y6 := t6
  obtain ⟨n0, e0, _, w0⟩ := DataW.trod_int Try.underlying2 t0
  simp only [List.cons.injEq, and_true] at e0
  subst e0
  obtain ⟨n1, e1, _, w1⟩ := DataW.trod_int Try.underlying2 t1
  simp only [List.cons.injEq, and_true] at e1
  subst e1
  obtain ⟨n2, e2, _, w2⟩ := DataW.trod_int Try.underlying2 t2
  simp only [List.cons.injEq, and_true] at e2
  subst e2
  obtain ⟨n3, e3, _⟩ := DataW.trod_bool Try.underlying4 t3
  simp only [List.cons.injEq, and_true] at e3
  subst e3
  obtain ⟨n4, e4, _⟩ := DataW.trod_bool Try.underlying4 t4
  simp only [List.cons.injEq, and_true] at e4
  subst e4
  obtain ⟨n5, e5, _⟩ := DataW.trod_bool Try.underlying4 t5
  simp only [List.cons.injEq, and_true] at e5
  subst e5
  obtain ⟨n6, r6, w6⟩ := open_bs t6
  exact ⟨⟨n0, n1, n2, n3, n4, n5, n6⟩, RdA.int_mk (RdA.int_mk (RdA.int_mk (RdA.bool_mk (RdA.bool_mk (RdA.bool_mk (RdA.any_mk r6 (RdA.nil_mk))))))), ⟨wf_int w0, ⟨wf_int w1, ⟨wf_int w2, ⟨trivial, ⟨trivial, ⟨trivial, ⟨w6, trivial⟩⟩⟩⟩⟩⟩⟩⟩
theorem opened_Data {cs0 : Array Value} {d : DataW H} {pl : List MemPlace} (h : DataW.Trod enc Try.prog w base spare held 199 (.agg cs0) d pl) : ∃ (y : DataM) (A6 : Option Addr) (c6 : Nat), cs0 = #[.int .i64 y.Tsn, .int .i64 y.Stream, .int .i64 y.Seq, .bool y.First, .bool y.Last, .bool y.Unordered, .slice A6 y.Piece.length c6] ∧ RdA w y.vs [.int .i64 y.Tsn, .int .i64 y.Stream, .int .i64 y.Seq, .bool y.First, .bool y.Last, .bool y.Unordered, .slice A6 y.Piece.length c6] ∧ WfA y.vs := by
  obtain ⟨fuel, hf⟩ := h
  obtain ⟨y, h1, h2⟩ := open_Data hf
  have h3 := h1
  obtain ⟨A6, c6, e⟩ := shape_Data h3
  rw [e] at h1
  refine ⟨y, A6, c6, ?_, h1, h2⟩
  simp only [Value.cells] at e
  exact Array.ext' (by simpa using e)
end
structure DataResultM where
  Code : Int
  Data_Tsn : Int
  Data_Stream : Int
  Data_Seq : Int
  Data_First : Bool
  Data_Last : Bool
  Data_Unordered : Bool
  Data_Piece : List Int
def DataResultM.vs (x : DataResultM) : List V := [.int x.Code, .int x.Data_Tsn, .int x.Data_Stream, .int x.Data_Seq, .bool x.Data_First, .bool x.Data_Last, .bool x.Data_Unordered, .bs x.Data_Piece]
theorem shape_DataResult {w : World} {n0 : Int} {n1 : Int} {n2 : Int} {n3 : Int} {b4 : Bool} {b5 : Bool} {b6 : Bool} {l7 : List Int} {vs : List Value} (h : RdA w [.int n0, .int n1, .int n2, .int n3, .bool b4, .bool b5, .bool b6, .bs l7] vs) : ∃ (A7 : Option Addr) (c7 : Nat), vs = [.int .i64 n0, .int .i64 n1, .int .i64 n2, .int .i64 n3, .bool b4, .bool b5, .bool b6, .slice A7 l7.length c7] := by
  obtain ⟨q0, e0, t0⟩ := h.int_out
  subst e0
  obtain ⟨q1, e1, t1⟩ := t0.int_out
  subst e1
  obtain ⟨q2, e2, t2⟩ := t1.int_out
  subst e2
  obtain ⟨q3, e3, t3⟩ := t2.int_out
  subst e3
  obtain ⟨q4, e4, t4⟩ := t3.bool_out
  subst e4
  obtain ⟨q5, e5, t5⟩ := t4.bool_out
  subst e5
  obtain ⟨q6, e6, t6⟩ := t5.bool_out
  subst e6
  obtain ⟨v7, q7, e7, h7, t7⟩ := t6.any_out
  obtain ⟨A7, c7, a7⟩ := h7.bs_sh
  subst e7 a7
  have z := t7.nil_out
  subst z
  exact ⟨A7, c7, rfl⟩
theorem cnt_DataResult (y : DataResultM) (h : tot.totL y.vs ≤ 1048576) : vcA y.vs ≤ 1000000000 := by
  simp only [DataResultM.vs, vcA, vc, tot.totL, tot, cc] at *
  omega
theorem mem_DataResult {w : World} {g o : Nat} {y : DataResultM} (h : RdL w y.vs g o) : ∃ (A7 : Option Addr) (c7 : Nat), w.cell? ⟨g, o, none⟩ = some (.int .i64 y.Code) ∧ w.cell? ⟨g, o + 1, none⟩ = some (.int .i64 y.Data_Tsn) ∧ w.cell? ⟨g, o + 2, none⟩ = some (.int .i64 y.Data_Stream) ∧ w.cell? ⟨g, o + 3, none⟩ = some (.int .i64 y.Data_Seq) ∧ w.cell? ⟨g, o + 4, none⟩ = some (.bool y.Data_First) ∧ w.cell? ⟨g, o + 5, none⟩ = some (.bool y.Data_Last) ∧ w.cell? ⟨g, o + 6, none⟩ = some (.bool y.Data_Unordered) ∧ w.cell? ⟨g, o + 7, none⟩ = some (.slice A7 y.Data_Piece.length c7) ∧ Rd w (.bs y.Data_Piece) (.slice A7 y.Data_Piece.length c7) := by
  obtain ⟨u0, p0, t0⟩ := h.get? 0 (.int y.Code) rfl
  have e0 := t0.int_out
  subst e0
  obtain ⟨u1, p1, t1⟩ := h.get? 1 (.int y.Data_Tsn) rfl
  have e1 := t1.int_out
  subst e1
  obtain ⟨u2, p2, t2⟩ := h.get? 2 (.int y.Data_Stream) rfl
  have e2 := t2.int_out
  subst e2
  obtain ⟨u3, p3, t3⟩ := h.get? 3 (.int y.Data_Seq) rfl
  have e3 := t3.int_out
  subst e3
  obtain ⟨u4, p4, t4⟩ := h.get? 4 (.bool y.Data_First) rfl
  have e4 := t4.bool_out
  subst e4
  obtain ⟨u5, p5, t5⟩ := h.get? 5 (.bool y.Data_Last) rfl
  have e5 := t5.bool_out
  subst e5
  obtain ⟨u6, p6, t6⟩ := h.get? 6 (.bool y.Data_Unordered) rfl
  have e6 := t6.bool_out
  subst e6
  obtain ⟨u7, p7, t7⟩ := h.get? 7 (.bs y.Data_Piece) rfl
  obtain ⟨A7, c7, e7⟩ := t7.bs_sh
  subst e7
  rw [Nat.add_zero] at p0
  exact ⟨A7, c7, p0, p1, p2, p3, p4, p5, p6, p7, t7⟩
end Go.Proofs.Ythljdikcpdokdaa
