/- A sender and its result (WRITTEN BY tools/kinds.py) -/
import Derived.Test.YthljdikcpdokdaaTyMsg
namespace Go.Proofs.Ythljdikcpdokdaa
open Go.RowKit Go.Deep Go.ChangeShapes Go.WideShapes Go.ChangeAt

structure SendItemM where
  Data_Tsn : Int
  Data_Stream : Int
  Data_Seq : Int
  Data_First : Bool
  Data_Last : Bool
  Data_Unordered : Bool
  Data_Piece : List Int
  Sent : Int
  Due : Int
def SendItemM.vs (x : SendItemM) : List V := [.int x.Data_Tsn, .int x.Data_Stream, .int x.Data_Seq, .bool x.Data_First, .bool x.Data_Last, .bool x.Data_Unordered, .bs x.Data_Piece, .int x.Sent, .int x.Due]
theorem shape_SendItem {w : World} {n0 : Int} {n1 : Int} {n2 : Int} {b3 : Bool} {b4 : Bool} {b5 : Bool} {l6 : List Int} {n7 : Int} {n8 : Int} {vs : List Value} (h : RdA w [.int n0, .int n1, .int n2, .bool b3, .bool b4, .bool b5, .bs l6, .int n7, .int n8] vs) : ∃ (A6 : Option Addr) (c6 : Nat), vs = [.int .i64 n0, .int .i64 n1, .int .i64 n2, .bool b3, .bool b4, .bool b5, .slice A6 l6.length c6, .int .i64 n7, .int .i64 n8] := by
  obtain ⟨q0, e0, t0⟩ := h.int_out
  subst e0
  obtain ⟨q1, e1, t1⟩ := t0.int_out
  subst e1
  obtain ⟨q2, e2, t2⟩ := t1.int_out
  subst e2
  obtain ⟨q3, e3, t3⟩ := t2.bool_out
  subst e3
  obtain ⟨q4, e4, t4⟩ := t3.bool_out
  subst e4
  obtain ⟨q5, e5, t5⟩ := t4.bool_out
  subst e5
  obtain ⟨v6, q6, e6, h6, t6⟩ := t5.any_out
  obtain ⟨A6, c6, a6⟩ := h6.bs_sh
  subst e6 a6
  obtain ⟨q7, e7, t7⟩ := t6.int_out
  subst e7
  obtain ⟨q8, e8, t8⟩ := t7.int_out
  subst e8
  have z := t8.nil_out
  subst z
  exact ⟨A6, c6, rfl⟩
set_option maxRecDepth 100000 in
set_option maxHeartbeats 1000000 in
theorem eq_SendItem (n0 : Int) (n1 : Int) (n2 : Int) (b3 : Bool) (b4 : Bool) (b5 : Bool) (l6 : List Int) (n7 : Int) (n8 : Int) (v6 u6 : Value) (w : World) (hv6 : Rd w (.bs l6) v6) (hu6 : Rd w (.bs l6) u6) :
    Calls Try.prog 165 #[.agg #[.int .i64 n0, .int .i64 n1, .int .i64 n2, .bool b3, .bool b4, .bool b5, v6, .int .i64 n7, .int .i64 n8], .agg #[.int .i64 n0, .int .i64 n1, .int .i64 n2, .bool b3, .bool b4, .bool b5, u6, .int .i64 n7, .int .i64 n8]] w (EqR w) := by
  obtain ⟨A6, c6, rfl⟩ := hv6.bs_sh
  obtain ⟨B6, d6, rfl⟩ := hu6.bs_sh
  have K1 := (Blk.new w 121 #[.int .i64 n0, .int .i64 n1, .int .i64 n2, .bool b3, .bool b4, .bool b5, .slice A6 l6.length c6, .int .i64 n7, .int .i64 n8]).alloc (.cells #[.int .i64 n0, .int .i64 n1, .int .i64 n2, .bool b3, .bool b4, .bool b5, .slice B6 l6.length d6, .int .i64 n7, .int .i64 n8] 121)
  have K2 := Blk.new (w.alloc (.cells #[.int .i64 n0, .int .i64 n1, .int .i64 n2, .bool b3, .bool b4, .bool b5, .slice A6 l6.length c6, .int .i64 n7, .int .i64 n8] 121)) 121 #[.int .i64 n0, .int .i64 n1, .int .i64 n2, .bool b3, .bool b4, .bool b5, .slice B6 l6.length d6, .int .i64 n7, .int .i64 n8]
  have B0 := bal (bal (Below.refl w.heap.size w) (.cells #[.int .i64 n0, .int .i64 n1, .int .i64 n2, .bool b3, .bool b4, .bool b5, .slice A6 l6.length c6, .int .i64 n7, .int .i64 n8] 121)) (.cells #[.int .i64 n0, .int .i64 n1, .int .i64 n2, .bool b3, .bool b4, .bool b5, .slice B6 l6.length d6, .int .i64 n7, .int .i64 n8] 121)
  rw [World.size_alloc] at K2
  obtain ⟨W, hW⟩ : ∃ W, (w.alloc (.cells #[.int .i64 n0, .int .i64 n1, .int .i64 n2, .bool b3, .bool b4, .bool b5, .slice A6 l6.length c6, .int .i64 n7, .int .i64 n8] 121)).alloc (.cells #[.int .i64 n0, .int .i64 n1, .int .i64 n2, .bool b3, .bool b4, .bool b5, .slice B6 l6.length d6, .int .i64 n7, .int .i64 n8] 121) = W := ⟨_, rfl⟩
  rw [hW] at K1 K2 B0
  have HW := hidH hW
  have HB := hidH B0
  have HA := hidH K1
  have HC := hidH K2
  have HV6 := hidH (fun (u : World) (h : Below w.heap.size w u) => Rd.below h _ hv6)
  have HU6 := hidH (fun (u : World) (h : Below w.heap.size w u) => Rd.below h _ hu6)
  clear hW K1 K2 B0 hv6 hu6
  go_enter Try.func165, Try.ntmps165
  go_wp2_with fail
  rw [HW.out]
  refine (eq_Data n0 n1 n2 b3 b4 b5 l6 _ _ _ (HV6.out _ HB.out) (HU6.out _ HB.out)).mono ?_
  rintro e w1 ⟨rfl, hb⟩
  replace HA := hidH (HA.out.below hb)
  replace HC := hidH (HC.out.below hb)
  replace HB := hidH (btr HB.out hb)
  clear hb
  have p7 := HA.out.cell 7
  have p8 := HA.out.cell 8
  have q7 := HC.out.cell 7
  have q8 := HC.out.cell 8
  simp only [List.getElem?_toArray, List.getElem?_cons_succ, List.getElem?_cons_zero] at p7 p8 q7 q8
  have gp := HA.out.lt
  have gq := HC.out.lt
  go_wp2
  go_ret
  exact ⟨rfl, HB.out⟩
set_option maxRecDepth 100000 in
set_option maxHeartbeats 1000000 in
theorem sz_SendItem (n0 : Int) (n1 : Int) (n2 : Int) (b3 : Bool) (b4 : Bool) (b5 : Bool) (l6 : List Int) (n7 : Int) (n8 : Int) (v6 : Value) (left : Int) (w : World) (hv6 : Rd w (.bs l6) v6) (h0 : 0 ≤ left) (h1 : left ≤ 1048576) :
    Calls Try.prog 163 #[.agg #[.int .i64 n0, .int .i64 n1, .int .i64 n2, .bool b3, .bool b4, .bool b5, v6, .int .i64 n7, .int .i64 n8], .int .i64 left] w (SzR left (tot.totL [.int n0, .int n1, .int n2, .bool b3, .bool b4, .bool b5, .bs l6, .int n7, .int n8]) w) := by
  obtain ⟨A6, c6, rfl⟩ := hv6.bs_sh
  have K1 := Blk.new w 201 #[.int .i64 n0, .int .i64 n1, .int .i64 n2, .bool b3, .bool b4, .bool b5, .slice A6 l6.length c6, .int .i64 n7, .int .i64 n8]
  have B0 := bal (Below.refl w.heap.size w) (.cells #[.int .i64 n0, .int .i64 n1, .int .i64 n2, .bool b3, .bool b4, .bool b5, .slice A6 l6.length c6, .int .i64 n7, .int .i64 n8] 201)
  obtain ⟨W, hW⟩ : ∃ W, w.alloc (.cells #[.int .i64 n0, .int .i64 n1, .int .i64 n2, .bool b3, .bool b4, .bool b5, .slice A6 l6.length c6, .int .i64 n7, .int .i64 n8] 201) = W := ⟨_, rfl⟩
  rw [hW] at K1 B0
  have HW := hidH hW
  have HB := hidH B0
  have HA := hidH K1
  have hcnt : tot.totL [.int n0, .int n1, .int n2, .bool b3, .bool b4, .bool b5, .bs l6, .int n7, .int n8] = tot (.bs l6) := by simp only [tot.totL, tot] <;> omega
  rw [hcnt]
  have HV6 := hidH (fun (u : World) (h : Below w.heap.size w u) => Rd.below h _ hv6)
  clear hW K1 B0 hcnt hv6
  go_enter Try.func163, Try.ntmps163
  go_wp2_with fail
  rw [HW.out]
  refine (sz_Data n0 n1 n2 b3 b4 b5 l6 _ left _ (HV6.out _ HB.out) (by omega) (by omega)).mono ?_
  rintro e w1 ⟨z0, rfl, hz0, hb⟩
  replace HA := hidH (HA.out.below hb)
  replace HB := hidH (btr HB.out hb)
  clear hb
  rw [show tot.totL [.int n0, .int n1, .int n2, .bool b3, .bool b4, .bool b5, .bs l6] = tot (.bs l6) by simp only [tot.totL, tot] <;> omega] at hz0
  have HZ0 := hidH hz0
  have hzl0 := hz0.2.1
  clear hz0
  by_cases hn0 : z0 < 0
  · obtain rfl : z0 = -1 := by rcases HZ0.out.1 with h | h <;> omega
    clear hn0
    go_wp2
    go_ret
    exact ⟨-1, rfl, ⟨.inl rfl, by omega, fun h => by omega⟩, HB.out⟩
  · have hp0 : 0 ≤ z0 := by omega
    clear hzl0
    go_wp2
    go_ret
    exact ⟨z0, rfl, ⟨.inr hp0, by have := HZ0.out.2.1; omega, fun _ => by have := HZ0.out.2.2 hp0; omega⟩, HB.out⟩
set_option maxRecDepth 100000 in
set_option maxHeartbeats 1000000 in
theorem to_SendItem (n0 : Int) (n1 : Int) (n2 : Int) (b3 : Bool) (b4 : Bool) (b5 : Bool) (l6 : List Int) (n7 : Int) (n8 : Int) (v6 : Value) (w : World) (hv6 : Rd w (.bs l6) v6) (hm : tot.totL [.int n0, .int n1, .int n2, .bool b3, .bool b4, .bool b5, .bs l6, .int n7, .int n8] ≤ 1048576) :
    Calls Try.prog 164 #[.agg #[.int .i64 n0, .int .i64 n1, .int .i64 n2, .bool b3, .bool b4, .bool b5, v6, .int .i64 n7, .int .i64 n8]] w (Res w [.int n0, .int n1, .int n2, .bool b3, .bool b4, .bool b5, .bs l6, .int n7, .int n8]) := by
  obtain ⟨A6, c6, rfl⟩ := hv6.bs_sh
  have KA := ((Blk.new w 201 #[.int .i64 n0, .int .i64 n1, .int .i64 n2, .bool b3, .bool b4, .bool b5, .slice A6 l6.length c6, .int .i64 n7, .int .i64 n8]).alloc (.cells #[.int .i64 0, .int .i64 0, .int .i64 0, .bool false, .bool false, .bool false, .slice none 0 0, .int .i64 0, .int .i64 0] 121)).alloc (.cells #[.int .i64 0, .int .i64 0, .int .i64 0, .bool false, .bool false, .bool false, .slice none 0 0, .int .i64 0, .int .i64 0] 121)
  have KR := (Blk.new (w.alloc (.cells #[.int .i64 n0, .int .i64 n1, .int .i64 n2, .bool b3, .bool b4, .bool b5, .slice A6 l6.length c6, .int .i64 n7, .int .i64 n8] 201)) 121 #[.int .i64 0, .int .i64 0, .int .i64 0, .bool false, .bool false, .bool false, .slice none 0 0, .int .i64 0, .int .i64 0]).alloc (.cells #[.int .i64 0, .int .i64 0, .int .i64 0, .bool false, .bool false, .bool false, .slice none 0 0, .int .i64 0, .int .i64 0] 121)
  have KV := Blk.new ((w.alloc (.cells #[.int .i64 n0, .int .i64 n1, .int .i64 n2, .bool b3, .bool b4, .bool b5, .slice A6 l6.length c6, .int .i64 n7, .int .i64 n8] 201)).alloc (.cells #[.int .i64 0, .int .i64 0, .int .i64 0, .bool false, .bool false, .bool false, .slice none 0 0, .int .i64 0, .int .i64 0] 121)) 121 #[.int .i64 0, .int .i64 0, .int .i64 0, .bool false, .bool false, .bool false, .slice none 0 0, .int .i64 0, .int .i64 0]
  have B0 := bal (bal (bal (Below.refl w.heap.size w) (.cells #[.int .i64 n0, .int .i64 n1, .int .i64 n2, .bool b3, .bool b4, .bool b5, .slice A6 l6.length c6, .int .i64 n7, .int .i64 n8] 201)) (.cells #[.int .i64 0, .int .i64 0, .int .i64 0, .bool false, .bool false, .bool false, .slice none 0 0, .int .i64 0, .int .i64 0] 121)) (.cells #[.int .i64 0, .int .i64 0, .int .i64 0, .bool false, .bool false, .bool false, .slice none 0 0, .int .i64 0, .int .i64 0] 121)
  have hsz : (((w.alloc (.cells #[.int .i64 n0, .int .i64 n1, .int .i64 n2, .bool b3, .bool b4, .bool b5, .slice A6 l6.length c6, .int .i64 n7, .int .i64 n8] 201)).alloc (.cells #[.int .i64 0, .int .i64 0, .int .i64 0, .bool false, .bool false, .bool false, .slice none 0 0, .int .i64 0, .int .i64 0] 121)).alloc (.cells #[.int .i64 0, .int .i64 0, .int .i64 0, .bool false, .bool false, .bool false, .slice none 0 0, .int .i64 0, .int .i64 0] 121)).heap.size = w.heap.size + 1 + 1 + 1 := by simp only [World.size_alloc]
  simp only [World.size_alloc] at KR KV
  obtain ⟨w0, hW⟩ : ∃ W, ((w.alloc (.cells #[.int .i64 n0, .int .i64 n1, .int .i64 n2, .bool b3, .bool b4, .bool b5, .slice A6 l6.length c6, .int .i64 n7, .int .i64 n8] 201)).alloc (.cells #[.int .i64 0, .int .i64 0, .int .i64 0, .bool false, .bool false, .bool false, .slice none 0 0, .int .i64 0, .int .i64 0] 121)).alloc (.cells #[.int .i64 0, .int .i64 0, .int .i64 0, .bool false, .bool false, .bool false, .slice none 0 0, .int .i64 0, .int .i64 0] 121) = W := ⟨_, rfl⟩
  rw [hW] at KA KR KV B0 hsz
  have HW := hidH hW
  have HB := hidH B0
  have HA := hidH KA
  have HR := hidH KR
  have HV := hidH KV
  have HZ := hidH hsz
  have hcnt : tot.totL [.int n0, .int n1, .int n2, .bool b3, .bool b4, .bool b5, .bs l6, .int n7, .int n8] = tot (.bs l6) := by simp only [tot.totL, tot] <;> omega
  rw [hcnt] at hm
  have HM := hidH hm
  have HV6 := hidH (fun (u : World) (h : Below w.heap.size w u) => Rd.below h _ hv6)
  have es : ∀ (u : World) (p : Addr) (v : Value), (u.setCell p v).heap.size = u.heap.size := fun u p v => by simp [World.setCell]
  have HES := hidH es
  clear hW hm hcnt KA KR KV B0 hsz es hv6
  go_enter Try.func164, Try.ntmps164
  go_wp2_with fail
  rw [HW.out]
  have HB1 := hidH (HB.out)
  refine (to_Data n0 n1 n2 b3 b4 b5 l6 _ _ (HV6.out _ HB1.out) (by rw [show tot.totL [.int n0, .int n1, .int n2, .bool b3, .bool b4, .bool b5, .bs l6] = tot (.bs l6) from (by simp only [tot.totL, tot] <;> omega)]; have := HM.out; omega)).mono ?_
  rintro e w1 ⟨vs, rfl, O0, hb⟩
  obtain ⟨E6, e6, rfl⟩ := shape_Data O0.rd
  have HA1 := hidH ((HA.out).below hb)
  have HR1 := hidH ((HR.out).below hb)
  have HV1 : Hid (Blk w1 (w.heap.size + 1 + 1) 121 #[.int .i64 0, .int .i64 0, .int .i64 0, .bool false, .bool false, .bool false, .slice none 0 0, .int .i64 0, .int .i64 0]) := hidH (Blk.below (HV.out) hb)
  have HZ1 : Hid (w0.heap.size ≤ w1.heap.size) := hidH (by have := hb.size; simpa only [HES.out] using this)
  have O0 := hidH (show OwN w0.heap.size w1.heap.size w1 _ _ by simpa only [HES.out] using O0)
  have HG0 := hidH (show w0.heap.size ≤ w0.heap.size by exact Nat.le_refl _)
  have HZ00 := HZ1
  replace HB := hidH (btr HB1.out hb)
  clear HA HR HV HB1 hb HZ1
  have HA := HA1
  have HR := HR1
  have HV := HV1
  clear HA1 HR1 HV1
  have p7 := HA.out.cell 7
  have p8 := HA.out.cell 8
  simp only [List.getElem?_toArray, List.getElem?_cons_succ, List.getElem?_cons_zero] at p7 p8
  have gp := HA.out.lt
  have x0 := HR.out.cell 0
  have h0 := HR.out.frozen 0
  have y0 := HV.out.cell 0
  have f0 := HV.out.frozen 0
  have x1 := HR.out.cell 1
  have h1 := HR.out.frozen 1
  have y1 := HV.out.cell 1
  have f1 := HV.out.frozen 1
  have x2 := HR.out.cell 2
  have h2 := HR.out.frozen 2
  have y2 := HV.out.cell 2
  have f2 := HV.out.frozen 2
  have x3 := HR.out.cell 3
  have h3 := HR.out.frozen 3
  have y3 := HV.out.cell 3
  have f3 := HV.out.frozen 3
  have x4 := HR.out.cell 4
  have h4 := HR.out.frozen 4
  have y4 := HV.out.cell 4
  have f4 := HV.out.frozen 4
  have x5 := HR.out.cell 5
  have h5 := HR.out.frozen 5
  have y5 := HV.out.cell 5
  have f5 := HV.out.frozen 5
  have x6 := HR.out.cell 6
  have h6 := HR.out.frozen 6
  have y6 := HV.out.cell 6
  have f6 := HV.out.frozen 6
  have x7 := HR.out.cell 7
  have h7 := HR.out.frozen 7
  have y7 := HV.out.cell 7
  have f7 := HV.out.frozen 7
  have x8 := HR.out.cell 8
  have h8 := HR.out.frozen 8
  have y8 := HV.out.cell 8
  have f8 := HV.out.frozen 8
  simp only [List.getElem?_toArray, List.getElem?_cons_succ, List.getElem?_cons_zero] at x0 y0 x1 y1 x2 y2 x3 y3 x4 y4 x5 y5 x6 y6 x7 y7 x8 y8
  have gv := HV.out.lt
  have gr := HR.out.lt
  go_wp2
  have BF := bst (bst (bst (bst (bst (bst (bst (bst (bst (bst (bst (bst (bst (bst (bst (bst (bst (bst (HB.out) (p := ⟨w.heap.size + 1 + 1, 0, none⟩) (by show w.heap.size ≤ w.heap.size + 1 + 1; omega) (.int .i64 n0)) (p := ⟨w.heap.size + 1 + 1, 1, none⟩) (by show w.heap.size ≤ w.heap.size + 1 + 1; omega) (.int .i64 n1)) (p := ⟨w.heap.size + 1 + 1, 2, none⟩) (by show w.heap.size ≤ w.heap.size + 1 + 1; omega) (.int .i64 n2)) (p := ⟨w.heap.size + 1 + 1, 3, none⟩) (by show w.heap.size ≤ w.heap.size + 1 + 1; omega) (.bool b3)) (p := ⟨w.heap.size + 1 + 1, 4, none⟩) (by show w.heap.size ≤ w.heap.size + 1 + 1; omega) (.bool b4)) (p := ⟨w.heap.size + 1 + 1, 5, none⟩) (by show w.heap.size ≤ w.heap.size + 1 + 1; omega) (.bool b5)) (p := ⟨w.heap.size + 1 + 1, 6, none⟩) (by show w.heap.size ≤ w.heap.size + 1 + 1; omega) (.slice E6 l6.length e6)) (p := ⟨w.heap.size + 1 + 1, 7, none⟩) (by show w.heap.size ≤ w.heap.size + 1 + 1; omega) (.int .i64 n7)) (p := ⟨w.heap.size + 1 + 1, 8, none⟩) (by show w.heap.size ≤ w.heap.size + 1 + 1; omega) (.int .i64 n8)) (p := ⟨w.heap.size + 1, 0, none⟩) (by show w.heap.size ≤ w.heap.size + 1; omega) (.int .i64 n0)) (p := ⟨w.heap.size + 1, 1, none⟩) (by show w.heap.size ≤ w.heap.size + 1; omega) (.int .i64 n1)) (p := ⟨w.heap.size + 1, 2, none⟩) (by show w.heap.size ≤ w.heap.size + 1; omega) (.int .i64 n2)) (p := ⟨w.heap.size + 1, 3, none⟩) (by show w.heap.size ≤ w.heap.size + 1; omega) (.bool b3)) (p := ⟨w.heap.size + 1, 4, none⟩) (by show w.heap.size ≤ w.heap.size + 1; omega) (.bool b4)) (p := ⟨w.heap.size + 1, 5, none⟩) (by show w.heap.size ≤ w.heap.size + 1; omega) (.bool b5)) (p := ⟨w.heap.size + 1, 6, none⟩) (by show w.heap.size ≤ w.heap.size + 1; omega) (.slice E6 l6.length e6)) (p := ⟨w.heap.size + 1, 7, none⟩) (by show w.heap.size ≤ w.heap.size + 1; omega) (.int .i64 n7)) (p := ⟨w.heap.size + 1, 8, none⟩) (by show w.heap.size ≤ w.heap.size + 1; omega) (.int .i64 n8)
  have P0 := ((((((((((((((((((O0.out).win (set_win _ (w.heap.size + 1 + 1) 0 (.int .i64 n0)) (.inr (by have := HZ.out; have := HG0.out; omega))).win (set_win _ (w.heap.size + 1 + 1) 1 (.int .i64 n1)) (.inr (by have := HZ.out; have := HG0.out; omega))).win (set_win _ (w.heap.size + 1 + 1) 2 (.int .i64 n2)) (.inr (by have := HZ.out; have := HG0.out; omega))).win (set_win _ (w.heap.size + 1 + 1) 3 (.bool b3)) (.inr (by have := HZ.out; have := HG0.out; omega))).win (set_win _ (w.heap.size + 1 + 1) 4 (.bool b4)) (.inr (by have := HZ.out; have := HG0.out; omega))).win (set_win _ (w.heap.size + 1 + 1) 5 (.bool b5)) (.inr (by have := HZ.out; have := HG0.out; omega))).win (set_win _ (w.heap.size + 1 + 1) 6 (.slice E6 l6.length e6)) (.inr (by have := HZ.out; have := HG0.out; omega))).win (set_win _ (w.heap.size + 1 + 1) 7 (.int .i64 n7)) (.inr (by have := HZ.out; have := HG0.out; omega))).win (set_win _ (w.heap.size + 1 + 1) 8 (.int .i64 n8)) (.inr (by have := HZ.out; have := HG0.out; omega))).win (set_win _ (w.heap.size + 1) 0 (.int .i64 n0)) (.inr (by have := HZ.out; have := HG0.out; omega))).win (set_win _ (w.heap.size + 1) 1 (.int .i64 n1)) (.inr (by have := HZ.out; have := HG0.out; omega))).win (set_win _ (w.heap.size + 1) 2 (.int .i64 n2)) (.inr (by have := HZ.out; have := HG0.out; omega))).win (set_win _ (w.heap.size + 1) 3 (.bool b3)) (.inr (by have := HZ.out; have := HG0.out; omega))).win (set_win _ (w.heap.size + 1) 4 (.bool b4)) (.inr (by have := HZ.out; have := HG0.out; omega))).win (set_win _ (w.heap.size + 1) 5 (.bool b5)) (.inr (by have := HZ.out; have := HG0.out; omega))).win (set_win _ (w.heap.size + 1) 6 (.slice E6 l6.length e6)) (.inr (by have := HZ.out; have := HG0.out; omega))).win (set_win _ (w.heap.size + 1) 7 (.int .i64 n7)) (.inr (by have := HZ.out; have := HG0.out; omega))).win (set_win _ (w.heap.size + 1) 8 (.int .i64 n8)) (.inr (by have := HZ.out; have := HG0.out; omega))
  have es := HES.out
  have PF := OwN.app P0 (OwN.int n7 (OwN.int n8 (OwN.nil (B := w1.heap.size) (C := w1.heap.size) (by simp only [es]; exact Nat.le_refl _)))) HZ00.out (Nat.le_refl _)
  exact bodyPost_ret (v := .agg #[.int .i64 n0, .int .i64 n1, .int .i64 n2, .bool b3, .bool b4, .bool b5, .slice E6 l6.length e6, .int .i64 n7, .int .i64 n8]) (by simp [results, Try.results164, go_sem, x0, x1, x2, x3, x4, x5, x6, x7, x8]) rfl ⟨[.int .i64 n0, .int .i64 n1, .int .i64 n2, .bool b3, .bool b4, .bool b5, .slice E6 l6.length e6, .int .i64 n7, .int .i64 n8], rfl, PF.mono (by have := HB.out.size; have := HZ.out; omega) (by simp only [es]; exact Nat.le_refl _) (Nat.le_refl _), BF⟩
theorem eqA_SendItem (y : SendItemM) {vs us : List Value} {w : World} (h : RdA w y.vs vs) (k : RdA w y.vs us) : Calls Try.prog 165 #[.agg vs.toArray, .agg us.toArray] w (EqR w) := by
  obtain ⟨A6, c6, rfl⟩ := shape_SendItem (h)
  obtain ⟨B6, d6, rfl⟩ := shape_SendItem (k)
  exact eq_SendItem y.Data_Tsn y.Data_Stream y.Data_Seq y.Data_First y.Data_Last y.Data_Unordered y.Data_Piece y.Sent y.Due _ _ w h.tl.tl.tl.tl.tl.tl.hd k.tl.tl.tl.tl.tl.tl.hd
theorem szA_SendItem (y : SendItemM) {vs : List Value} {left : Int} {w : World} (h : RdA w y.vs vs) (h0 : 0 ≤ left) (h1 : left ≤ 1048576) : Calls Try.prog 163 #[.agg vs.toArray, .int .i64 left] w (SzR left (tot.totL y.vs) w) := by
  obtain ⟨A6, c6, rfl⟩ := shape_SendItem (h)
  exact sz_SendItem y.Data_Tsn y.Data_Stream y.Data_Seq y.Data_First y.Data_Last y.Data_Unordered y.Data_Piece y.Sent y.Due _ left w h.tl.tl.tl.tl.tl.tl.hd h0 h1
theorem toA_SendItem (y : SendItemM) {vs : List Value} {w : World} (h : RdA w y.vs vs) (hm : tot.totL y.vs ≤ 1048576) : Calls Try.prog 164 #[.agg vs.toArray] w (Res w y.vs) := by
  obtain ⟨A6, c6, rfl⟩ := shape_SendItem (h)
  exact to_SendItem y.Data_Tsn y.Data_Stream y.Data_Seq y.Data_First y.Data_Last y.Data_Unordered y.Data_Piece y.Sent y.Due _ w h.tl.tl.tl.tl.tl.tl.hd hm
theorem cnt_SendItem (y : SendItemM) (h : tot.totL y.vs ≤ 1048576) : vcA y.vs ≤ 1000000000 := by
  simp only [SendItemM.vs, vcA, vc, tot.totL, tot, cc] at *
  omega
theorem mem_SendItem {w : World} {g o : Nat} {y : SendItemM} (h : RdL w y.vs g o) : ∃ (A6 : Option Addr) (c6 : Nat), w.cell? ⟨g, o, none⟩ = some (.int .i64 y.Data_Tsn) ∧ w.cell? ⟨g, o + 1, none⟩ = some (.int .i64 y.Data_Stream) ∧ w.cell? ⟨g, o + 2, none⟩ = some (.int .i64 y.Data_Seq) ∧ w.cell? ⟨g, o + 3, none⟩ = some (.bool y.Data_First) ∧ w.cell? ⟨g, o + 4, none⟩ = some (.bool y.Data_Last) ∧ w.cell? ⟨g, o + 5, none⟩ = some (.bool y.Data_Unordered) ∧ w.cell? ⟨g, o + 6, none⟩ = some (.slice A6 y.Data_Piece.length c6) ∧ w.cell? ⟨g, o + 7, none⟩ = some (.int .i64 y.Sent) ∧ w.cell? ⟨g, o + 8, none⟩ = some (.int .i64 y.Due) ∧ Rd w (.bs y.Data_Piece) (.slice A6 y.Data_Piece.length c6) := by
  obtain ⟨u0, p0, t0⟩ := h.get? 0 (.int y.Data_Tsn) rfl
  have e0 := t0.int_out
  subst e0
  obtain ⟨u1, p1, t1⟩ := h.get? 1 (.int y.Data_Stream) rfl
  have e1 := t1.int_out
  subst e1
  obtain ⟨u2, p2, t2⟩ := h.get? 2 (.int y.Data_Seq) rfl
  have e2 := t2.int_out
  subst e2
  obtain ⟨u3, p3, t3⟩ := h.get? 3 (.bool y.Data_First) rfl
  have e3 := t3.bool_out
  subst e3
  obtain ⟨u4, p4, t4⟩ := h.get? 4 (.bool y.Data_Last) rfl
  have e4 := t4.bool_out
  subst e4
  obtain ⟨u5, p5, t5⟩ := h.get? 5 (.bool y.Data_Unordered) rfl
  have e5 := t5.bool_out
  subst e5
  obtain ⟨u6, p6, t6⟩ := h.get? 6 (.bs y.Data_Piece) rfl
  obtain ⟨A6, c6, e6⟩ := t6.bs_sh
  subst e6
  obtain ⟨u7, p7, t7⟩ := h.get? 7 (.int y.Sent) rfl
  have e7 := t7.int_out
  subst e7
  obtain ⟨u8, p8, t8⟩ := h.get? 8 (.int y.Due) rfl
  have e8 := t8.int_out
  subst e8
  rw [Nat.add_zero] at p0
  exact ⟨A6, c6, p0, p1, p2, p3, p4, p5, p6, p7, p8, t6⟩
section
variable {H : Type} {enc : TypeId × Value → H} {w : World} {base : Nat} {spare : Nat → Bool} {held : Bool}
theorem cells_SendItem : Try.prog.cellsOf 201 = 9 := by kernel_rfl
theorem cells_SendItem_0 : Try.prog.cellsOf 199 = 7 := by kernel_rfl
theorem cells_SendItem_1 : Try.prog.cellsOf 2 = 1 := by kernel_rfl
theorem cells_SendItem_2 : Try.prog.cellsOf 2 = 1 := by kernel_rfl
set_option maxHeartbeats 1000000 in
theorem open_SendItem {n : Nat} {cs : List Value} {x : DataW H × List MemPlace} (h : DataW.trod enc Try.prog w base spare held n 201 cs = some x) : ∃ y : SendItemM, RdA w y.vs cs ∧ WfA y.vs := by
  obtain ⟨xs, m, _, _, hl, hlen, hf⟩ := DataW.trod_struct Try.underlying201 h
  rw [cells_SendItem] at hl
  have hlen2 : xs.length = 3 := hlen
  obtain ⟨v0, v1, v2, v3, v4, v5, v6, v7, v8, rfl⟩ := list_9 hl
  obtain ⟨y0, y1, y2, rfl⟩ := list_3 hlen2
  have t0 : DataW.trod enc Try.prog w base spare held m 199 (([v0, v1, v2, v3, v4, v5, v6, v7, v8].drop 0).take (Try.prog.cellsOf 199)) = _ := hf 0 _ rfl
  rw [cells_SendItem_0] at t0
  replace t0 : DataW.trod enc Try.prog w base spare held m 199 [v0, v1, v2, v3, v4, v5, v6] = some y0 := t0
  have t1 : DataW.trod enc Try.prog w base spare held m 2 (([v0, v1, v2, v3, v4, v5, v6, v7, v8].drop 7).take (Try.prog.cellsOf 2)) = _ := hf 1 _ rfl
  rw [cells_SendItem_1] at t1
  replace t1 : DataW.trod enc Try.prog w base spare held m 2 [v7] = some y1 := t1
  have t2 : DataW.trod enc Try.prog w base spare held m 2 (([v0, v1, v2, v3, v4, v5, v6, v7, v8].drop 8).take (Try.prog.cellsOf 2)) = _ := hf 2 _ rfl
  rw [cells_SendItem_2] at t2
  replace t2 : DataW.trod enc Try.prog w base spare held m 2 [v8] = some y2 := t2
  obtain ⟨n0, r0, w0⟩ := open_Data t0
  obtain ⟨n1, e1, _, w1⟩ := DataW.trod_int Try.underlying2 t1
  simp only [List.cons.injEq, and_true] at e1
  subst e1
  obtain ⟨n2, e2, _, w2⟩ := DataW.trod_int Try.underlying2 t2
  simp only [List.cons.injEq, and_true] at e2
  subst e2
  exact ⟨⟨n0.Tsn, n0.Stream, n0.Seq, n0.First, n0.Last, n0.Unordered, n0.Piece, n1, n2⟩, RdA.app r0 (RdA.int_mk (RdA.int_mk (RdA.nil_mk))), WfA.app w0 (⟨wf_int w1, ⟨wf_int w2, trivial⟩⟩)⟩
theorem opened_SendItem {cs0 : Array Value} {d : DataW H} {pl : List MemPlace} (h : DataW.Trod enc Try.prog w base spare held 201 (.agg cs0) d pl) : ∃ (y : SendItemM) (A6 : Option Addr) (c6 : Nat), cs0 = #[.int .i64 y.Data_Tsn, .int .i64 y.Data_Stream, .int .i64 y.Data_Seq, .bool y.Data_First, .bool y.Data_Last, .bool y.Data_Unordered, .slice A6 y.Data_Piece.length c6, .int .i64 y.Sent, .int .i64 y.Due] ∧ RdA w y.vs [.int .i64 y.Data_Tsn, .int .i64 y.Data_Stream, .int .i64 y.Data_Seq, .bool y.Data_First, .bool y.Data_Last, .bool y.Data_Unordered, .slice A6 y.Data_Piece.length c6, .int .i64 y.Sent, .int .i64 y.Due] ∧ WfA y.vs := by
  obtain ⟨fuel, hf⟩ := h
  obtain ⟨y, h1, h2⟩ := open_SendItem hf
  have h3 := h1
  obtain ⟨A6, c6, e⟩ := shape_SendItem h3
  rw [e] at h1
  refine ⟨y, A6, c6, ?_, h1, h2⟩
  simp only [Value.cells] at e
  exact Array.ext' (by simpa using e)
end
def st_SendItem (r : List SendItemM) : V := .st r.length (r.flatMap SendItemM.vs)
theorem st_SendItem_sh {w : World} {r : List SendItemM} {v : Value} (h : Rd w (st_SendItem r) v) : ∃ A c, v = .slice A r.length c := Rd.st_sh h
set_option maxRecDepth 100000 in
set_option maxHeartbeats 2000000 in
theorem eqS_SendItem (r : List SendItemM) (v u : Value) (w : World) (hv : Rd w (st_SendItem r) v) (hu : Rd w (st_SendItem r) u) :
    Calls Try.prog 115 #[v, u] w (EqR w) := by
  obtain ⟨A, c, rfl⟩ := st_SendItem_sh hv
  obtain ⟨B, d, rfl⟩ := st_SendItem_sh hu
  have hm : (r.length : Int) ≤ 9223372036854775807 := Rd.st_len hv
  have HV := hidH (fun (u : World) (h : Below w.heap.size w u) => Rd.below h _ hv)
  have HU := hidH (fun (u : World) (h : Below w.heap.size w u) => Rd.below h _ hu)
  clear hv hu
  go_enter Try.func115, Try.ntmps115
  go_wp2
  go_loopw [5] (fun i wr => ∃ j : Nat, j ≤ r.length ∧ i = .int .i64 j ∧ Below w.heap.size w wr) (fun i _ => r.length - (intOf i).toNat)
  case atStart => exact ⟨0, by omega, rfl, Below.refl _ _⟩
  case round =>
    obtain ⟨j, hj, rfl, hBw⟩ := hrel
    by_cases hlt : j < r.length
    · have hj0 : (0 : Int) ≤ (j : Int) := by omega
      have hj1 : (j : Int) < (r.length : Int) := by omega
      have bd := (Below.refl wr.heap.size wr).drew
      have hBW := btr hBw bd
      obtain ⟨ga, oa, ca, ea, hga, RA⟩ := Rd.row (f := SendItemM.vs) (W := 9) (fun _ => rfl) (HV.out _ hBW) hlt
      obtain ⟨gb, ob, cb, eb, hgb, RB⟩ := Rd.row (f := SendItemM.vs) (W := 9) (fun _ => rfl) (HU.out _ hBW) hlt
      injection ea with ea1 ea2 ea3
      subst ea1 ea3
      injection eb with eb1 eb2 eb3
      subst eb1 eb3
      obtain ⟨pu0, p0, pt0⟩ := RA 0 (.int r[j].Data_Tsn) rfl
      have pe0 := pt0.int_out
      subst pe0
      rw [Nat.add_zero] at p0
      obtain ⟨pu1, p1, pt1⟩ := RA 1 (.int r[j].Data_Stream) rfl
      have pe1 := pt1.int_out
      subst pe1
      obtain ⟨pu2, p2, pt2⟩ := RA 2 (.int r[j].Data_Seq) rfl
      have pe2 := pt2.int_out
      subst pe2
      obtain ⟨pu3, p3, pt3⟩ := RA 3 (.bool r[j].Data_First) rfl
      have pe3 := pt3.bool_out
      subst pe3
      obtain ⟨pu4, p4, pt4⟩ := RA 4 (.bool r[j].Data_Last) rfl
      have pe4 := pt4.bool_out
      subst pe4
      obtain ⟨pu5, p5, pt5⟩ := RA 5 (.bool r[j].Data_Unordered) rfl
      have pe5 := pt5.bool_out
      subst pe5
      obtain ⟨pu6, p6, pt6⟩ := RA 6 (.bs r[j].Data_Piece) rfl
      obtain ⟨A6, An6, pe6⟩ := pt6.bs_sh
      subst pe6
      obtain ⟨pu7, p7, pt7⟩ := RA 7 (.int r[j].Sent) rfl
      have pe7 := pt7.int_out
      subst pe7
      obtain ⟨pu8, p8, pt8⟩ := RA 8 (.int r[j].Due) rfl
      have pe8 := pt8.int_out
      subst pe8
      obtain ⟨qu0, q0, qt0⟩ := RB 0 (.int r[j].Data_Tsn) rfl
      have qe0 := qt0.int_out
      subst qe0
      rw [Nat.add_zero] at q0
      obtain ⟨qu1, q1, qt1⟩ := RB 1 (.int r[j].Data_Stream) rfl
      have qe1 := qt1.int_out
      subst qe1
      obtain ⟨qu2, q2, qt2⟩ := RB 2 (.int r[j].Data_Seq) rfl
      have qe2 := qt2.int_out
      subst qe2
      obtain ⟨qu3, q3, qt3⟩ := RB 3 (.bool r[j].Data_First) rfl
      have qe3 := qt3.bool_out
      subst qe3
      obtain ⟨qu4, q4, qt4⟩ := RB 4 (.bool r[j].Data_Last) rfl
      have qe4 := qt4.bool_out
      subst qe4
      obtain ⟨qu5, q5, qt5⟩ := RB 5 (.bool r[j].Data_Unordered) rfl
      have qe5 := qt5.bool_out
      subst qe5
      obtain ⟨qu6, q6, qt6⟩ := RB 6 (.bs r[j].Data_Piece) rfl
      obtain ⟨B6, Bn6, qe6⟩ := qt6.bs_sh
      subst qe6
      obtain ⟨qu7, q7, qt7⟩ := RB 7 (.int r[j].Sent) rfl
      have qe7 := qt7.int_out
      subst qe7
      obtain ⟨qu8, q8, qt8⟩ := RB 8 (.int r[j].Due) rfl
      have qe8 := qt8.int_out
      subst qe8
      have HE := hidH (eq_SendItem r[j].Data_Tsn r[j].Data_Stream r[j].Data_Seq r[j].Data_First r[j].Data_Last r[j].Data_Unordered r[j].Data_Piece r[j].Sent r[j].Due _ _ wr.drew pt6 qt6)
      have HBW := hidH hBW
      clear RA RB hBW hBw bd pt0 qt0 pt1 qt1 pt2 qt2 pt3 qt3 pt4 qt4 pt5 qt5 pt6 qt6 pt7 qt7 pt8 qt8
      go_wp2
      go_still_tail 8, (by kernel_rfl)
      change wpList _ _ _ _ _ wr.drew
      go_wp2_with fail
      refine HE.out.mono ?_
      rintro e w3 ⟨rfl, b3⟩
      have B3 := hidH (btr HBW.out b3)
      clear HE HBW b3 p0 q0 p1 q1 p2 q2 p3 q3 p4 q4 p5 q5 p6 q6 p7 q7 p8 q8
      go_wp2
      go_roundw
      case rel => exact ⟨j + 1, by omega, by go_num, B3.out⟩
      case measure => simp [intOf]; omega
    · have HBW := hidH hBw
      have hd : ¬ ((j : Int) < (r.length : Int)) := by omega
      clear hBw hlt hj
      go_wp2
      go_ret
      exact ⟨rfl, HBW.out⟩
set_option maxRecDepth 100000 in
set_option maxHeartbeats 2000000 in
theorem markS_SendItem (r : List SendItemM) (S : Fp) (v : Value) (k : Nat) (w : World) (h : Ow w (st_SendItem r) S v) (hk : k + cc (st_SendItem r) ≤ 1000000000000) :
    Calls Try.prog 125 #[v, .int .i64 k] w (MkR (st_SendItem r) S v k w) := by
  unfold st_SendItem at h hk ⊢
  unfold Ow at h
  obtain ⟨A, c, rfl, hc, h⟩ := h
  have hm := hc.len
  unfold MkR
  rcases h with ⟨h0, _⟩ | ⟨g, o, rfl, hg, h⟩
  · obtain rfl := List.eq_nil_of_length_eq_zero h0
    have HC := hidH hc
    clear h0 hc
    go_enter Try.func125, Try.ntmps125
    go_wp2
    go_loopw [1, 5] (fun v i wr => v = .int .i64 k ∧ i = .int .i64 0 ∧ wr = w) (fun _ _ _ => 0)
    case atStart => exact ⟨rfl, rfl, rfl⟩
    case round =>
      obtain ⟨rfl, rfl, rfl⟩ := hrel
      go_wp2
      go_ret
      refine ⟨ret_int (by simp [cc, cc.ccL]), Chg.refl _ _, ?_⟩
      simp only [mkc]
      unfold Ow
      exact ⟨A, c, rfl, HC.out, .inl ⟨rfl, rfl⟩⟩
  · have M0 := hidH (MkSt.start (k := k) h hg)
    have HC := hidH hc
    have HKL := hidH (kRow_le k SendItemM.vs r)
    have HK := hidH hk
    clear hc h
    go_enter Try.func125, Try.ntmps125
    go_wp2
    go_loopw [1, 5] (fun v i wr => ∃ j : Nat, j ≤ r.length ∧ v = .int .i64 ((kRow k SendItemM.vs r j : Nat) : Int) ∧ i = .int .i64 j ∧ MkSt w S g o k ((r.take j).flatMap SendItemM.vs) ((r.drop j).flatMap SendItemM.vs) wr) (fun _ i _ => r.length - (intOf i).toNat)
    case atStart => exact ⟨0, Nat.zero_le _, by rw [kRow_zero], rfl, M0.out⟩
    case round =>
      obtain ⟨j, hj, rfl, rfl, hM⟩ := hrel
      by_cases hlt : j < r.length
      · have hj0 : (0 : Int) ≤ (j : Int) := by omega
        have hj1 : (j : Int) < (r.length : Int) := by omega
        have hkl := HKL.out (j + 1)
        have hks := kRow_succ k SendItemM.vs r j hlt
        have hk2 := HK.out
        have hrow : cc.ccL (SendItemM.vs r[j]) = 1 + 1 + 1 + 1 + 1 + 1 + cc (.bs r[j].Data_Piece) + 1 + 1 := by simp only [SendItemM.vs, cc.ccL, cc] <;> omega
        have hp : ((r.take j).flatMap SendItemM.vs).length = j * 9 := take_len (f := SendItemM.vs) (fun _ => rfl) r j (by omega)
        have he := flat_take SendItemM.vs r j hlt
        rw [flat_drop SendItemM.vs r j hlt] at hM
        replace hM : MkSt w S g o k ((r.take j).flatMap SendItemM.vs) ((.int r[j].Data_Tsn) :: (.int r[j].Data_Stream) :: (.int r[j].Data_Seq) :: (.bool r[j].Data_First) :: (.bool r[j].Data_Last) :: (.bool r[j].Data_Unordered) :: (.bs r[j].Data_Piece) :: (.int r[j].Sent) :: (.int r[j].Due) :: (r.drop (j + 1)).flatMap SendItemM.vs) wr := hM
        obtain ⟨y, hy⟩ : ∃ y, kRow k SendItemM.vs r j = y := ⟨_, rfl⟩
        rw [hy] at hks ⊢
        unfold kRow at hy
        have hyb : (y : Int) + 1 + 1 + 1 + 1 + 1 + 1 + (cc (.bs r[j].Data_Piece) : Int) + 1 + 1 + 0 ≤ 1000000000000 := by omega
        obtain ⟨pre, hpre⟩ : ∃ pre, (r.take j).flatMap SendItemM.vs = pre := ⟨_, rfl⟩
        obtain ⟨post, hpost⟩ : ∃ post, (r.drop (j + 1)).flatMap SendItemM.vs = post := ⟨_, rfl⟩
        rw [hpre] at hM hy hp he
        rw [hpost] at hM
        have HPO := hidH hpost
        have HKS := hidH hks
        have HE := hidH he
        have HY := hidH hy
        have HP := hidH hp
        have HRO := hidH hrow
        have HYB := hidH hyb
        clear hpost hks he hy hp hpre hrow hkl hk2 hyb
        have hyI : (y : Int) ≤ 1000000000000 := by have := HYB.out; omega
        obtain ⟨⟨x0, p0⟩, f0, hM⟩ := hM.num (o + j * 9) (by rw [HP.out]) ((y : Int)) (by rw [HY.out])
        obtain ⟨⟨x1, p1⟩, f1, hM⟩ := hM.num (o + j * 9 + 1) (by simp only [List.length_append, List.length_cons, List.length_nil, HP.out]; omega) ((y : Int) + 1) (by rw [← HY.out]; simp only [ccL_append, cc.ccL, cc]; omega)
        obtain ⟨⟨x2, p2⟩, f2, hM⟩ := hM.num (o + j * 9 + 2) (by simp only [List.length_append, List.length_cons, List.length_nil, HP.out]; omega) ((y : Int) + 1 + 1) (by rw [← HY.out]; simp only [ccL_append, cc.ccL, cc]; omega)
        obtain ⟨⟨x3, p3⟩, f3, hM⟩ := hM.boo (o + j * 9 + 3) (by simp only [List.length_append, List.length_cons, List.length_nil, HP.out]; omega) ((y : Int) + 1 + 1 + 1) (by rw [← HY.out]; simp only [ccL_append, cc.ccL, cc]; omega)
        obtain ⟨⟨x4, p4⟩, f4, hM⟩ := hM.boo (o + j * 9 + 4) (by simp only [List.length_append, List.length_cons, List.length_nil, HP.out]; omega) ((y : Int) + 1 + 1 + 1 + 1) (by rw [← HY.out]; simp only [ccL_append, cc.ccL, cc]; omega)
        obtain ⟨⟨x5, p5⟩, f5, hM⟩ := hM.boo (o + j * 9 + 5) (by simp only [List.length_append, List.length_cons, List.length_nil, HP.out]; omega) ((y : Int) + 1 + 1 + 1 + 1 + 1) (by rw [← HY.out]; simp only [ccL_append, cc.ccL, cc]; omega)
        obtain ⟨u6, S6, p6, ho6, hN⟩ := hM.at_ (o + j * 9 + 6) (by simp only [List.length_append, List.length_cons, List.length_nil, HP.out]; omega) (y + 6) (by rw [← HY.out]; simp only [ccL_append, cc.ccL, cc]; omega)
        have HO := hidH ho6
        have HN := hidH hN
        clear ho6 hN hM
        go_wp2_with fail
        rw [show ((y : Int) + 1 + 1 + 1 + 1 + 1 + 1) = ((y + 6 : Nat) : Int) by omega]
        refine (markB_ow r[j].Data_Piece S6 u6 (y + 6) _ HO.out (by have := HYB.out; omega)).mono ?_
        rintro e v6 ⟨rfl, hc6, ho6⟩
        have hM := HN.out _ hc6 ho6
        clear HO HN hc6 ho6 p6 p0 f0 p1 f1 p2 f2 p3 f3 p4 f4 p5 f5
        obtain ⟨y6, hy6⟩ : ∃ z : Nat, y + 6 + cc (.bs r[j].Data_Piece) = z := ⟨_, rfl⟩
        rw [hy6]
        have HYC6 := hidH hy6
        clear hy6
        have hb6 : (y6 : Int) ≤ 1000000000000 := by have := HYB.out; have := HYC6.out; omega
        obtain ⟨⟨x7, p7⟩, f7, hM⟩ := hM.num (o + j * 9 + 7) (by simp only [List.length_append, List.length_cons, List.length_nil, HP.out]; omega) (((y6 : Nat) : Int)) (by have q6 := HYC6.out; rw [← HY.out] at q6; (try rw [← HY.out]); simp only [ccL_append, cc.ccL, cc] at q6 ⊢; omega)
        obtain ⟨⟨x8, p8⟩, f8, hM⟩ := hM.num (o + j * 9 + 8) (by simp only [List.length_append, List.length_cons, List.length_nil, HP.out]; omega) (((y6 : Nat) : Int) + 1) (by have q6 := HYC6.out; rw [← HY.out] at q6; (try rw [← HY.out]); simp only [ccL_append, cc.ccL, cc] at q6 ⊢; omega)
        rw [show ((((((((pre ++ [.int r[j].Data_Tsn]) ++ [.int r[j].Data_Stream]) ++ [.int r[j].Data_Seq]) ++ [.bool r[j].Data_First]) ++ [.bool r[j].Data_Last]) ++ [.bool r[j].Data_Unordered]) ++ [.bs r[j].Data_Piece]) ++ [.int r[j].Sent]) ++ [.int r[j].Due] = (r.take (j + 1)).flatMap SendItemM.vs from (by rw [HE.out]; simp [SendItemM.vs])] at hM
        rw [← HPO.out] at hM
        have HM := hidH hM
        clear hM
        go_wp2
        go_roundw
        case rel => exact ⟨j + 1, by omega, by rw [HKS.out, HRO.out]; exact congrArg (Value.int .i64) (by have := HYC6.out; omega), by go_num, HM.out⟩
        case measure => simp [intOf]; omega
      · obtain rfl : j = r.length := by omega
        rw [List.take_length, List.drop_length] at hM
        have HM := hidH (MkSt.done hM HC.out)
        have hka := kRow_all k SendItemM.vs r
        clear hM hlt hj
        go_wp2
        go_ret
        exact ⟨ret_int (by rw [hka]), HM.out.1, HM.out.2⟩
set_option maxRecDepth 100000 in
set_option maxHeartbeats 2000000 in
theorem heldS_SendItem (r : List SendItemM) (v : Value) (k : Nat) (w : World) (h : Rd w (mkc k (st_SendItem r)) v) (hk : k + cc (st_SendItem r) ≤ 1000000000000) :
    Calls Try.prog 168 #[v, .int .i64 k] w (HeR (st_SendItem r) k w) := by
  unfold st_SendItem at h hk ⊢
  have h2 := h
  simp only [mkc] at h2
  have hm : (r.length : Int) ≤ 9223372036854775807 := Rd.st_len h2
  obtain ⟨A, c, rfl⟩ := h2.st_sh
  clear h2
  have HV := hidH (fun (u : World) (h3 : Below w.heap.size w u) => Rd.below h3 _ h)
  have HKL := hidH (kRow_le k SendItemM.vs r)
  have HK := hidH hk
  unfold HeR
  clear h
  go_enter Try.func168, Try.ntmps168
  go_wp2
  go_loopw [1, 5] (fun v i wr => ∃ j : Nat, j ≤ r.length ∧ v = .int .i64 ((kRow k SendItemM.vs r j : Nat) : Int) ∧ i = .int .i64 j ∧ Below w.heap.size w wr) (fun _ i _ => r.length - (intOf i).toNat)
  case atStart => exact ⟨0, Nat.zero_le _, by rw [kRow_zero], rfl, Below.refl _ _⟩
  case round =>
    obtain ⟨j, hj, rfl, rfl, hB⟩ := hrel
    by_cases hlt : j < r.length
    · have hj0 : (0 : Int) ≤ (j : Int) := by omega
      have hj1 : (j : Int) < (r.length : Int) := by omega
      have hkl := HKL.out (j + 1)
      have hks := kRow_succ k SendItemM.vs r j hlt
      have hk2 := HK.out
      have hrow : cc.ccL (SendItemM.vs r[j]) = 1 + 1 + 1 + 1 + 1 + 1 + cc (.bs r[j].Data_Piece) + 1 + 1 := by simp only [SendItemM.vs, cc.ccL, cc] <;> omega
      obtain ⟨g, o, ca, ea, hg, RA⟩ := Rd.rowmk (f := SendItemM.vs) (W := 9) (fun _ => rfl) (HV.out _ hB) hlt
      injection ea with ea1 ea2 ea3
      subst ea1 ea3
      obtain ⟨y, hy⟩ : ∃ y, kRow k SendItemM.vs r j = y := ⟨_, rfl⟩
      rw [hy] at hks ⊢
      unfold kRow at hy
      rw [hy] at RA
      obtain ⟨pu0, p0, pt0⟩ := RA 0 (.int ((y : Nat) : Int)) rfl
      have pe0 := pt0.int_out
      subst pe0
      clear pt0
      rw [Nat.add_zero] at p0
      obtain ⟨pu1, p1, pt1⟩ := RA 1 (.int ((y + 1 : Nat) : Int)) rfl
      have pe1 := pt1.int_out
      subst pe1
      clear pt1
      rw [show ((y + 1 : Nat) : Int) = (y : Int) + 1 by omega] at p1
      obtain ⟨pu2, p2, pt2⟩ := RA 2 (.int ((y + 2 : Nat) : Int)) rfl
      have pe2 := pt2.int_out
      subst pe2
      clear pt2
      rw [show ((y + 2 : Nat) : Int) = (y : Int) + 1 + 1 by omega] at p2
      obtain ⟨pu3, p3, pt3⟩ := RA 3 (.bool (decide (((y + 3 : Nat) : Int) % 3 = 0))) rfl
      have pe3 := pt3.bool_out
      subst pe3
      clear pt3
      rw [show ((y + 3 : Nat) : Int) = (y : Int) + 1 + 1 + 1 by omega] at p3
      rw [dec3] at p3
      have fb3 := bne3 ((y : Int) + 1 + 1 + 1)
      obtain ⟨pu4, p4, pt4⟩ := RA 4 (.bool (decide (((y + 4 : Nat) : Int) % 3 = 0))) rfl
      have pe4 := pt4.bool_out
      subst pe4
      clear pt4
      rw [show ((y + 4 : Nat) : Int) = (y : Int) + 1 + 1 + 1 + 1 by omega] at p4
      rw [dec3] at p4
      have fb4 := bne3 ((y : Int) + 1 + 1 + 1 + 1)
      obtain ⟨pu5, p5, pt5⟩ := RA 5 (.bool (decide (((y + 5 : Nat) : Int) % 3 = 0))) rfl
      have pe5 := pt5.bool_out
      subst pe5
      clear pt5
      rw [show ((y + 5 : Nat) : Int) = (y : Int) + 1 + 1 + 1 + 1 + 1 by omega] at p5
      rw [dec3] at p5
      have fb5 := bne3 ((y : Int) + 1 + 1 + 1 + 1 + 1)
      obtain ⟨pu6, p6, pt6⟩ := RA 6 (mkc (y + 6) (.bs r[j].Data_Piece)) rfl
      have HV6 := hidH (fun (u : World) (h3 : Below wr.heap.size wr u) => Rd.below h3 _ pt6)
      clear pt6
      obtain ⟨y6, hy6⟩ : ∃ z : Nat, y + 6 + cc (.bs r[j].Data_Piece) = z := ⟨_, rfl⟩
      have HYC6 := hidH hy6
      clear hy6
      obtain ⟨pu7, p7, pt7⟩ := RA 7 (.int ((y6 : Nat) : Int)) (by rw [← HYC6.out]; rfl)
      have pe7 := pt7.int_out
      subst pe7
      clear pt7
      obtain ⟨pu8, p8, pt8⟩ := RA 8 (.int ((y6 + 1 : Nat) : Int)) (by rw [← HYC6.out]; rfl)
      have pe8 := pt8.int_out
      subst pe8
      clear pt8
      rw [show ((y6 + 1 : Nat) : Int) = ((y6 : Nat) : Int) + 1 by omega] at p8
      have hyb : (y : Int) + 1 + 1 + 1 + 1 + 1 + 1 + (cc (.bs r[j].Data_Piece) : Int) + 1 + 1 + 0 ≤ 1000000000000 := by omega
      have HYB := hidH hyb
      have hyI : (y : Int) ≤ 1000000000000 := by omega
      have HKS := hidH hks
      have HRO := hidH hrow
      have HBW := hidH hB
      clear RA hB hks hrow hkl hk2 hy hyb
      go_wp2_with fail
      rw [show ((y : Int) + 1 + 1 + 1 + 1 + 1 + 1) = ((y + 6 : Nat) : Int) by omega]
      refine (heldB_rd r[j].Data_Piece _ (y + 6) _ (HV6.out _ (Below.refl _ _)) (by have := HYB.out; omega)).mono ?_
      rintro e v6 ⟨rfl, hb⟩
      have HB := hidH hb
      replace HBW := hidH (btr HBW.out hb)
      replace p7 := (hb.cell (p := ⟨g, _, none⟩) hg).trans p7
      replace p8 := (hb.cell (p := ⟨g, _, none⟩) hg).trans p8
      replace hg := Nat.lt_of_lt_of_le hg hb.size
      clear hb
      rw [HYC6.out]
      clear p0 p1 p2 p3 p4 p5 fb3 fb4 fb5
      have hpos6 : decide ((y6 : Int) < 0) = false := by rw [decide_eq_false_iff_not]; omega
      have hbd6 : (y6 : Int) ≤ 1000000000000 := by have := HYB.out; have := HYC6.out; omega
      go_wp2
      go_roundw
      case rel => exact ⟨j + 1, by omega, by rw [HKS.out, HRO.out]; exact congrArg (Value.int .i64) (by have := HYC6.out; omega), by go_num, HBW.out⟩
      case measure => simp [intOf]; omega
    · obtain rfl : j = r.length := by omega
      have HBW := hidH hB
      have hka := kRow_all k SendItemM.vs r
      clear hB hlt hj
      go_wp2
      go_ret
      exact ⟨ret_int (by rw [hka]), HBW.out⟩
set_option maxRecDepth 100000 in
set_option maxHeartbeats 2000000 in
theorem szS_SendItem (r : List SendItemM) (v : Value) (left : Int) (w : World) (hv : Rd w (st_SendItem r) v) (h0 : 0 ≤ left) (h1 : left ≤ 1048576) :
    Calls Try.prog 111 #[v, .int .i64 left] w (SzR left (tot (st_SendItem r)) w) := by
  have hn : (r.length : Int) ≤ 9223372036854775807 := Rd.st_len hv
  obtain ⟨A, c, rfl⟩ := st_SendItem_sh hv
  have HV := hidH (fun (u : World) (h3 : Below w.heap.size w u) => Rd.below h3 _ hv)
  have HT := hidH (tRow_all SendItemM.vs r)
  rw [show tot (st_SendItem r) = r.length + tRow SendItemM.vs r r.length from (tRow_all _ _).symm]
  clear hv
  by_cases hl : left - (r.length : Int) < 0
  · go_enter Try.func111, Try.ntmps111
    go_wp2
    go_ret
    exact ⟨-1, rfl, ⟨.inl rfl, by omega, fun h => by omega⟩, Below.refl _ _⟩
  · have hl0 : 0 ≤ left - (r.length : Int) := by omega
    clear hl
    go_enter Try.func111, Try.ntmps111
    go_wp2
    go_loopw [1, 5] (fun t i wr => ∃ (j : Nat) (z : Int), j ≤ r.length ∧ i = .int .i64 j ∧ t = .int .i64 z ∧ 0 ≤ z ∧ z + (tRow SendItemM.vs r j : Int) + (r.length : Int) ≤ left ∧ Below w.heap.size w wr) (fun _ i _ => r.length - (intOf i).toNat)
    case atStart => exact ⟨0, left - (r.length : Int), by omega, rfl, rfl, hl0, by rw [tRow_zero]; omega, Below.refl _ _⟩
    case round =>
      obtain ⟨j, z, hj, rfl, rfl, hz0, hz1, hB⟩ := hrel
      by_cases hlt : j < r.length
      · have hj0 : (0 : Int) ≤ (j : Int) := by omega
        have hj1 : (j : Int) < (r.length : Int) := by omega
        have hz2 : z ≤ 1048576 := by omega
        obtain ⟨g, o, ca, ea, hg, RA⟩ := Rd.row (f := SendItemM.vs) (W := 9) (fun _ => rfl) (HV.out _ hB) hlt
        injection ea with ea1 ea2 ea3
        subst ea1 ea3
        obtain ⟨pu0, p0, pt0⟩ := RA 0 (.int r[j].Data_Tsn) rfl
        have pe0 := pt0.int_out
        subst pe0
        rw [Nat.add_zero] at p0
        obtain ⟨pu1, p1, pt1⟩ := RA 1 (.int r[j].Data_Stream) rfl
        have pe1 := pt1.int_out
        subst pe1
        obtain ⟨pu2, p2, pt2⟩ := RA 2 (.int r[j].Data_Seq) rfl
        have pe2 := pt2.int_out
        subst pe2
        obtain ⟨pu3, p3, pt3⟩ := RA 3 (.bool r[j].Data_First) rfl
        have pe3 := pt3.bool_out
        subst pe3
        obtain ⟨pu4, p4, pt4⟩ := RA 4 (.bool r[j].Data_Last) rfl
        have pe4 := pt4.bool_out
        subst pe4
        obtain ⟨pu5, p5, pt5⟩ := RA 5 (.bool r[j].Data_Unordered) rfl
        have pe5 := pt5.bool_out
        subst pe5
        obtain ⟨pu6, p6, pt6⟩ := RA 6 (.bs r[j].Data_Piece) rfl
        obtain ⟨A6, An6, pe6⟩ := pt6.bs_sh
        subst pe6
        obtain ⟨pu7, p7, pt7⟩ := RA 7 (.int r[j].Sent) rfl
        have pe7 := pt7.int_out
        subst pe7
        obtain ⟨pu8, p8, pt8⟩ := RA 8 (.int r[j].Due) rfl
        have pe8 := pt8.int_out
        subst pe8
        have HS := hidH (sz_SendItem r[j].Data_Tsn r[j].Data_Stream r[j].Data_Seq r[j].Data_First r[j].Data_Last r[j].Data_Unordered r[j].Data_Piece r[j].Sent r[j].Due _ z wr pt6 hz0 hz2)
        have hts := tRow_succ SendItemM.vs r j hlt
        have HTS := hidH hts
        have HBW := hidH hB
        have HZ1 := hidH hz1
        clear RA hB hz1 hts pt0 pt1 pt2 pt3 pt4 pt5 pt6 pt7 pt8
        go_wp2_with fail
        refine HS.out.mono ?_
        rintro e w3 ⟨z3, rfl, hz3, b3⟩
        have B3 := hidH (btr HBW.out b3)
        have HZ3 := hidH hz3
        clear HS b3 HBW hz3 p0 p1 p2 p3 p4 p5 p6 p7 p8
        by_cases hneg : z3 < 0
        · obtain rfl : z3 = -1 := by rcases HZ3.out.1 with h | h <;> omega
          clear hneg
          go_wp2
          go_ret
          exact ⟨-1, rfl, ⟨.inl rfl, by omega, fun h => by omega⟩, B3.out⟩
        · have hpos : 0 ≤ z3 := by omega
          clear hneg
          go_wp2
          go_roundw
          case rel => exact ⟨j + 1, z3, by omega, by go_num, rfl, hpos, by have := HTS.out; have := HZ1.out; have := HZ3.out.2.2 hpos; simp only [SendItemM.vs] at *; omega, B3.out⟩
          case measure => simp [intOf]; omega
      · obtain rfl : j = r.length := by omega
        have HBW := hidH hB
        have HZ1 := hidH hz1
        clear hB hlt hj hz1
        go_wp2
        go_ret
        exact ⟨z, rfl, ⟨.inr hz0, by have := HZ1.out; omega, fun _ => by have := HZ1.out; omega⟩, HBW.out⟩
theorem info_SendItem : (Try.prog.info? 121).map (fun i => (i.zero, i.size, i.bytes)) = some (some (.agg #[.int .i64 0, .int .i64 0, .int .i64 0, .bool false, .bool false, .bool false, .slice none 0 0, .int .i64 0, .int .i64 0]), 9, 72) := by kernel_rfl
set_option maxRecDepth 100000 in
set_option maxHeartbeats 2000000 in
theorem toS_SendItem (r : List SendItemM) (v : Value) (w : World) (hv : Rd w (st_SendItem r) v) (hm : tot (st_SendItem r) ≤ 1048576) :
    Calls Try.prog 113 #[v] w (ResV w (st_SendItem r)) := by
  obtain ⟨A, c, rfl⟩ := st_SendItem_sh hv
  have HT := hidH hm
  have hnn : r.length ≤ 1048576 := by rw [st_SendItem, ← tRow_all] at hm; omega
  have hnI : (r.length : Int) ≤ 1048576 := by omega
  obtain ⟨i0, hi, hz0, hz1, hz2⟩ := info_parts info_SendItem
  have HI := hidH (And.intro hi (And.intro hz0 (And.intro hz1 hz2)))
  have HV := hidH (fun (u : World) (h3 : Below w.heap.size w u) => Rd.below h3 _ hv)
  clear hi hz0 hz1 hz2 hv hm
  go_enter Try.func113, Try.ntmps113
  go_wp2_with (refine wpList_make_full _ rfl _ _ _ rfl w.heap.size 121 i0 _ 9 Try.underlying45 HI.out.1 HI.out.2.1 HI.out.2.2.1 .i64 .i64 _ _ r.length rfl rfl rfl rfl (by rw [HI.out.2.2.2]; omega) (by unfold maxLen; omega) (Nat.le_refl _) ?_)
  intro w1 o1 g1
  have F0 := hidH (fillL0 o1 ((Below.refl w.heap.size w).grown g1 (Nat.le_refl _) (fun k hk => by cases hk)) (Nat.le_refl _))
  clear o1 g1
  go_wp2
  go_loopw [4] (fun i wr => ∃ j : Nat, j ≤ r.length ∧ i = .int .i64 j ∧ FillL w w.heap.size (r.length * 9) ((r.take j).flatMap SendItemM.vs) wr) (fun i _ => r.length - (intOf i).toNat)
  case atStart => exact ⟨0, by omega, rfl, F0.out⟩
  case round =>
    obtain ⟨j, hj, rfl, hF⟩ := hrel
    by_cases hlt : j < r.length
    · have hj0 : (0 : Int) ≤ (j : Int) := by omega
      have hj1 : (j : Int) < (r.length : Int) := by omega
      obtain ⟨g, o, ca, ea, hg, RA⟩ := Rd.row (f := SendItemM.vs) (W := 9) (fun _ => rfl) (HV.out _ hF.old) hlt
      injection ea with ea1 ea2 ea3
      subst ea1 ea3
      obtain ⟨pu0, p0, pt0⟩ := RA 0 (.int r[j].Data_Tsn) rfl
      have pe0 := pt0.int_out
      subst pe0
      rw [Nat.add_zero] at p0
      obtain ⟨pu1, p1, pt1⟩ := RA 1 (.int r[j].Data_Stream) rfl
      have pe1 := pt1.int_out
      subst pe1
      obtain ⟨pu2, p2, pt2⟩ := RA 2 (.int r[j].Data_Seq) rfl
      have pe2 := pt2.int_out
      subst pe2
      obtain ⟨pu3, p3, pt3⟩ := RA 3 (.bool r[j].Data_First) rfl
      have pe3 := pt3.bool_out
      subst pe3
      obtain ⟨pu4, p4, pt4⟩ := RA 4 (.bool r[j].Data_Last) rfl
      have pe4 := pt4.bool_out
      subst pe4
      obtain ⟨pu5, p5, pt5⟩ := RA 5 (.bool r[j].Data_Unordered) rfl
      have pe5 := pt5.bool_out
      subst pe5
      obtain ⟨pu6, p6, pt6⟩ := RA 6 (.bs r[j].Data_Piece) rfl
      obtain ⟨A6, An6, pe6⟩ := pt6.bs_sh
      subst pe6
      obtain ⟨pu7, p7, pt7⟩ := RA 7 (.int r[j].Sent) rfl
      have pe7 := pt7.int_out
      subst pe7
      obtain ⟨pu8, p8, pt8⟩ := RA 8 (.int r[j].Due) rfl
      have pe8 := pt8.int_out
      subst pe8
      have HS := hidH (to_SendItem r[j].Data_Tsn r[j].Data_Stream r[j].Data_Seq r[j].Data_First r[j].Data_Last r[j].Data_Unordered r[j].Data_Piece r[j].Sent r[j].Due _ wr pt6 (Nat.le_trans (row_tot SendItemM.vs r j hlt) HT.out))
      have hp : ((r.take j).flatMap SendItemM.vs).length = j * 9 := take_len (f := SendItemM.vs) (fun _ => rfl) r j (by omega)
      have HP := hidH hp
      have HE := hidH (flat_take SendItemM.vs r j hlt)
      have HF := hidH hF
      clear RA hF hp pt0 pt1 pt2 pt3 pt4 pt5 pt6 pt7 pt8
      go_wp2_with fail
      refine HS.out.mono ?_
      rintro e w3 ⟨vs, rfl, O3, b3⟩
      obtain ⟨E6, e6, rfl⟩ := shape_SendItem O3.rd
      have hgl := HF.out.lt
      obtain ⟨m0, n0⟩ := HF.out.room (j * 9) (by omega)
      replace n0 := (b3.cell (p := ⟨w.heap.size, _, none⟩) hgl).trans n0
      have f0 := (b3.frozen (p := ⟨w.heap.size, j * 9, none⟩) hgl).trans (HF.out.fz _)
      obtain ⟨m1, n1⟩ := HF.out.room (j * 9 + 1) (by omega)
      replace n1 := (b3.cell (p := ⟨w.heap.size, _, none⟩) hgl).trans n1
      have f1 := (b3.frozen (p := ⟨w.heap.size, j * 9 + 1, none⟩) hgl).trans (HF.out.fz _)
      obtain ⟨m2, n2⟩ := HF.out.room (j * 9 + 2) (by omega)
      replace n2 := (b3.cell (p := ⟨w.heap.size, _, none⟩) hgl).trans n2
      have f2 := (b3.frozen (p := ⟨w.heap.size, j * 9 + 2, none⟩) hgl).trans (HF.out.fz _)
      obtain ⟨m3, n3⟩ := HF.out.room (j * 9 + 3) (by omega)
      replace n3 := (b3.cell (p := ⟨w.heap.size, _, none⟩) hgl).trans n3
      have f3 := (b3.frozen (p := ⟨w.heap.size, j * 9 + 3, none⟩) hgl).trans (HF.out.fz _)
      obtain ⟨m4, n4⟩ := HF.out.room (j * 9 + 4) (by omega)
      replace n4 := (b3.cell (p := ⟨w.heap.size, _, none⟩) hgl).trans n4
      have f4 := (b3.frozen (p := ⟨w.heap.size, j * 9 + 4, none⟩) hgl).trans (HF.out.fz _)
      obtain ⟨m5, n5⟩ := HF.out.room (j * 9 + 5) (by omega)
      replace n5 := (b3.cell (p := ⟨w.heap.size, _, none⟩) hgl).trans n5
      have f5 := (b3.frozen (p := ⟨w.heap.size, j * 9 + 5, none⟩) hgl).trans (HF.out.fz _)
      obtain ⟨m6, n6⟩ := HF.out.room (j * 9 + 6) (by omega)
      replace n6 := (b3.cell (p := ⟨w.heap.size, _, none⟩) hgl).trans n6
      have f6 := (b3.frozen (p := ⟨w.heap.size, j * 9 + 6, none⟩) hgl).trans (HF.out.fz _)
      obtain ⟨m7, n7⟩ := HF.out.room (j * 9 + 7) (by omega)
      replace n7 := (b3.cell (p := ⟨w.heap.size, _, none⟩) hgl).trans n7
      have f7 := (b3.frozen (p := ⟨w.heap.size, j * 9 + 7, none⟩) hgl).trans (HF.out.fz _)
      obtain ⟨m8, n8⟩ := HF.out.room (j * 9 + 8) (by omega)
      replace n8 := (b3.cell (p := ⟨w.heap.size, _, none⟩) hgl).trans n8
      have f8 := (b3.frozen (p := ⟨w.heap.size, j * 9 + 8, none⟩) hgl).trans (HF.out.fz _)
      have ST := hidH (HF.out.step b3 O3 (by rw [HP.out]; simp only [List.length_cons, List.length_nil]; omega) rfl (j * 9) HP.out.symm)
      clear HS O3 b3 HF hgl p0 p1 p2 p3 p4 p5 p6 p7 p8
      go_wp2
      go_roundw
      case rel => exact ⟨j + 1, by omega, by go_num, by rw [HE.out]; exact ST.out⟩
      case measure => simp [intOf]; omega
    · obtain rfl : j = r.length := by omega
      rw [List.take_length] at hF
      have HD := hidH (FillL.done (n := r.length) hF (Caps.same (by omega)))
      have HO := hidH hF.old
      clear hF hlt hj
      go_wp2
      go_ret
      exact ⟨_, rfl, HD.out, HO.out⟩
theorem ccS_SendItem (r : List SendItemM) : cc.ccL (r.flatMap SendItemM.vs) ≤ 10 * (r.length + tot.totL (r.flatMap SendItemM.vs)) := by
  induction r with
  | nil => simp [cc.ccL]
  | cons x xs ih =>
    rw [List.flatMap_cons, ccL_append, totL_append, List.length_cons]
    have : cc.ccL (SendItemM.vs x) ≤ 10 * (1 + tot.totL (SendItemM.vs x)) := by
      simp only [SendItemM.vs, cc.ccL, cc, tot.totL, tot]
      omega
    omega
section
variable {H : Type} {enc : TypeId × Value → H} {w : World} {base : Nat} {spare : Nat → Bool} {held : Bool}
theorem openS_SendItem {n : Nat} {v : Value} {x : DataW H × List MemPlace} (h : DataW.trod enc Try.prog w base spare held n 71 [v] = some x) : ∃ r : List SendItemM, Rd w (st_SendItem r) v ∧ WfV (st_SendItem r) :=
  open_st (f := SendItemM.vs) (W := 9) (fun _ => rfl) (by decide) Try.underlying71 (by kernel_rfl) (fun _ _ _ h => open_SendItem h) h
end
structure SendM where
  Next : Int
  Acked : Int
  Seqs : List Int
  Items : List SendItemM
def SendM.vs (x : SendM) : List V := [.int x.Next, .int x.Acked, .is x.Seqs, st_SendItem x.Items]
theorem shape_Send {w : World} {n0 : Int} {n1 : Int} {l2 : List Int} {r3 : List SendItemM} {vs : List Value} (h : RdA w [.int n0, .int n1, .is l2, st_SendItem r3] vs) : ∃ (A2 : Option Addr) (c2 : Nat) (A3 : Option Addr) (c3 : Nat), vs = [.int .i64 n0, .int .i64 n1, .slice A2 l2.length c2, .slice A3 r3.length c3] := by
  obtain ⟨q0, e0, t0⟩ := h.int_out
  subst e0
  obtain ⟨q1, e1, t1⟩ := t0.int_out
  subst e1
  obtain ⟨v2, q2, e2, h2, t2⟩ := t1.any_out
  obtain ⟨A2, c2, a2⟩ := h2.is_sh
  subst e2 a2
  obtain ⟨v3, q3, e3, h3, t3⟩ := t2.any_out
  obtain ⟨A3, c3, a3⟩ := st_SendItem_sh h3
  subst e3 a3
  have z := t3.nil_out
  subst z
  exact ⟨A2, c2, A3, c3, rfl⟩
set_option maxRecDepth 100000 in
set_option maxHeartbeats 1000000 in
theorem eq_Send (n0 : Int) (n1 : Int) (l2 : List Int) (r3 : List SendItemM) (v2 u2 v3 u3 : Value) (w : World) (hv2 : Rd w (.is l2) v2) (hv3 : Rd w (st_SendItem r3) v3) (hu2 : Rd w (.is l2) u2) (hu3 : Rd w (st_SendItem r3) u3) :
    Calls Try.prog 38 #[.agg #[.int .i64 n0, .int .i64 n1, v2, v3], .agg #[.int .i64 n0, .int .i64 n1, u2, u3]] w (EqR w) := by
  obtain ⟨A2, c2, rfl⟩ := hv2.is_sh
  obtain ⟨A3, c3, rfl⟩ := st_SendItem_sh hv3
  obtain ⟨B2, d2, rfl⟩ := hu2.is_sh
  obtain ⟨B3, d3, rfl⟩ := st_SendItem_sh hu3
  have K1 := (Blk.new w 47 #[.int .i64 n0, .int .i64 n1, .slice A2 l2.length c2, .slice A3 r3.length c3]).alloc (.cells #[.int .i64 n0, .int .i64 n1, .slice B2 l2.length d2, .slice B3 r3.length d3] 47)
  have K2 := Blk.new (w.alloc (.cells #[.int .i64 n0, .int .i64 n1, .slice A2 l2.length c2, .slice A3 r3.length c3] 47)) 47 #[.int .i64 n0, .int .i64 n1, .slice B2 l2.length d2, .slice B3 r3.length d3]
  have B0 := bal (bal (Below.refl w.heap.size w) (.cells #[.int .i64 n0, .int .i64 n1, .slice A2 l2.length c2, .slice A3 r3.length c3] 47)) (.cells #[.int .i64 n0, .int .i64 n1, .slice B2 l2.length d2, .slice B3 r3.length d3] 47)
  rw [World.size_alloc] at K2
  obtain ⟨W, hW⟩ : ∃ W, (w.alloc (.cells #[.int .i64 n0, .int .i64 n1, .slice A2 l2.length c2, .slice A3 r3.length c3] 47)).alloc (.cells #[.int .i64 n0, .int .i64 n1, .slice B2 l2.length d2, .slice B3 r3.length d3] 47) = W := ⟨_, rfl⟩
  rw [hW] at K1 K2 B0
  have HW := hidH hW
  have HB := hidH B0
  have HA := hidH K1
  have HC := hidH K2
  have HV2 := hidH (fun (u : World) (h : Below w.heap.size w u) => Rd.below h _ hv2)
  have HU2 := hidH (fun (u : World) (h : Below w.heap.size w u) => Rd.below h _ hu2)
  have HV3 := hidH (fun (u : World) (h : Below w.heap.size w u) => Rd.below h _ hv3)
  have HU3 := hidH (fun (u : World) (h : Below w.heap.size w u) => Rd.below h _ hu3)
  clear hW K1 K2 B0 hv2 hu2 hv3 hu3
  go_enter Try.func38, Try.ntmps38
  go_wp2_with fail
  rw [HW.out]
  refine (eqI_rd l2 _ _ _ (HV2.out _ HB.out) (HU2.out _ HB.out)).mono ?_
  rintro e w1 ⟨rfl, hb⟩
  replace HA := hidH (HA.out.below hb)
  replace HC := hidH (HC.out.below hb)
  replace HB := hidH (btr HB.out hb)
  clear hb
  have p3 := HA.out.cell 3
  have q3 := HC.out.cell 3
  simp only [List.getElem?_toArray, List.getElem?_cons_succ, List.getElem?_cons_zero] at p3 q3
  have gp := HA.out.lt
  have gq := HC.out.lt
  go_wp2_with fail
  clear p3 q3 gp gq
  refine (eqS_SendItem r3 _ _ _ (HV3.out _ HB.out) (HU3.out _ HB.out)).mono ?_
  rintro e w2 ⟨rfl, hb⟩
  replace HA := hidH (HA.out.below hb)
  replace HC := hidH (HC.out.below hb)
  replace HB := hidH (btr HB.out hb)
  clear hb
  go_wp2
  go_ret
  exact ⟨rfl, HB.out⟩
set_option maxRecDepth 100000 in
set_option maxHeartbeats 1000000 in
theorem mark_Send (n0 : Int) (n1 : Int) (l2 : List Int) (r3 : List SendItemM) (v2 v3 : Value) (S : Fp) (k : Nat) (w : World) (hS : Sub S (Wn 0 w.heap.size)) (h : OwA w [.int n0, .int n1, .is l2, st_SendItem r3] S [.int .i64 n0, .int .i64 n1, v2, v3]) (hk : k + vcA [.int n0, .int n1, .is l2, st_SendItem r3] ≤ 1000000000000) :
    Calls Try.prog 47 #[.agg #[.int .i64 n0, .int .i64 n1, v2, v3], .int .i64 k] w (MkA [.int n0, .int n1, .is l2, st_SendItem r3] S [.int .i64 n0, .int .i64 n1, v2, v3] k w) := by
  have hr := h.rd
  have hv2 := hr.tl.tl.hd
  have hv3 := hr.tl.tl.tl.hd
  obtain ⟨A2, c2, rfl⟩ := hv2.is_sh
  obtain ⟨A3, c3, rfl⟩ := st_SendItem_sh hv3
  clear hr hv2 hv3
  have K1 := Blk.new w 47 #[.int .i64 n0, .int .i64 n1, .slice A2 l2.length c2, .slice A3 r3.length c3]
  have B0 := bal (Below.refl w.heap.size w) (.cells #[.int .i64 n0, .int .i64 n1, .slice A2 l2.length c2, .slice A3 r3.length c3] 47)
  obtain ⟨W, hW⟩ : ∃ W, w.alloc (.cells #[.int .i64 n0, .int .i64 n1, .slice A2 l2.length c2, .slice A3 r3.length c3] 47) = W := ⟨_, rfl⟩
  rw [hW] at K1 B0
  have HW := hidH hW
  have HB := hidH B0
  have HA := hidH K1
  replace h := OwA.kept (Kept.of_below B0) h
  have hcnt : vcA [.int n0, .int n1, .is l2, st_SendItem r3] = cc (.is l2) + cc (st_SendItem r3) := by simp only [vcA, vc, st_SendItem] <;> omega
  unfold MkA
  rw [hcnt] at hk ⊢
  obtain ⟨T0, s0, h, G0⟩ := OwA.step_int h
  have s0 := Sub.trans s0 hS
  have G0 := hidH G0
  obtain ⟨T1, s1, h, G1⟩ := OwA.step_int h
  have s1 := Sub.trans s1 s0
  have G1 := hidH G1
  obtain ⟨T2, s2, hO, G2⟩ := OwA.step (y := mkc (k) (.is l2)) h
  have s2 := Sub.trans s2 s1
  have HO := hidH hO
  have G2 := hidH G2
  clear hO h
  clear hW B0 K1
  go_enter Try.func47, Try.ntmps47
  go_wp2_with fail
  rw [HW.out]
  refine (markI_ow l2 T2 _ (k) _ HO.out (by omega)).mono ?_
  rintro e w1 ⟨rfl, hc, ho⟩
  replace HA := hidH (HA.out.chg hc s2)
  have HC0 := hidH hc
  obtain ⟨T3, s3, h, G3⟩ := G2.out _ hc ho
  have s3 := Sub.trans s3 s1
  have G3 := hidH G3
  clear HO hc ho
  obtain ⟨T4, s4, hO, G4⟩ := OwA.step (y := mkc (k + cc (.is l2)) (st_SendItem r3)) h
  have s4 := Sub.trans s4 s3
  have HO := hidH hO
  have G4 := hidH G4
  clear hO h
  have p3 := HA.out.cell 3
  simp only [List.getElem?_toArray, List.getElem?_cons_succ, List.getElem?_cons_zero] at p3
  have gp := HA.out.lt
  go_wp2_with fail
  clear p3 gp
  refine (markS_SendItem r3 T4 _ (k + cc (.is l2)) _ HO.out (by omega)).mono ?_
  rintro e w2 ⟨rfl, hc, ho⟩
  replace HA := hidH (HA.out.chg hc s4)
  have HC1 := hidH hc
  obtain ⟨T5, s5, h, G5⟩ := G4.out _ hc ho
  have s5 := Sub.trans s5 s3
  have G5 := hidH G5
  clear HO hc ho
  obtain ⟨hc, h⟩ := OwA.nil_step h
  obtain ⟨hc, h⟩ := G5.out _ _ hc h
  obtain ⟨hc, h⟩ := G3.out _ _ hc h
  obtain ⟨hc, h⟩ := G1.out _ _ hc h
  obtain ⟨hc, h⟩ := G0.out _ _ hc h
  have HCC := hidH ((Chg.of_below HB.out).trans hc)
  have HO := hidH h
  clear hc h
  go_wp2
  go_ret
  refine ⟨ret_int (by omega), HCC.out, HO.out⟩
set_option maxRecDepth 100000 in
set_option maxHeartbeats 1000000 in
theorem held_Send (n0 : Int) (n1 : Int) (l2 : List Int) (r3 : List SendItemM) (v2 v3 : Value) (k : Nat) (w : World) (hv2 : Rd w (mkc (k) (.is l2)) v2) (hv3 : Rd w (mkc (k + cc (.is l2)) (st_SendItem r3)) v3) (hk : k + vcA [.int n0, .int n1, .is l2, st_SendItem r3] ≤ 1000000000000) :
    Calls Try.prog 119 #[.agg #[.int .i64 n0, .int .i64 n1, v2, v3], .int .i64 k] w (HeA [.int n0, .int n1, .is l2, st_SendItem r3] k w) := by
  obtain ⟨A2, n2, c2, rfl⟩ := mkc_is_sh hv2
  obtain ⟨A3, n3, c3, rfl⟩ := mkc_st_sh (x := st_SendItem r3) rfl hv3
  have K1 := Blk.new w 47 #[.int .i64 n0, .int .i64 n1, .slice A2 n2 c2, .slice A3 n3 c3]
  have B0 := bal (Below.refl w.heap.size w) (.cells #[.int .i64 n0, .int .i64 n1, .slice A2 n2 c2, .slice A3 n3 c3] 47)
  obtain ⟨W, hW⟩ : ∃ W, w.alloc (.cells #[.int .i64 n0, .int .i64 n1, .slice A2 n2 c2, .slice A3 n3 c3] 47) = W := ⟨_, rfl⟩
  rw [hW] at K1 B0
  have HW := hidH hW
  have HB := hidH B0
  have HA := hidH K1
  have hcnt : vcA [.int n0, .int n1, .is l2, st_SendItem r3] = cc (.is l2) + cc (st_SendItem r3) := by simp only [vcA, vc, st_SendItem] <;> omega
  unfold HeA
  rw [hcnt] at hk ⊢
  have HV2 := hidH (fun (u : World) (h : Below w.heap.size w u) => Rd.below h _ hv2)
  have HV3 := hidH (fun (u : World) (h : Below w.heap.size w u) => Rd.below h _ hv3)
  clear hW K1 B0 hv2 hv3
  go_enter Try.func119, Try.ntmps119
  go_wp2_with fail
  rw [HW.out]
  refine (heldI_rd l2 _ (k) _ (HV2.out _ HB.out) (by omega)).mono ?_
  rintro e w1 ⟨rfl, hb⟩
  replace HA := hidH (HA.out.below hb)
  replace HB := hidH (btr HB.out hb)
  have hpos : ¬ (((k + cc (.is l2) : Nat) : Int) < 0) := by omega
  clear hb
  have p3 := HA.out.cell 3
  simp only [List.getElem?_toArray, List.getElem?_cons_succ, List.getElem?_cons_zero] at p3
  have gp := HA.out.lt
  go_wp2_with fail
  clear p3 gp
  refine (heldS_SendItem r3 _ (k + cc (.is l2)) _ (HV3.out _ HB.out) (by omega)).mono ?_
  rintro e w2 ⟨rfl, hb⟩
  replace HA := hidH (HA.out.below hb)
  replace HB := hidH (btr HB.out hb)
  have hpos : ¬ (((k + cc (.is l2) + cc (st_SendItem r3) : Nat) : Int) < 0) := by omega
  clear hb
  go_wp2
  go_ret
  refine ⟨ret_int (by omega), HB.out⟩
set_option maxRecDepth 100000 in
set_option maxHeartbeats 1000000 in
theorem sz_Send (n0 : Int) (n1 : Int) (l2 : List Int) (r3 : List SendItemM) (v2 v3 : Value) (left : Int) (w : World) (hv2 : Rd w (.is l2) v2) (hv3 : Rd w (st_SendItem r3) v3) (h0 : 0 ≤ left) (h1 : left ≤ 1048576) :
    Calls Try.prog 36 #[.agg #[.int .i64 n0, .int .i64 n1, v2, v3], .int .i64 left] w (SzR left (tot.totL [.int n0, .int n1, .is l2, st_SendItem r3]) w) := by
  obtain ⟨A2, c2, rfl⟩ := hv2.is_sh
  obtain ⟨A3, c3, rfl⟩ := st_SendItem_sh hv3
  have K1 := Blk.new w 73 #[.int .i64 n0, .int .i64 n1, .slice A2 l2.length c2, .slice A3 r3.length c3]
  have B0 := bal (Below.refl w.heap.size w) (.cells #[.int .i64 n0, .int .i64 n1, .slice A2 l2.length c2, .slice A3 r3.length c3] 73)
  obtain ⟨W, hW⟩ : ∃ W, w.alloc (.cells #[.int .i64 n0, .int .i64 n1, .slice A2 l2.length c2, .slice A3 r3.length c3] 73) = W := ⟨_, rfl⟩
  rw [hW] at K1 B0
  have HW := hidH hW
  have HB := hidH B0
  have HA := hidH K1
  have hcnt : tot.totL [.int n0, .int n1, .is l2, st_SendItem r3] = tot (.is l2) + tot (st_SendItem r3) := by simp only [tot.totL, tot, st_SendItem] <;> omega
  rw [hcnt]
  have HV2 := hidH (fun (u : World) (h : Below w.heap.size w u) => Rd.below h _ hv2)
  have HV3 := hidH (fun (u : World) (h : Below w.heap.size w u) => Rd.below h _ hv3)
  clear hW K1 B0 hcnt hv2 hv3
  go_enter Try.func36, Try.ntmps36
  go_wp2_with fail
  rw [HW.out]
  refine (szI_rd l2 _ left _ (HV2.out _ HB.out) (by omega) (by omega)).mono ?_
  rintro e w1 ⟨z0, rfl, hz0, hb⟩
  replace HA := hidH (HA.out.below hb)
  replace HB := hidH (btr HB.out hb)
  clear hb
  have HZ0 := hidH hz0
  have hzl0 := hz0.2.1
  clear hz0
  by_cases hn0 : z0 < 0
  · obtain rfl : z0 = -1 := by rcases HZ0.out.1 with h | h <;> omega
    clear hn0
    go_wp2
    go_ret
    exact ⟨-1, rfl, ⟨.inl rfl, by omega, fun h => by omega⟩, HB.out⟩
  · have hp0 : 0 ≤ z0 := by omega
    have p3 := HA.out.cell 3
    simp only [List.getElem?_toArray, List.getElem?_cons_succ, List.getElem?_cons_zero] at p3
    have gp := HA.out.lt
    go_wp2_with fail
    clear p3 gp
    refine (szS_SendItem r3 _ z0 _ (HV3.out _ HB.out) (by omega) (by omega)).mono ?_
    rintro e w2 ⟨z1, rfl, hz1, hb⟩
    replace HA := hidH (HA.out.below hb)
    replace HB := hidH (btr HB.out hb)
    clear hb
    have HZ1 := hidH hz1
    have hzl1 := hz1.2.1
    clear hz1
    by_cases hn1 : z1 < 0
    · obtain rfl : z1 = -1 := by rcases HZ1.out.1 with h | h <;> omega
      clear hn1
      go_wp2
      go_ret
      exact ⟨-1, rfl, ⟨.inl rfl, by omega, fun h => by omega⟩, HB.out⟩
    · have hp1 : 0 ≤ z1 := by omega
      clear hzl0 hzl1
      go_wp2
      go_ret
      exact ⟨z1, rfl, ⟨.inr hp1, by have := HZ0.out.2.1; have := HZ1.out.2.1; omega, fun _ => by have := HZ0.out.2.2 hp0; have := HZ1.out.2.2 hp1; omega⟩, HB.out⟩
set_option maxRecDepth 100000 in
set_option maxHeartbeats 1000000 in
theorem to_Send (n0 : Int) (n1 : Int) (l2 : List Int) (r3 : List SendItemM) (v2 v3 : Value) (w : World) (hv2 : Rd w (.is l2) v2) (hv3 : Rd w (st_SendItem r3) v3) (hm : tot.totL [.int n0, .int n1, .is l2, st_SendItem r3] ≤ 1048576) :
    Calls Try.prog 37 #[.agg #[.int .i64 n0, .int .i64 n1, v2, v3]] w (Res w [.int n0, .int n1, .is l2, st_SendItem r3]) := by
  obtain ⟨A2, c2, rfl⟩ := hv2.is_sh
  obtain ⟨A3, c3, rfl⟩ := st_SendItem_sh hv3
  have KA := ((Blk.new w 73 #[.int .i64 n0, .int .i64 n1, .slice A2 l2.length c2, .slice A3 r3.length c3]).alloc (.cells #[.int .i64 0, .int .i64 0, .slice none 0 0, .slice none 0 0] 47)).alloc (.cells #[.int .i64 n0, .int .i64 n1, .slice none 0 0, .slice none 0 0] 47)
  have KR := (Blk.new (w.alloc (.cells #[.int .i64 n0, .int .i64 n1, .slice A2 l2.length c2, .slice A3 r3.length c3] 73)) 47 #[.int .i64 0, .int .i64 0, .slice none 0 0, .slice none 0 0]).alloc (.cells #[.int .i64 n0, .int .i64 n1, .slice none 0 0, .slice none 0 0] 47)
  have KV := Blk.new ((w.alloc (.cells #[.int .i64 n0, .int .i64 n1, .slice A2 l2.length c2, .slice A3 r3.length c3] 73)).alloc (.cells #[.int .i64 0, .int .i64 0, .slice none 0 0, .slice none 0 0] 47)) 47 #[.int .i64 n0, .int .i64 n1, .slice none 0 0, .slice none 0 0]
  have B0 := bal (bal (bal (Below.refl w.heap.size w) (.cells #[.int .i64 n0, .int .i64 n1, .slice A2 l2.length c2, .slice A3 r3.length c3] 73)) (.cells #[.int .i64 0, .int .i64 0, .slice none 0 0, .slice none 0 0] 47)) (.cells #[.int .i64 n0, .int .i64 n1, .slice none 0 0, .slice none 0 0] 47)
  have hsz : (((w.alloc (.cells #[.int .i64 n0, .int .i64 n1, .slice A2 l2.length c2, .slice A3 r3.length c3] 73)).alloc (.cells #[.int .i64 0, .int .i64 0, .slice none 0 0, .slice none 0 0] 47)).alloc (.cells #[.int .i64 n0, .int .i64 n1, .slice none 0 0, .slice none 0 0] 47)).heap.size = w.heap.size + 1 + 1 + 1 := by simp only [World.size_alloc]
  simp only [World.size_alloc] at KR KV
  obtain ⟨w0, hW⟩ : ∃ W, ((w.alloc (.cells #[.int .i64 n0, .int .i64 n1, .slice A2 l2.length c2, .slice A3 r3.length c3] 73)).alloc (.cells #[.int .i64 0, .int .i64 0, .slice none 0 0, .slice none 0 0] 47)).alloc (.cells #[.int .i64 n0, .int .i64 n1, .slice none 0 0, .slice none 0 0] 47) = W := ⟨_, rfl⟩
  rw [hW] at KA KR KV B0 hsz
  have HW := hidH hW
  have HB := hidH B0
  have HA := hidH KA
  have HR := hidH KR
  have HV := hidH KV
  have HZ := hidH hsz
  have hcnt : tot.totL [.int n0, .int n1, .is l2, st_SendItem r3] = tot (.is l2) + tot (st_SendItem r3) := by simp only [tot.totL, tot, st_SendItem] <;> omega
  rw [hcnt] at hm
  have HM := hidH hm
  have HV2 := hidH (fun (u : World) (h : Below w.heap.size w u) => Rd.below h _ hv2)
  have HV3 := hidH (fun (u : World) (h : Below w.heap.size w u) => Rd.below h _ hv3)
  have es : ∀ (u : World) (p : Addr) (v : Value), (u.setCell p v).heap.size = u.heap.size := fun u p v => by simp [World.setCell]
  have HES := hidH es
  clear hW hm hcnt KA KR KV B0 hsz es hv2 hv3
  go_enter Try.func37, Try.ntmps37
  go_wp2_with fail
  rw [HW.out]
  have HB1 := hidH (HB.out)
  refine (toI_rd l2 _ _ (HV2.out _ HB1.out) (by have := HM.out; omega)).mono ?_
  rintro e w1 ⟨u2, rfl, O0, hb⟩
  obtain ⟨E2, e2, rfl⟩ := O0.rd.is_sh
  have HA1 := hidH ((HA.out).below hb)
  have HR1 := hidH ((HR.out).below hb)
  have HV1 : Hid (Blk w1 (w.heap.size + 1 + 1) 47 #[.int .i64 n0, .int .i64 n1, .slice none 0 0, .slice none 0 0]) := hidH (Blk.below (HV.out) hb)
  have HZ1 : Hid (w0.heap.size ≤ w1.heap.size) := hidH (by have := hb.size; simpa only [HES.out] using this)
  have O0 := hidH (show OwV w0.heap.size w1.heap.size w1 _ _ by simpa only [HES.out] using O0)
  have HG0 := hidH (show w0.heap.size ≤ w0.heap.size by exact Nat.le_refl _)
  have HZ00 := HZ1
  replace HB := hidH (btr HB1.out hb)
  clear HA HR HV HB1 hb HZ1
  have HA := HA1
  have HR := HR1
  have HV := HV1
  clear HA1 HR1 HV1
  have p3 := HA.out.cell 3
  simp only [List.getElem?_toArray, List.getElem?_cons_succ, List.getElem?_cons_zero] at p3
  have gp := HA.out.lt
  have y2 := HV.out.cell 2
  have f2 := HV.out.frozen 2
  simp only [List.getElem?_toArray, List.getElem?_cons_succ, List.getElem?_cons_zero] at y2
  have gv := HV.out.lt
  go_wp2_with fail
  clear p3 gp y2 f2 gv
  have HB1 := hidH (bst (HB.out) (p := ⟨w.heap.size + 1 + 1, 2, none⟩) (Nat.le_trans (Nat.le_succ _) (Nat.le_succ _)) (.slice E2 l2.length e2))
  refine (toS_SendItem r3 _ _ (HV3.out _ HB1.out) (by have := HM.out; omega)).mono ?_
  rintro e w2 ⟨u3, rfl, O1, hb⟩
  obtain ⟨E3, e3, rfl⟩ := st_SendItem_sh O1.rd
  have HA1 := hidH ((Blk.far (HA.out) (p := ⟨w.heap.size + 1 + 1, 2, none⟩) (by show w.heap.size + 1 + 1 ≠ _; omega) (.slice E2 l2.length e2)).below hb)
  have HR1 := hidH ((Blk.far (HR.out) (p := ⟨w.heap.size + 1 + 1, 2, none⟩) (by show w.heap.size + 1 + 1 ≠ _; omega) (.slice E2 l2.length e2)).below hb)
  have HV1 : Hid (Blk w2 (w.heap.size + 1 + 1) 47 #[.int .i64 n0, .int .i64 n1, .slice E2 l2.length e2, .slice none 0 0]) := hidH (Blk.below (Blk.put (HV.out) 2 (.slice E2 l2.length e2)) hb)
  have HZ1 : Hid (w1.heap.size ≤ w2.heap.size) := hidH (by have := hb.size; simpa only [HES.out] using this)
  replace O0 := hidH (((O0.out).win (set_win _ (w.heap.size + 1 + 1) 2 (.slice E2 l2.length e2)) (.inr (by have := HZ.out; have := HG0.out; omega))).below hb)
  have O1 := hidH (show OwV w1.heap.size w2.heap.size w2 _ _ by simpa only [HES.out] using O1)
  have HG1 := hidH (Nat.le_trans HG0.out HZ00.out)
  have HZ01 := HZ1
  replace HB := hidH (btr HB1.out hb)
  clear HA HR HV HB1 hb HZ1
  have HA := HA1
  have HR := HR1
  have HV := HV1
  clear HA1 HR1 HV1
  have x0 := HR.out.cell 0
  have h0 := HR.out.frozen 0
  have y0 := HV.out.cell 0
  have f0 := HV.out.frozen 0
  have x1 := HR.out.cell 1
  have h1 := HR.out.frozen 1
  have y1 := HV.out.cell 1
  have f1 := HV.out.frozen 1
  have x2 := HR.out.cell 2
  have h2 := HR.out.frozen 2
  have y2 := HV.out.cell 2
  have f2 := HV.out.frozen 2
  have x3 := HR.out.cell 3
  have h3 := HR.out.frozen 3
  have y3 := HV.out.cell 3
  have f3 := HV.out.frozen 3
  simp only [List.getElem?_toArray, List.getElem?_cons_succ, List.getElem?_cons_zero] at x0 y0 x1 y1 x2 y2 x3 y3
  have gv := HV.out.lt
  have gr := HR.out.lt
  go_wp2
  have BF := bst (bst (bst (bst (bst (HB.out) (p := ⟨w.heap.size + 1 + 1, 3, none⟩) (by show w.heap.size ≤ w.heap.size + 1 + 1; omega) (.slice E3 r3.length e3)) (p := ⟨w.heap.size + 1, 0, none⟩) (by show w.heap.size ≤ w.heap.size + 1; omega) (.int .i64 n0)) (p := ⟨w.heap.size + 1, 1, none⟩) (by show w.heap.size ≤ w.heap.size + 1; omega) (.int .i64 n1)) (p := ⟨w.heap.size + 1, 2, none⟩) (by show w.heap.size ≤ w.heap.size + 1; omega) (.slice E2 l2.length e2)) (p := ⟨w.heap.size + 1, 3, none⟩) (by show w.heap.size ≤ w.heap.size + 1; omega) (.slice E3 r3.length e3)
  have P0 := (((((O0.out).win (set_win _ (w.heap.size + 1 + 1) 3 (.slice E3 r3.length e3)) (.inr (by have := HZ.out; have := HG0.out; omega))).win (set_win _ (w.heap.size + 1) 0 (.int .i64 n0)) (.inr (by have := HZ.out; have := HG0.out; omega))).win (set_win _ (w.heap.size + 1) 1 (.int .i64 n1)) (.inr (by have := HZ.out; have := HG0.out; omega))).win (set_win _ (w.heap.size + 1) 2 (.slice E2 l2.length e2)) (.inr (by have := HZ.out; have := HG0.out; omega))).win (set_win _ (w.heap.size + 1) 3 (.slice E3 r3.length e3)) (.inr (by have := HZ.out; have := HG0.out; omega))
  have P1 := (((((O1.out).win (set_win _ (w.heap.size + 1 + 1) 3 (.slice E3 r3.length e3)) (.inr (by have := HZ.out; have := HG1.out; omega))).win (set_win _ (w.heap.size + 1) 0 (.int .i64 n0)) (.inr (by have := HZ.out; have := HG1.out; omega))).win (set_win _ (w.heap.size + 1) 1 (.int .i64 n1)) (.inr (by have := HZ.out; have := HG1.out; omega))).win (set_win _ (w.heap.size + 1) 2 (.slice E2 l2.length e2)) (.inr (by have := HZ.out; have := HG1.out; omega))).win (set_win _ (w.heap.size + 1) 3 (.slice E3 r3.length e3)) (.inr (by have := HZ.out; have := HG1.out; omega))
  have es := HES.out
  have PF := OwN.int n0 (OwN.int n1 (OwN.cons P0 (OwN.cons P1 (OwN.nil (B := w2.heap.size) (C := w2.heap.size) (by simp only [es]; exact Nat.le_refl _)) HZ01.out (Nat.le_refl _)) HZ00.out (HZ01.out)))
  exact bodyPost_ret (v := .agg #[.int .i64 n0, .int .i64 n1, .slice E2 l2.length e2, .slice E3 r3.length e3]) (by simp [results, Try.results37, go_sem, x0, x1, x2, x3]) rfl ⟨[.int .i64 n0, .int .i64 n1, .slice E2 l2.length e2, .slice E3 r3.length e3], rfl, PF.mono (by have := HB.out.size; have := HZ.out; omega) (by simp only [es]; exact Nat.le_refl _) (Nat.le_refl _), BF⟩
theorem eqA_Send (y : SendM) {vs us : List Value} {w : World} (h : RdA w y.vs vs) (k : RdA w y.vs us) : Calls Try.prog 38 #[.agg vs.toArray, .agg us.toArray] w (EqR w) := by
  obtain ⟨A2, c2, A3, c3, rfl⟩ := shape_Send (h)
  obtain ⟨B2, d2, B3, d3, rfl⟩ := shape_Send (k)
  exact eq_Send y.Next y.Acked y.Seqs y.Items _ _ _ _ w h.tl.tl.hd h.tl.tl.tl.hd k.tl.tl.hd k.tl.tl.tl.hd
theorem markA_Send (y : SendM) {vs : List Value} {S : Fp} {k : Nat} {w : World} (hS : Sub S (Wn 0 w.heap.size)) (h : OwA w y.vs S vs) (hk : k + vcA y.vs ≤ 1000000000000) : Calls Try.prog 47 #[.agg vs.toArray, .int .i64 k] w (MkA y.vs S vs k w) := by
  obtain ⟨A2, c2, A3, c3, rfl⟩ := shape_Send (h.rd)
  exact mark_Send y.Next y.Acked y.Seqs y.Items _ _ S k w hS h hk
theorem heldA_Send (y : SendM) {vs : List Value} {k : Nat} {w : World} (h : RdA w (mkA k y.vs) vs) (hk : k + vcA y.vs ≤ 1000000000000) : Calls Try.prog 119 #[.agg vs.toArray, .int .i64 k] w (HeA y.vs k w) := by
  obtain ⟨q0, e0, t0⟩ := RdA.int_out (n := y.Next) h
  subst e0
  obtain ⟨q1, e1, t1⟩ := RdA.int_out (n := y.Acked) t0
  subst e1
  obtain ⟨v2, q2, e2, h2, t2⟩ := RdA.any_out (x := mkc (k) (.is y.Seqs)) t1
  subst e2
  obtain ⟨v3, q3, e3, h3, t3⟩ := RdA.any_out (x := mkc (k + cc (.is y.Seqs)) (st_SendItem y.Items)) t2
  subst e3
  have z := t3.nil_out
  subst z
  exact held_Send y.Next y.Acked y.Seqs y.Items _ _ k w h2 h3 hk
theorem szA_Send (y : SendM) {vs : List Value} {left : Int} {w : World} (h : RdA w y.vs vs) (h0 : 0 ≤ left) (h1 : left ≤ 1048576) : Calls Try.prog 36 #[.agg vs.toArray, .int .i64 left] w (SzR left (tot.totL y.vs) w) := by
  obtain ⟨A2, c2, A3, c3, rfl⟩ := shape_Send (h)
  exact sz_Send y.Next y.Acked y.Seqs y.Items _ _ left w h.tl.tl.hd h.tl.tl.tl.hd h0 h1
theorem toA_Send (y : SendM) {vs : List Value} {w : World} (h : RdA w y.vs vs) (hm : tot.totL y.vs ≤ 1048576) : Calls Try.prog 37 #[.agg vs.toArray] w (Res w y.vs) := by
  obtain ⟨A2, c2, A3, c3, rfl⟩ := shape_Send (h)
  exact to_Send y.Next y.Acked y.Seqs y.Items _ _ w h.tl.tl.hd h.tl.tl.tl.hd hm
theorem cnt_Send (y : SendM) (h : tot.totL y.vs ≤ 1048576) : vcA y.vs ≤ 1000000000 := by
  have cSendItem := ccS_SendItem
  simp only [SendM.vs, vcA, vc, tot.totL, tot, cc, st_SendItem] at *
  have d3 := cSendItem y.Items
  omega
theorem mem_Send {w : World} {g o : Nat} {y : SendM} (h : RdL w y.vs g o) : ∃ (A2 : Option Addr) (c2 : Nat) (A3 : Option Addr) (c3 : Nat), w.cell? ⟨g, o, none⟩ = some (.int .i64 y.Next) ∧ w.cell? ⟨g, o + 1, none⟩ = some (.int .i64 y.Acked) ∧ w.cell? ⟨g, o + 2, none⟩ = some (.slice A2 y.Seqs.length c2) ∧ w.cell? ⟨g, o + 3, none⟩ = some (.slice A3 y.Items.length c3) ∧ Rd w (.is y.Seqs) (.slice A2 y.Seqs.length c2) ∧ Rd w (st_SendItem y.Items) (.slice A3 y.Items.length c3) := by
  obtain ⟨u0, p0, t0⟩ := h.get? 0 (.int y.Next) rfl
  have e0 := t0.int_out
  subst e0
  obtain ⟨u1, p1, t1⟩ := h.get? 1 (.int y.Acked) rfl
  have e1 := t1.int_out
  subst e1
  obtain ⟨u2, p2, t2⟩ := h.get? 2 (.is y.Seqs) rfl
  obtain ⟨A2, c2, e2⟩ := t2.is_sh
  subst e2
  obtain ⟨u3, p3, t3⟩ := h.get? 3 (st_SendItem y.Items) rfl
  obtain ⟨A3, c3, e3⟩ := st_SendItem_sh t3
  subst e3
  rw [Nat.add_zero] at p0
  exact ⟨A2, c2, A3, c3, p0, p1, p2, p3, t2, t3⟩
section
variable {H : Type} {enc : TypeId × Value → H} {w : World} {base : Nat} {spare : Nat → Bool} {held : Bool}
theorem cells_Send : Try.prog.cellsOf 73 = 4 := by kernel_rfl
theorem cells_Send_0 : Try.prog.cellsOf 2 = 1 := by kernel_rfl
theorem cells_Send_1 : Try.prog.cellsOf 2 = 1 := by kernel_rfl
theorem cells_Send_2 : Try.prog.cellsOf 24 = 1 := by kernel_rfl
theorem cells_Send_3 : Try.prog.cellsOf 71 = 1 := by kernel_rfl
set_option maxHeartbeats 1000000 in
theorem open_Send {n : Nat} {cs : List Value} {x : DataW H × List MemPlace} (h : DataW.trod enc Try.prog w base spare held n 73 cs = some x) : ∃ y : SendM, RdA w y.vs cs ∧ WfA y.vs := by
  obtain ⟨xs, m, _, _, hl, hlen, hf⟩ := DataW.trod_struct Try.underlying73 h
  rw [cells_Send] at hl
  have hlen2 : xs.length = 4 := hlen
  obtain ⟨v0, v1, v2, v3, rfl⟩ := list_4 hl
  obtain ⟨y0, y1, y2, y3, rfl⟩ := list_4 hlen2
  have t0 : DataW.trod enc Try.prog w base spare held m 2 (([v0, v1, v2, v3].drop 0).take (Try.prog.cellsOf 2)) = _ := hf 0 _ rfl
  rw [cells_Send_0] at t0
  replace t0 : DataW.trod enc Try.prog w base spare held m 2 [v0] = some y0 := t0
  have t1 : DataW.trod enc Try.prog w base spare held m 2 (([v0, v1, v2, v3].drop 1).take (Try.prog.cellsOf 2)) = _ := hf 1 _ rfl
  rw [cells_Send_1] at t1
  replace t1 : DataW.trod enc Try.prog w base spare held m 2 [v1] = some y1 := t1
  have t2 : DataW.trod enc Try.prog w base spare held m 24 (([v0, v1, v2, v3].drop 2).take (Try.prog.cellsOf 24)) = _ := hf 2 _ rfl
  rw [cells_Send_2] at t2
  replace t2 : DataW.trod enc Try.prog w base spare held m 24 [v2] = some y2 := t2
  have t3 : DataW.trod enc Try.prog w base spare held m 71 (([v0, v1, v2, v3].drop 3).take (Try.prog.cellsOf 71)) = _ := hf 3 _ rfl
  rw [cells_Send_3] at t3
  replace t3 : DataW.trod enc Try.prog w base spare held m 71 [v3] = some y3 := t3
  obtain ⟨n0, e0, _, w0⟩ := DataW.trod_int Try.underlying2 t0
  simp only [List.cons.injEq, and_true] at e0
  subst e0
  obtain ⟨n1, e1, _, w1⟩ := DataW.trod_int Try.underlying2 t1
  simp only [List.cons.injEq, and_true] at e1
  subst e1
  obtain ⟨n2, r2, w2⟩ := open_is t2
  obtain ⟨n3, r3, w3⟩ := openS_SendItem t3
  exact ⟨⟨n0, n1, n2, n3⟩, RdA.int_mk (RdA.int_mk (RdA.any_mk r2 (RdA.any_mk r3 (RdA.nil_mk)))), ⟨wf_int w0, ⟨wf_int w1, ⟨w2, ⟨w3, trivial⟩⟩⟩⟩⟩
theorem opened_Send {cs0 : Array Value} {d : DataW H} {pl : List MemPlace} (h : DataW.Trod enc Try.prog w base spare held 73 (.agg cs0) d pl) : ∃ (y : SendM) (A2 : Option Addr) (c2 : Nat) (A3 : Option Addr) (c3 : Nat), cs0 = #[.int .i64 y.Next, .int .i64 y.Acked, .slice A2 y.Seqs.length c2, .slice A3 y.Items.length c3] ∧ RdA w y.vs [.int .i64 y.Next, .int .i64 y.Acked, .slice A2 y.Seqs.length c2, .slice A3 y.Items.length c3] ∧ WfA y.vs := by
  obtain ⟨fuel, hf⟩ := h
  obtain ⟨y, h1, h2⟩ := open_Send hf
  have h3 := h1
  obtain ⟨A2, c2, A3, c3, e⟩ := shape_Send h3
  rw [e] at h1
  refine ⟨y, A2, c2, A3, c3, ?_, h1, h2⟩
  simp only [Value.cells] at e
  exact Array.ext' (by simpa using e)
end
structure SendResultM where
  Code : Int
  Send_Next : Int
  Send_Acked : Int
  Send_Seqs : List Int
  Send_Items : List SendItemM
  Datas : List DataM
  Old : Bool
def SendResultM.vs (x : SendResultM) : List V := [.int x.Code, .int x.Send_Next, .int x.Send_Acked, .is x.Send_Seqs, st_SendItem x.Send_Items, st_Data x.Datas, .bool x.Old]
theorem shape_SendResult {w : World} {n0 : Int} {n1 : Int} {n2 : Int} {l3 : List Int} {r4 : List SendItemM} {r5 : List DataM} {b6 : Bool} {vs : List Value} (h : RdA w [.int n0, .int n1, .int n2, .is l3, st_SendItem r4, st_Data r5, .bool b6] vs) : ∃ (A3 : Option Addr) (c3 : Nat) (A4 : Option Addr) (c4 : Nat) (A5 : Option Addr) (c5 : Nat), vs = [.int .i64 n0, .int .i64 n1, .int .i64 n2, .slice A3 l3.length c3, .slice A4 r4.length c4, .slice A5 r5.length c5, .bool b6] := by
  obtain ⟨q0, e0, t0⟩ := h.int_out
  subst e0
  obtain ⟨q1, e1, t1⟩ := t0.int_out
  subst e1
  obtain ⟨q2, e2, t2⟩ := t1.int_out
  subst e2
  obtain ⟨v3, q3, e3, h3, t3⟩ := t2.any_out
  obtain ⟨A3, c3, a3⟩ := h3.is_sh
  subst e3 a3
  obtain ⟨v4, q4, e4, h4, t4⟩ := t3.any_out
  obtain ⟨A4, c4, a4⟩ := st_SendItem_sh h4
  subst e4 a4
  obtain ⟨v5, q5, e5, h5, t5⟩ := t4.any_out
  obtain ⟨A5, c5, a5⟩ := st_Data_sh h5
  subst e5 a5
  obtain ⟨q6, e6, t6⟩ := t5.bool_out
  subst e6
  have z := t6.nil_out
  subst z
  exact ⟨A3, c3, A4, c4, A5, c5, rfl⟩
set_option maxRecDepth 100000 in
set_option maxHeartbeats 1000000 in
theorem eq_SendResult (n0 : Int) (n1 : Int) (n2 : Int) (l3 : List Int) (r4 : List SendItemM) (r5 : List DataM) (b6 : Bool) (v3 u3 v4 u4 v5 u5 : Value) (w : World) (hv3 : Rd w (.is l3) v3) (hv4 : Rd w (st_SendItem r4) v4) (hv5 : Rd w (st_Data r5) v5) (hu3 : Rd w (.is l3) u3) (hu4 : Rd w (st_SendItem r4) u4) (hu5 : Rd w (st_Data r5) u5) :
    Calls Try.prog 41 #[.agg #[.int .i64 n0, .int .i64 n1, .int .i64 n2, v3, v4, v5, .bool b6], .agg #[.int .i64 n0, .int .i64 n1, .int .i64 n2, u3, u4, u5, .bool b6]] w (EqR w) := by
  obtain ⟨A3, c3, rfl⟩ := hv3.is_sh
  obtain ⟨A4, c4, rfl⟩ := st_SendItem_sh hv4
  obtain ⟨A5, c5, rfl⟩ := st_Data_sh hv5
  obtain ⟨B3, d3, rfl⟩ := hu3.is_sh
  obtain ⟨B4, d4, rfl⟩ := st_SendItem_sh hu4
  obtain ⟨B5, d5, rfl⟩ := st_Data_sh hu5
  have K1 := (Blk.new w 51 #[.int .i64 n0, .int .i64 n1, .int .i64 n2, .slice A3 l3.length c3, .slice A4 r4.length c4, .slice A5 r5.length c5, .bool b6]).alloc (.cells #[.int .i64 n0, .int .i64 n1, .int .i64 n2, .slice B3 l3.length d3, .slice B4 r4.length d4, .slice B5 r5.length d5, .bool b6] 51)
  have K2 := Blk.new (w.alloc (.cells #[.int .i64 n0, .int .i64 n1, .int .i64 n2, .slice A3 l3.length c3, .slice A4 r4.length c4, .slice A5 r5.length c5, .bool b6] 51)) 51 #[.int .i64 n0, .int .i64 n1, .int .i64 n2, .slice B3 l3.length d3, .slice B4 r4.length d4, .slice B5 r5.length d5, .bool b6]
  have B0 := bal (bal (Below.refl w.heap.size w) (.cells #[.int .i64 n0, .int .i64 n1, .int .i64 n2, .slice A3 l3.length c3, .slice A4 r4.length c4, .slice A5 r5.length c5, .bool b6] 51)) (.cells #[.int .i64 n0, .int .i64 n1, .int .i64 n2, .slice B3 l3.length d3, .slice B4 r4.length d4, .slice B5 r5.length d5, .bool b6] 51)
  rw [World.size_alloc] at K2
  obtain ⟨W, hW⟩ : ∃ W, (w.alloc (.cells #[.int .i64 n0, .int .i64 n1, .int .i64 n2, .slice A3 l3.length c3, .slice A4 r4.length c4, .slice A5 r5.length c5, .bool b6] 51)).alloc (.cells #[.int .i64 n0, .int .i64 n1, .int .i64 n2, .slice B3 l3.length d3, .slice B4 r4.length d4, .slice B5 r5.length d5, .bool b6] 51) = W := ⟨_, rfl⟩
  rw [hW] at K1 K2 B0
  have HW := hidH hW
  have HB := hidH B0
  have HA := hidH K1
  have HC := hidH K2
  have HV3 := hidH (fun (u : World) (h : Below w.heap.size w u) => Rd.below h _ hv3)
  have HU3 := hidH (fun (u : World) (h : Below w.heap.size w u) => Rd.below h _ hu3)
  have HV4 := hidH (fun (u : World) (h : Below w.heap.size w u) => Rd.below h _ hv4)
  have HU4 := hidH (fun (u : World) (h : Below w.heap.size w u) => Rd.below h _ hu4)
  have HV5 := hidH (fun (u : World) (h : Below w.heap.size w u) => Rd.below h _ hv5)
  have HU5 := hidH (fun (u : World) (h : Below w.heap.size w u) => Rd.below h _ hu5)
  clear hW K1 K2 B0 hv3 hu3 hv4 hu4 hv5 hu5
  go_enter Try.func41, Try.ntmps41
  go_wp2_with fail
  rw [HW.out]
  refine (eq_Send n1 n2 l3 r4 _ _ _ _ _ (HV3.out _ HB.out) (HV4.out _ HB.out) (HU3.out _ HB.out) (HU4.out _ HB.out)).mono ?_
  rintro e w1 ⟨rfl, hb⟩
  replace HA := hidH (HA.out.below hb)
  replace HC := hidH (HC.out.below hb)
  replace HB := hidH (btr HB.out hb)
  clear hb
  have p5 := HA.out.cell 5
  have q5 := HC.out.cell 5
  simp only [List.getElem?_toArray, List.getElem?_cons_succ, List.getElem?_cons_zero] at p5 q5
  have gp := HA.out.lt
  have gq := HC.out.lt
  go_wp2_with fail
  clear p5 q5 gp gq
  refine (eqS_Data r5 _ _ _ (HV5.out _ HB.out) (HU5.out _ HB.out)).mono ?_
  rintro e w2 ⟨rfl, hb⟩
  replace HA := hidH (HA.out.below hb)
  replace HC := hidH (HC.out.below hb)
  replace HB := hidH (btr HB.out hb)
  clear hb
  have p6 := HA.out.cell 6
  have q6 := HC.out.cell 6
  simp only [List.getElem?_toArray, List.getElem?_cons_succ, List.getElem?_cons_zero] at p6 q6
  have gp := HA.out.lt
  have gq := HC.out.lt
  go_wp2
  go_ret
  exact ⟨rfl, HB.out⟩
set_option maxRecDepth 100000 in
set_option maxHeartbeats 1000000 in
theorem mark_SendResult (n0 : Int) (n1 : Int) (n2 : Int) (l3 : List Int) (r4 : List SendItemM) (r5 : List DataM) (b6 : Bool) (v3 v4 v5 : Value) (S : Fp) (k : Nat) (w : World) (hS : Sub S (Wn 0 w.heap.size)) (h : OwA w [.int n0, .int n1, .int n2, .is l3, st_SendItem r4, st_Data r5, .bool b6] S [.int .i64 n0, .int .i64 n1, .int .i64 n2, v3, v4, v5, .bool b6]) (hk : k + vcA [.int n0, .int n1, .int n2, .is l3, st_SendItem r4, st_Data r5, .bool b6] ≤ 1000000000000) :
    Calls Try.prog 42 #[.agg #[.int .i64 n0, .int .i64 n1, .int .i64 n2, v3, v4, v5, .bool b6], .int .i64 k] w (MkA [.int n0, .int n1, .int n2, .is l3, st_SendItem r4, st_Data r5, .bool b6] S [.int .i64 n0, .int .i64 n1, .int .i64 n2, v3, v4, v5, .bool b6] k w) := by
  have hr := h.rd
  have hv3 := hr.tl.tl.tl.hd
  have hv4 := hr.tl.tl.tl.tl.hd
  have hv5 := hr.tl.tl.tl.tl.tl.hd
  obtain ⟨A3, c3, rfl⟩ := hv3.is_sh
  obtain ⟨A4, c4, rfl⟩ := st_SendItem_sh hv4
  obtain ⟨A5, c5, rfl⟩ := st_Data_sh hv5
  clear hr hv3 hv4 hv5
  have K1 := Blk.new w 51 #[.int .i64 n0, .int .i64 n1, .int .i64 n2, .slice A3 l3.length c3, .slice A4 r4.length c4, .slice A5 r5.length c5, .bool b6]
  have B0 := bal (Below.refl w.heap.size w) (.cells #[.int .i64 n0, .int .i64 n1, .int .i64 n2, .slice A3 l3.length c3, .slice A4 r4.length c4, .slice A5 r5.length c5, .bool b6] 51)
  obtain ⟨W, hW⟩ : ∃ W, w.alloc (.cells #[.int .i64 n0, .int .i64 n1, .int .i64 n2, .slice A3 l3.length c3, .slice A4 r4.length c4, .slice A5 r5.length c5, .bool b6] 51) = W := ⟨_, rfl⟩
  rw [hW] at K1 B0
  have HW := hidH hW
  have HB := hidH B0
  have HA := hidH K1
  replace h := OwA.kept (Kept.of_below B0) h
  have hcnt : vcA [.int n0, .int n1, .int n2, .is l3, st_SendItem r4, st_Data r5, .bool b6] = cc (.is l3) + cc (st_SendItem r4) + cc (st_Data r5) := by simp only [vcA, vc, st_SendItem, st_Data] <;> omega
  unfold MkA
  rw [hcnt] at hk ⊢
  obtain ⟨T0, s0, h, G0⟩ := OwA.step_int h
  have s0 := Sub.trans s0 hS
  have G0 := hidH G0
  obtain ⟨T1, s1, hO, G1⟩ := OwA.step_app (xs := [.int n1, .int n2, .is l3, st_SendItem r4]) (vs := [.int .i64 n1, .int .i64 n2, .slice A3 l3.length c3, .slice A4 r4.length c4]) (ys := [st_Data r5, .bool b6]) (us := [.slice A5 r5.length c5, .bool b6]) (xs' := mkA (k) [.int n1, .int n2, .is l3, st_SendItem r4]) rfl h
  have s1 := Sub.trans s1 s0
  have HO := hidH hO
  have G1 := hidH G1
  clear hO h
  clear hW B0 K1
  go_enter Try.func42, Try.ntmps42
  go_wp2_with fail
  rw [HW.out]
  refine (mark_Send n1 n2 l3 r4 _ _ T1 (k) _ (Sub.trans s1 (Wn.sub (Nat.le_refl _) (Nat.le_of_lt HA.out.lt))) HO.out (by have : vcA [.int n1, .int n2, .is l3, st_SendItem r4] = cc (.is l3) + cc (st_SendItem r4) := (by simp only [vcA, vc, st_SendItem] <;> omega); omega)).mono ?_
  rintro e w1 ⟨rfl, hc, ho⟩
  replace HA := hidH (HA.out.chg hc s1)
  have HC0 := hidH hc
  obtain ⟨T2, s2, h, G2⟩ := G1.out _ hc ho
  have s2 := Sub.trans s2 s0
  have G2 := hidH G2
  clear HO hc ho
  have hvk : k + vcA [.int n1, .int n2, .is l3, st_SendItem r4] = k + cc (.is l3) + cc (st_SendItem r4) := by
    have : vcA [.int n1, .int n2, .is l3, st_SendItem r4] = cc (.is l3) + cc (st_SendItem r4) := (by simp only [vcA, vc, st_SendItem] <;> omega)
    omega
  rw [hvk]
  clear hvk
  obtain ⟨T3, s3, hO, G3⟩ := OwA.step (y := mkc (k + cc (.is l3) + cc (st_SendItem r4)) (st_Data r5)) h
  have s3 := Sub.trans s3 s2
  have HO := hidH hO
  have G3 := hidH G3
  clear hO h
  have p5 := HA.out.cell 5
  simp only [List.getElem?_toArray, List.getElem?_cons_succ, List.getElem?_cons_zero] at p5
  have gp := HA.out.lt
  go_wp2_with fail
  clear p5 gp
  refine (markS_Data r5 T3 _ (k + cc (.is l3) + cc (st_SendItem r4)) _ HO.out (by omega)).mono ?_
  rintro e w2 ⟨rfl, hc, ho⟩
  replace HA := hidH (HA.out.chg hc s3)
  have HC1 := hidH hc
  obtain ⟨T4, s4, h, G4⟩ := G3.out _ hc ho
  have s4 := Sub.trans s4 s2
  have G4 := hidH G4
  clear HO hc ho
  obtain ⟨T5, s5, h, G5⟩ := OwA.step_bool h
  have s5 := Sub.trans s5 s4
  have G5 := hidH G5
  obtain ⟨hc, h⟩ := OwA.nil_step h
  obtain ⟨hc, h⟩ := G5.out _ _ hc h
  obtain ⟨hc, h⟩ := G4.out _ _ hc h
  obtain ⟨hc, h⟩ := G2.out _ _ hc h
  obtain ⟨hc, h⟩ := G0.out _ _ hc h
  have HCC := hidH ((Chg.of_below HB.out).trans hc)
  have HO := hidH h
  clear hc h
  go_wp2
  go_ret
  refine ⟨ret_int (by omega), HCC.out, HO.out⟩
set_option maxRecDepth 100000 in
set_option maxHeartbeats 1000000 in
theorem held_SendResult (n0 : Int) (n1 : Int) (n2 : Int) (l3 : List Int) (r4 : List SendItemM) (r5 : List DataM) (b6 : Bool) (v3 v4 v5 : Value) (k : Nat) (w : World) (hv3 : Rd w (mkc (k) (.is l3)) v3) (hv4 : Rd w (mkc (k + cc (.is l3)) (st_SendItem r4)) v4) (hv5 : Rd w (mkc (k + cc (.is l3) + cc (st_SendItem r4)) (st_Data r5)) v5) (hk : k + vcA [.int n0, .int n1, .int n2, .is l3, st_SendItem r4, st_Data r5, .bool b6] ≤ 1000000000000) :
    Calls Try.prog 43 #[.agg #[.int .i64 n0, .int .i64 n1, .int .i64 n2, v3, v4, v5, .bool b6], .int .i64 k] w (HeA [.int n0, .int n1, .int n2, .is l3, st_SendItem r4, st_Data r5, .bool b6] k w) := by
  obtain ⟨A3, n3, c3, rfl⟩ := mkc_is_sh hv3
  obtain ⟨A4, n4, c4, rfl⟩ := mkc_st_sh (x := st_SendItem r4) rfl hv4
  obtain ⟨A5, n5, c5, rfl⟩ := mkc_st_sh (x := st_Data r5) rfl hv5
  have K1 := Blk.new w 51 #[.int .i64 n0, .int .i64 n1, .int .i64 n2, .slice A3 n3 c3, .slice A4 n4 c4, .slice A5 n5 c5, .bool b6]
  have B0 := bal (Below.refl w.heap.size w) (.cells #[.int .i64 n0, .int .i64 n1, .int .i64 n2, .slice A3 n3 c3, .slice A4 n4 c4, .slice A5 n5 c5, .bool b6] 51)
  obtain ⟨W, hW⟩ : ∃ W, w.alloc (.cells #[.int .i64 n0, .int .i64 n1, .int .i64 n2, .slice A3 n3 c3, .slice A4 n4 c4, .slice A5 n5 c5, .bool b6] 51) = W := ⟨_, rfl⟩
  rw [hW] at K1 B0
  have HW := hidH hW
  have HB := hidH B0
  have HA := hidH K1
  have hcnt : vcA [.int n0, .int n1, .int n2, .is l3, st_SendItem r4, st_Data r5, .bool b6] = cc (.is l3) + cc (st_SendItem r4) + cc (st_Data r5) := by simp only [vcA, vc, st_SendItem, st_Data] <;> omega
  unfold HeA
  rw [hcnt] at hk ⊢
  have HV3 := hidH (fun (u : World) (h : Below w.heap.size w u) => Rd.below h _ hv3)
  have HV4 := hidH (fun (u : World) (h : Below w.heap.size w u) => Rd.below h _ hv4)
  have HV5 := hidH (fun (u : World) (h : Below w.heap.size w u) => Rd.below h _ hv5)
  clear hW K1 B0 hv3 hv4 hv5
  go_enter Try.func43, Try.ntmps43
  go_wp2_with fail
  rw [HW.out]
  refine (held_Send n1 n2 l3 r4 _ _ (k) _ (HV3.out _ HB.out) (HV4.out _ HB.out) (by have : vcA [.int n1, .int n2, .is l3, st_SendItem r4] = cc (.is l3) + cc (st_SendItem r4) := (by simp only [vcA, vc, st_SendItem] <;> omega); omega)).mono ?_
  rintro e w1 ⟨rfl, hb⟩
  have hvk : k + vcA [.int n1, .int n2, .is l3, st_SendItem r4] = k + cc (.is l3) + cc (st_SendItem r4) := by
    have : vcA [.int n1, .int n2, .is l3, st_SendItem r4] = cc (.is l3) + cc (st_SendItem r4) := (by simp only [vcA, vc, st_SendItem] <;> omega)
    omega
  rw [hvk]
  clear hvk
  replace HA := hidH (HA.out.below hb)
  replace HB := hidH (btr HB.out hb)
  have hpos : ¬ (((k + cc (.is l3) + cc (st_SendItem r4) : Nat) : Int) < 0) := by omega
  clear hb
  have p5 := HA.out.cell 5
  simp only [List.getElem?_toArray, List.getElem?_cons_succ, List.getElem?_cons_zero] at p5
  have gp := HA.out.lt
  go_wp2_with fail
  clear p5 gp
  refine (heldS_Data r5 _ (k + cc (.is l3) + cc (st_SendItem r4)) _ (HV5.out _ HB.out) (by omega)).mono ?_
  rintro e w2 ⟨rfl, hb⟩
  replace HA := hidH (HA.out.below hb)
  replace HB := hidH (btr HB.out hb)
  have hpos : ¬ (((k + cc (.is l3) + cc (st_SendItem r4) + cc (st_Data r5) : Nat) : Int) < 0) := by omega
  clear hb
  go_wp2
  go_ret
  refine ⟨ret_int (by omega), HB.out⟩
theorem eqA_SendResult (y : SendResultM) {vs us : List Value} {w : World} (h : RdA w y.vs vs) (k : RdA w y.vs us) : Calls Try.prog 41 #[.agg vs.toArray, .agg us.toArray] w (EqR w) := by
  obtain ⟨A3, c3, A4, c4, A5, c5, rfl⟩ := shape_SendResult (h)
  obtain ⟨B3, d3, B4, d4, B5, d5, rfl⟩ := shape_SendResult (k)
  exact eq_SendResult y.Code y.Send_Next y.Send_Acked y.Send_Seqs y.Send_Items y.Datas y.Old _ _ _ _ _ _ w h.tl.tl.tl.hd h.tl.tl.tl.tl.hd h.tl.tl.tl.tl.tl.hd k.tl.tl.tl.hd k.tl.tl.tl.tl.hd k.tl.tl.tl.tl.tl.hd
theorem markA_SendResult (y : SendResultM) {vs : List Value} {S : Fp} {k : Nat} {w : World} (hS : Sub S (Wn 0 w.heap.size)) (h : OwA w y.vs S vs) (hk : k + vcA y.vs ≤ 1000000000000) : Calls Try.prog 42 #[.agg vs.toArray, .int .i64 k] w (MkA y.vs S vs k w) := by
  obtain ⟨A3, c3, A4, c4, A5, c5, rfl⟩ := shape_SendResult (h.rd)
  exact mark_SendResult y.Code y.Send_Next y.Send_Acked y.Send_Seqs y.Send_Items y.Datas y.Old _ _ _ S k w hS h hk
theorem heldA_SendResult (y : SendResultM) {vs : List Value} {k : Nat} {w : World} (h : RdA w (mkA k y.vs) vs) (hk : k + vcA y.vs ≤ 1000000000000) : Calls Try.prog 43 #[.agg vs.toArray, .int .i64 k] w (HeA y.vs k w) := by
  obtain ⟨q0, e0, t0⟩ := RdA.int_out (n := y.Code) h
  subst e0
  obtain ⟨q1, e1, t1⟩ := RdA.int_out (n := y.Send_Next) t0
  subst e1
  obtain ⟨q2, e2, t2⟩ := RdA.int_out (n := y.Send_Acked) t1
  subst e2
  obtain ⟨v3, q3, e3, h3, t3⟩ := RdA.any_out (x := mkc (k) (.is y.Send_Seqs)) t2
  subst e3
  obtain ⟨v4, q4, e4, h4, t4⟩ := RdA.any_out (x := mkc (k + cc (.is y.Send_Seqs)) (st_SendItem y.Send_Items)) t3
  subst e4
  obtain ⟨v5, q5, e5, h5, t5⟩ := RdA.any_out (x := mkc (k + cc (.is y.Send_Seqs) + cc (st_SendItem y.Send_Items)) (st_Data y.Datas)) t4
  subst e5
  obtain ⟨q6, e6, t6⟩ := RdA.bool_out (b := y.Old) t5
  subst e6
  have z := t6.nil_out
  subst z
  exact held_SendResult y.Code y.Send_Next y.Send_Acked y.Send_Seqs y.Send_Items y.Datas y.Old _ _ _ k w h3 h4 h5 hk
theorem cnt_SendResult (y : SendResultM) (h : tot.totL y.vs ≤ 1048576) : vcA y.vs ≤ 1000000000 := by
  have cData := ccS_Data
  have cSendItem := ccS_SendItem
  simp only [SendResultM.vs, vcA, vc, tot.totL, tot, cc, st_SendItem, st_Data] at *
  have d4 := cSendItem y.Send_Items
  have d5 := cData y.Datas
  omega
theorem mem_SendResult {w : World} {g o : Nat} {y : SendResultM} (h : RdL w y.vs g o) : ∃ (A3 : Option Addr) (c3 : Nat) (A4 : Option Addr) (c4 : Nat) (A5 : Option Addr) (c5 : Nat), w.cell? ⟨g, o, none⟩ = some (.int .i64 y.Code) ∧ w.cell? ⟨g, o + 1, none⟩ = some (.int .i64 y.Send_Next) ∧ w.cell? ⟨g, o + 2, none⟩ = some (.int .i64 y.Send_Acked) ∧ w.cell? ⟨g, o + 3, none⟩ = some (.slice A3 y.Send_Seqs.length c3) ∧ w.cell? ⟨g, o + 4, none⟩ = some (.slice A4 y.Send_Items.length c4) ∧ w.cell? ⟨g, o + 5, none⟩ = some (.slice A5 y.Datas.length c5) ∧ w.cell? ⟨g, o + 6, none⟩ = some (.bool y.Old) ∧ Rd w (.is y.Send_Seqs) (.slice A3 y.Send_Seqs.length c3) ∧ Rd w (st_SendItem y.Send_Items) (.slice A4 y.Send_Items.length c4) ∧ Rd w (st_Data y.Datas) (.slice A5 y.Datas.length c5) := by
  obtain ⟨u0, p0, t0⟩ := h.get? 0 (.int y.Code) rfl
  have e0 := t0.int_out
  subst e0
  obtain ⟨u1, p1, t1⟩ := h.get? 1 (.int y.Send_Next) rfl
  have e1 := t1.int_out
  subst e1
  obtain ⟨u2, p2, t2⟩ := h.get? 2 (.int y.Send_Acked) rfl
  have e2 := t2.int_out
  subst e2
  obtain ⟨u3, p3, t3⟩ := h.get? 3 (.is y.Send_Seqs) rfl
  obtain ⟨A3, c3, e3⟩ := t3.is_sh
  subst e3
  obtain ⟨u4, p4, t4⟩ := h.get? 4 (st_SendItem y.Send_Items) rfl
  obtain ⟨A4, c4, e4⟩ := st_SendItem_sh t4
  subst e4
  obtain ⟨u5, p5, t5⟩ := h.get? 5 (st_Data y.Datas) rfl
  obtain ⟨A5, c5, e5⟩ := st_Data_sh t5
  subst e5
  obtain ⟨u6, p6, t6⟩ := h.get? 6 (.bool y.Old) rfl
  have e6 := t6.bool_out
  subst e6
  rw [Nat.add_zero] at p0
  exact ⟨A3, c3, A4, c4, A5, c5, p0, p1, p2, p3, p4, p5, p6, t3, t4, t5⟩
end Go.Proofs.Ythljdikcpdokdaa
