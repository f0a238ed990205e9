/- Chapter 8's draws: DrawJoinPieces. (WRITTEN BY tools/drjp8.py) -/
import Derived.Test.YtbfbfimmhpijfaaNa4
import Derived.Test.YtbfbfimmhpijfaaNa2
import Derived.Test.YtbfbfimmhpijfaaNa5
import Derived.Test.YtbfbfimmhpijfaaNa6
namespace Go.Proofs.Ytbfbfimmhpijfaa
open Go.RowKit Go.Deep

/-- A piece as it is drawn: its numbers in range. -/
def DaP (x : DataM) : Prop := (-1 ≤ x.Tsn ∧ x.Tsn ≤ 4294967296) ∧ (0 ≤ x.Stream ∧ x.Stream ≤ 10) ∧ (0 ≤ x.Seq ∧ x.Seq ≤ 5) ∧ Bytes x.Piece ∧ x.Piece.length ≤ 100
theorem daP_cut {y : MessageM} {s : Nat} {t q : Int} (hs : s ≤ 100) (hy : 0 ≤ y.Stream ∧ y.Stream ≤ 9) (hb : Bytes y.Bytes) (hq : 0 ≤ q ∧ q ≤ 5) : ∀ x ∈ cutL y s t q, DaP x := by
  intro x hx
  simp only [cutL, List.mem_map] at hx
  obtain ⟨i, _, rfl⟩ := hx
  refine ⟨⟨?_, ?_⟩, ⟨hy.1, ?_⟩, hq, fun b hb2 => hb b (List.mem_of_mem_drop (List.mem_of_mem_take hb2)), ?_⟩
  · show -1 ≤ (t + i) % 4294967296; omega
  · show (t + i) % 4294967296 ≤ 4294967296; omega
  · show y.Stream ≤ 10; omega
  · show ((y.Bytes.drop (i * s)).take s).length ≤ 100
    rw [List.length_take]; omega
theorem daP_set {r : List DataM} (h : ∀ x ∈ r, DaP x) {i : Nat} (hi : i < r.length) {y : DataM} (hy : DaP (r.getD i dat0) → DaP y) : ∀ x ∈ r.set i y, DaP x := by
  intro x hx
  rcases List.mem_or_eq_of_mem_set hx with hx | rfl
  · exact h x hx
  · exact hy (by rw [getD_at8 hi]; exact h _ (List.getElem_mem hi))
theorem daP_wf : ∀ {r : List DataM}, (∀ x ∈ r, DaP x) → WfV.WfA (r.flatMap DataM.vs)
  | [], _ => by simp; trivial
  | x :: r, h => by
    rw [List.flatMap_cons]
    obtain ⟨a, b, c, d, _⟩ := h x (by simp)
    have ih := daP_wf (r := r) (fun y hy => h y (by simp [hy]))
    exact ⟨by unfold WfV; omega, by unfold WfV; omega, by unfold WfV; omega, trivial, trivial, trivial, d, ih⟩
theorem daP_tot : ∀ {r : List DataM}, (∀ x ∈ r, DaP x) → tot.totL (r.flatMap DataM.vs) ≤ 100 * r.length
  | [], _ => by simp [tot.totL]
  | x :: r, h => by
    rw [List.flatMap_cons, totL_append, List.length_cons]
    have h1 := (h x (by simp)).2.2.2.2
    have h2 := daP_tot (r := r) (fun y hy => h y (by simp [hy]))
    simp only [DataM.vs, tot.totL, tot]
    omega
/-- A list of pieces that was drawn out of a code. -/
def JpRes (w : World) (e : Ending) (w' : World) : Prop :=
  ∃ (v : Value) (r : List DataM), e = .returned v ∧ r.length ≤ 101 ∧ (∀ x ∈ r, DaP x) ∧ Rd w' (st_Data r) v ∧ Below w.heap.size w w'
set_option maxRecDepth 100000 in
set_option maxHeartbeats 8000000 in
theorem drawJp_any (A : Option Addr) (l : List Int) (c : Nat) (w : World) (hA : Bs w A l) (hl : Bytes l) (hm : (l.length : Int) ≤ 1048576) :
    Calls Try.prog 12 #[.slice A l.length c] w (JpRes w) := by
  have HS := hidH (source_any A l c w hA hl hm)
  clear hA hl hm
  go_enter Try.func12, Try.ntmps12
  go_wp2_with fail
  refine HS.out.mono ?_
  rintro e w1 ⟨rfl, S1, b1⟩
  obtain ⟨g, hg⟩ : ∃ g, w.heap.size = g := ⟨_, rfl⟩
  rw [hg] at S1 b1 ⊢
  have HG := hidH hg
  have HB1 := hidH b1
  have hgl := S1.lt
  clear hg b1 HS
  go_wp2_with fail
  refine (l8Draw_any g A l c 0 w1 S1 (by omega)).mono ?_
  rintro e w2 ⟨y, X, cx, a2, rfl, hyP, hyb, hX, hcx, S2, ha2, V2⟩
  have C3 := Blk.new w2 25 #[.int .i64 y.Stream, .bool y.Unordered, .slice X y.Bytes.length cx]
  have B3 := bal (Below.refl w2.heap.size w2) (.cells #[.int .i64 y.Stream, .bool y.Unordered, .slice X y.Bytes.length cx] 25)
  have hs2 := V2.size
  have hg2 : g < w2.heap.size := by omega
  have HB3 := hidH ((HB1.out.trans (V2.below (by omega))).trans (B3.mono (by omega)))
  have HX3 := hidH (hX.owv (Nat.le_refl _) hcx.1 hcx.2 |>.below B3)
  have S3 := S2.below B3
  have HS3s := hidH (show (w2.alloc (.cells #[.int .i64 y.Stream, .bool y.Unordered, .slice X y.Bytes.length cx] 25)).heap.size = w2.heap.size + 1 from World.size_alloc _ _)
  obtain ⟨w3, hw3⟩ : ∃ w3, w2.alloc (.cells #[.int .i64 y.Stream, .bool y.Unordered, .slice X y.Bytes.length cx] 25) = w3 := ⟨_, rfl⟩
  rw [hw3] at C3 HB3 HX3 S3 HS3s
  have HW3 := hidH hw3
  have HC3 := hidH C3
  have HS3 := hidH S3
  have HY := hidH (And.intro hyP hyb)
  have HS12 := hidH hs2
  have HA2 := hidH ha2
  clear HB1 S1 hX S2 V2 hw3 C3 S3 B3 hyP hyb hcx hs2 ha2
  go_wp2_with fail
  rw [HW3.out]
  refine (pick_any g A l c a2 (w2.heap.size + 1) [4, 5, 8, 100] _ (HS3.out.below (bal (Below.refl _ _) _)) (by have := HA2.out; omega) (by rw [← HS3s.out]; exact Ns.of_blk (t := 2) (Blk.new w3 _ _)) (by simp) (by simp) (by omega)).mono ?_
  rintro e w4 ⟨sz, a4, rfl, hv, ha4, S4, V4⟩
  obtain ⟨s, rfl, hs⟩ : ∃ s : Nat, sz = s ∧ 4 ≤ s ∧ s ≤ 100 := by
    simp at hv
    exact ⟨sz.toNat, by omega, by omega, by omega⟩
  have hs3 := HS3s.out
  have V4' : Win g (g + 1) w3 w4 := (Win.of_below (bal (Below.refl _ _) (.cells #[.int .i64 4, .int .i64 5, .int .i64 8, .int .i64 100] 2))).trans V4
  have hs4 := V4'.size
  have HV4 := hidH V4'
  have HSN := hidH hs
  have HA4 := hidH (show a4 ≤ 60 by have := HA2.out; omega)
  have HS4 := hidH (show w2.heap.size < w4.heap.size by omega)
  clear V4 V4' hv hs3 hs4 hs HW3
  go_wp2_with fail
  refine (draw_any g A l c a4 w4 S4 (by have := HA4.out; omega)).mono ?_
  rintro e w5 ⟨t, a5, rfl, ht, ha5, S5, V5⟩
  have HV5 := hidH (HV4.out.trans V5)
  have hs5 := V5.size
  have HT := hidH ht
  have HA5 := hidH (show a5 ≤ 70 by have := HA4.out; omega)
  have HS5 := hidH (show w2.heap.size < w5.heap.size by have := HS4.out; omega)
  clear S4 V5 hs5 ht ha5 HV4 HS4
  go_wp2_with fail
  refine (pick_any g A l c a5 w5.heap.size [0, 0, 5] _ (S5.below (bal (Below.refl _ _) _)) (by have := HA5.out; omega) (Ns.of_blk (t := 2) (Blk.new w5 _ _)) (by simp) (by simp) (by have := S5.lt; omega)).mono ?_
  rintro e w6 ⟨q, a6, rfl, hv, ha6, S6, V6⟩
  have hq : 0 ≤ q ∧ q ≤ 5 := by simp at hv; omega
  have V6' : Win g (g + 1) w3 w6 := (HV5.out.trans (Win.of_below (bal (Below.refl _ _) (.cells #[.int .i64 0, .int .i64 0, .int .i64 5] 2)))).trans V6
  have C6 := V6'.blk HC3.out (.inr (by omega))
  have hs6 := V6.size
  rw [World.size_alloc] at hs6
  have hgm6 : w2.heap.size < w6.heap.size := by have := HS5.out; omega
  have HB6 := hidH (HB3.out.trans (V6'.below (by have := HS3s.out; omega)))
  have X6 := HX3.out.win V6' (.inr (by omega))
  have HM6 := hidH (show RdL w6 y.vs w2.heap.size 0 from RdL.of_cells (vs := [.int .i64 y.Stream, .bool y.Unordered, .slice X y.Bytes.length cx]) (RdA.int_mk (RdA.bool_mk (RdA.any_mk X6.rd RdA.nil_mk))) (fun k hk => by rw [Nat.zero_add, C6.cell]; exact arr_get _ k))
  have HCU := hidH (l8Cut_any y w2.heap.size s t q w6 HM6.out hgm6 HSN.out.1 HSN.out.2 HT.out.1 HT.out.2 (by have := HY.out.1.2.2; omega))
  have HC6 := hidH C6
  have HS6 := hidH S6
  have HQ := hidH hq
  have HA6 := hidH (show a6 ≤ 80 by have := HA5.out; omega)
  have hg6 := S6.lt
  clear HV5 S5 V6 V6' hv ha6 hq hs6 C6 X6 S6 HX3 HC3 HS3
  go_wp2_with fail
  refine HCU.out.mono ?_
  rintro e w7 ⟨v7, qq, rfl, hqq, o7, k7, b7⟩
  obtain ⟨ks7, L7⟩ := LZ.of hqq o7 k7
  have C7 := HC6.out.below b7
  have S7 := HS6.out.below b7
  have HB7 := hidH (HB6.out.trans (b7.mono (by omega)))
  have hn1 : 1 ≤ (cutL y s t q).length := by
    have := (cutN_lt (K := y.Bytes.length) (s := s) (i := 0) (by have := HSN.out.1; omega)).2 (by have := HY.out.1.2.1; omega)
    rw [cutL_len]; omega
  have hn2 : (cutL y s t q).length ≤ 100 := by rw [cutL_len]; exact cutN_le HSN.out.1 (by have := HY.out.1.2.2; omega)
  have HP := hidH (daP_cut (t := t) HSN.out.2 HY.out.1.1 HY.out.2 HQ.out)
  obtain ⟨r, hr⟩ : ∃ r, cutL y s t q = r := ⟨_, rfl⟩
  rw [hr] at L7 hn1 hn2 HP
  obtain ⟨gr, cap, cur, rfl, hgB, hcB, hcs, hcn, hcm⟩ := L7.at (by omega)
  have hgr : g < gr := by omega
  have c1 := C7.cell 1
  simp only [List.getElem?_toArray, List.getElem?_cons_succ, List.getElem?_cons_zero] at c1
  have hc7 := C7.lt
  have HL7 := hidH L7
  have HS7 := hidH S7
  have HGR := hidH (And.intro hn1 (And.intro hn2 (And.intro hcn hcm)))
  obtain ⟨B, hBe⟩ : ∃ B, w6.heap.size = B := ⟨_, rfl⟩
  rw [hBe] at HL7 hgB
  have hgB2 : g < B := by omega
  clear b7 hqq o7 k7 L7 S7 C7 hcB hcs hcn hcm HCU HC6 HS6 hr hn1 hn2 hBe
  obtain ⟨ub, hub⟩ : ∃ b, y.Unordered = b := ⟨_, rfl⟩
  rw [hub] at c1
  cases ub
  · have HL := hidH HL7.out
    have HS := hidH HS7.out
    have HB := hidH HB7.out
    obtain ⟨rr, hrr⟩ : ∃ rr, r = rr := ⟨_, rfl⟩
    have HRL := hidH (show rr.length = r.length by rw [hrr])
    have HP2 := HP.out
    have HL2 := HL.out
    rw [hrr] at HP2
    have HL3 : LZ w7 B (.slice (some ⟨gr, 0, none⟩) r.length cap) rr ks7 := hrr ▸ HL2
    clear HL HP
    have HL := hidH HL3
    have HP := hidH HP2
    obtain ⟨ks, hks⟩ : ∃ ks, ks7 = ks := ⟨_, rfl⟩
    rw [hks] at HL
    clear HL3 HL2 HP2 hrr hks HL7 HS7 HB7 hub
    go_wp2_with fail
    refine (next_any g A l c a6 (r.length : Int) _ HS.out (by have := HA6.out; omega)).mono ?_
    rintro e w8 ⟨at_, rfl, n0, n1, S8, V8, hz8⟩
    obtain ⟨k, rfl, k_lt⟩ : ∃ k : Nat, at_ = k ∧ k < rr.length := ⟨at_.toNat, by omega, by have := HGR.out.1; have := HRL.out; omega⟩
    have HL8 := hidH (HL.out.win V8 hgB2 (B8.of_win V8 HS.out.blk (by decide)))
    have HB8 := hidH (HB.out.trans (V8.below (by have := HS.out.lt; omega)))
    have HKL := hidH k_lt
    have HS8 := hidH S8
    clear HL HS HB n0 n1 V8 S8 hz8 k_lt
    go_wp2_with fail
    refine (next_any g A l c (a6 + 1) 12 _ HS8.out (by have := HA6.out; omega)).mono ?_
    rintro e w9 ⟨n, rfl, n0, n1, S9, V9, hz9⟩
    have HL9 := hidH (HL8.out.win V9 hgB2 (B8.of_win V9 HS8.out.blk (by decide)))
    have HB9 := hidH (HB8.out.trans (V9.below (by have := HS8.out.lt; omega)))
    have HS9 := hidH S9
    have hk0 : (0 : Int) ≤ (k : Int) := by omega
    have hk1 : (k : Int) < (r.length : Int) := by have := HKL.out; have := HRL.out; omega
    have k_lt := HKL.out
    have hgr9 := S9.lt
    clear HL8 HS8 HB8 V9 S9 hz9 n1 n0
    have HLv := hidH (show LZ w9 B (.slice (some ⟨gr, 0, none⟩) rr.length cap) rr ks from by rw [HRL.out]; exact HL9.out)
    by_cases hn0 : n = 0
    case pos =>
      subst hn0
      obtain ⟨_, _, _, ez, _, EZ⟩ := el_Data (HLv.out.own.rd) (j := k) k_lt
      injection ez with ez1 ez2 ez3
      injection ez1 with ez1
      injection ez1 with ez1 ez4
      subst ez1 ez4
      obtain ⟨_, _, m0, m1, m2, m3, m4, m5, m6, _⟩ := mem_Data EZ
      rw [Nat.zero_add] at m0 m1 m2 m3 m4 m5 m6
      clear EZ ez2 ez3
      obtain ⟨bo, hbo⟩ : ∃ b, rr[k].First = b := ⟨_, rfl⟩
      rw [hbo] at m3
      obtain ⟨⟨o9, ho9⟩, hf9, hg9⟩ := HLv.out.cell (i := k) (k := 3) k_lt (by omega)
      have HLF := hidH (HLv.out.put (i := k) (k := 3) k_lt (by omega) (.bool (!bo)) (fun x => { x with First := !bo }) (fun _ _ => rfl) (fun _ => rfl))
      have HBF := hidH (HB9.out.setCell (p := ⟨gr, k * 7 + 3, none⟩) (Nat.le_of_lt hgr) (.bool (!bo)))
      have HPF := hidH (daP_set HP.out k_lt (y := { rr.getD k dat0 with First := !bo }) (fun h => h))
      clear ho9 hbo
      go_wp2
      go_ret
      exact ⟨_, _, rfl, by have := HGR.out.2.1; have := HRL.out; simp; omega, HPF.out, (by have h9 := HLF.out.own.rd; rw [HRL.out] at h9; exact h9), (by rw [HG.out]; exact HBF.out)⟩
    by_cases hn1 : n = 1
    case pos =>
      subst hn1
      obtain ⟨_, _, _, ez, _, EZ⟩ := el_Data (HLv.out.own.rd) (j := k) k_lt
      injection ez with ez1 ez2 ez3
      injection ez1 with ez1
      injection ez1 with ez1 ez4
      subst ez1 ez4
      obtain ⟨_, _, m0, m1, m2, m3, m4, m5, m6, _⟩ := mem_Data EZ
      rw [Nat.zero_add] at m0 m1 m2 m3 m4 m5 m6
      clear EZ ez2 ez3
      obtain ⟨bo, hbo⟩ : ∃ b, rr[k].Last = b := ⟨_, rfl⟩
      rw [hbo] at m4
      obtain ⟨⟨o9, ho9⟩, hf9, hg9⟩ := HLv.out.cell (i := k) (k := 4) k_lt (by omega)
      have HLF := hidH (HLv.out.put (i := k) (k := 4) k_lt (by omega) (.bool (!bo)) (fun x => { x with Last := !bo }) (fun _ _ => rfl) (fun _ => rfl))
      have HBF := hidH (HB9.out.setCell (p := ⟨gr, k * 7 + 4, none⟩) (Nat.le_of_lt hgr) (.bool (!bo)))
      have HPF := hidH (daP_set HP.out k_lt (y := { rr.getD k dat0 with Last := !bo }) (fun h => h))
      clear ho9 hbo
      go_wp2
      go_ret
      exact ⟨_, _, rfl, by have := HGR.out.2.1; have := HRL.out; simp; omega, HPF.out, (by have h9 := HLF.out.own.rd; rw [HRL.out] at h9; exact h9), (by rw [HG.out]; exact HBF.out)⟩
    by_cases hn2 : n = 2
    case pos =>
      subst hn2
      go_wp2_with fail
      refine (bent_any g A l c (a6 + 1 + 1) _ HS9.out (by have := HA6.out; omega)).mono ?_
      rintro e w10 ⟨tn, a10, rfl, htn, ha10, S10, V10⟩
      have HLx := hidH (HLv.out.win V10 hgB2 (B8.of_win V10 HS9.out.blk (by decide)))
      have HBx := hidH (HB9.out.trans (V10.below (by omega)))
      clear V10 S10 ha10
      obtain ⟨⟨o9, ho9⟩, hf9, hg9⟩ := HLx.out.cell (i := k) (k := 0) k_lt (by omega)
      rw [Nat.add_zero] at ho9 hf9
      have HLF := hidH (HLx.out.put (i := k) (k := 0) k_lt (by omega) (.int .i64 tn) (fun x => { x with Tsn := tn }) (fun _ _ => rfl) (fun _ => rfl))
      have HBF := hidH (HBx.out.setCell (p := ⟨gr, k * 7 + 0, none⟩) (Nat.le_of_lt hgr) (.int .i64 tn))
      have HPF := hidH (daP_set HP.out k_lt (y := { rr.getD k dat0 with Tsn := tn }) (fun h => ⟨htn, h.2⟩))
      go_wp2
      go_ret
      exact ⟨_, _, rfl, by have := HGR.out.2.1; have := HRL.out; simp; omega, HPF.out, (by have h9 := HLF.out.own.rd; rw [HRL.out] at h9; simpa using h9), by simpa using (by rw [HG.out]; exact HBF.out)⟩
    by_cases hn3 : n = 3
    case pos =>
      subst hn3
      go_wp2_with fail
      refine (pick_any g A l c (a6 + 1 + 1) w9.heap.size [0, 1, 10] _ (HS9.out.below (bal (Below.refl _ _) _)) (by have := HA6.out; omega) (Ns.of_blk (t := 2) (Blk.new w9 _ _)) (by simp) (by simp) (by omega)).mono ?_
      rintro e w10 ⟨sv, a10, rfl, hv, ha10, S10, V10⟩
      have hsv : 0 ≤ sv ∧ sv ≤ 10 := by simp at hv; omega
      have HLa := HLv.out.below (bal (Below.refl w9.heap.size w9) (.cells #[.int .i64 0, .int .i64 1, .int .i64 10] 2))
      have Sa := HS9.out.below (bal (Below.refl w9.heap.size w9) (.cells #[.int .i64 0, .int .i64 1, .int .i64 10] 2))
      have HLx := hidH (HLa.win V10 hgB2 (B8.of_win V10 Sa.blk (by decide)))
      have HBx := hidH ((HB9.out.trans ((bal (Below.refl w9.heap.size w9) (.cells #[.int .i64 0, .int .i64 1, .int .i64 10] 2)).mono (by omega))).trans (V10.below (by rw [World.size_alloc]; omega)))
      clear V10 S10 ha10 hv HLa Sa
      obtain ⟨⟨o9, ho9⟩, hf9, hg9⟩ := HLx.out.cell (i := k) (k := 1) k_lt (by omega)
      have HLF := hidH (HLx.out.put (i := k) (k := 1) k_lt (by omega) (.int .i64 sv) (fun x => { x with Stream := sv }) (fun _ _ => rfl) (fun _ => rfl))
      have HBF := hidH (HBx.out.setCell (p := ⟨gr, k * 7 + 1, none⟩) (Nat.le_of_lt hgr) (.int .i64 sv))
      have HPF := hidH (daP_set HP.out k_lt (y := { rr.getD k dat0 with Stream := sv }) (fun h => ⟨h.1, hsv, h.2.2⟩))
      go_wp2
      go_ret
      exact ⟨_, _, rfl, by have := HGR.out.2.1; have := HRL.out; simp; omega, HPF.out, (by have h9 := HLF.out.own.rd; rw [HRL.out] at h9; exact h9), (by rw [HG.out]; exact HBF.out)⟩
    by_cases hn4 : n = 4
    case pos =>
      subst hn4
      obtain ⟨⟨o9, ho9⟩, hf9, hg9⟩ := HLv.out.cell (i := k) (k := 6) k_lt (by omega)
      obtain ⟨ks9, L9⟩ := HLv.out.nil k_lt
      have HLF := hidH L9
      have HBF := hidH (HB9.out.setCell (p := ⟨gr, k * 7 + 6, none⟩) (Nat.le_of_lt hgr) (.slice none 0 0))
      have HPF := hidH (daP_set HP.out k_lt (y := { rr.getD k dat0 with Piece := [] }) (fun h => ⟨h.1, h.2.1, h.2.2.1, (fun b hb => by cases hb), Nat.zero_le _⟩))
      clear L9
      go_wp2
      go_ret
      exact ⟨_, _, rfl, by have := HGR.out.2.1; have := HRL.out; simp; omega, HPF.out, (by have h9 := HLF.out.own.rd; rw [HRL.out] at h9; exact h9), (by rw [HG.out]; exact HBF.out)⟩
    by_cases hn5 : n = 5
    case pos =>
      subst hn5
      have hsl := cutD_l (some ⟨gr, 0, none⟩) r.length cap 1 1 rfl (by omega) w9
      have HRD := hidH (cutD_rd (i := 1) HLv.out.own.rd (by omega))
      have hr1 : (1 : Int) ≤ (r.length : Int) := by omega
      go_wp2
      go_ret
      exact ⟨_, rr.drop 1, rfl, by have := HGR.out.2.1; have := HRL.out; simp; omega, fun x hx => HP.out x (List.mem_of_mem_drop hx), (by have h9 := HRD.out; rw [HRL.out] at h9; exact h9), (by rw [HG.out]; exact HB9.out)⟩
    by_cases hn6 : n = 6
    case pos =>
      subst hn6
      go_wp2_with fail
      refine (chance_any g A l c (a6 + 1 + 1) 4 _ HS9.out (by have := HA6.out; omega)).mono ?_
      rintro e w10 ⟨bb, rfl, S10, V10⟩
      cases bb
      case false =>
        have HLx := hidH (HLv.out.win V10 hgB2 (B8.of_win V10 HS9.out.blk (by decide)))
        have HBx := hidH (HB9.out.trans (V10.below (by omega)))
        clear V10 S10
        go_wp2
        go_ret
        exact ⟨_, rr, rfl, by have := HGR.out.2.1; have := HRL.out; omega, HP.out, (by have h9 := HLx.out.own.rd; rw [HRL.out] at h9; exact h9), (by rw [HG.out]; exact HBx.out)⟩
      have HBx := hidH (HB9.out.trans (V10.below (by omega)))
      have hg10 := S10.lt
      clear V10 HLv HL9 HS9 HB9
      go_wp2_with fail
      refine (pick_any g A l c (a6 + 1 + 1 + 1) w10.heap.size [100, 101, 5] _ (S10.below (bal (Below.refl _ _) _)) (by have := HA6.out; omega) (Ns.of_blk (t := 2) (Blk.new w10 _ _)) (by simp) (by simp) (by omega)).mono ?_
      rintro e w11 ⟨nv, a11, rfl, hv, ha11, S11, V11⟩
      obtain ⟨N, rfl, hN1, hN⟩ : ∃ N : Nat, nv = N ∧ 1 ≤ N ∧ N ≤ 101 := by
        simp at hv
        exact ⟨nv.toNat, by omega, by omega, by omega⟩
      have HB11 := hidH ((HBx.out.trans ((bal (Below.refl w10.heap.size w10) (.cells #[.int .i64 100, .int .i64 101, .int .i64 5] 2)).mono (by omega))).trans (V11.below (by rw [World.size_alloc]; omega)))
      have hg11 := S11.lt
      clear S10 V11 hv HBx
      have hNm : (N : Int) * 4 = ((N * 4 : Nat) : Int) := by omega
      have HN4 := hidH (show N * 4 ≤ 404 ∧ 1 ≤ N * 4 by omega)
      obtain ⟨N4, hN4⟩ : ∃ N4, N * 4 = N4 := ⟨_, rfl⟩
      rw [hN4] at hNm HN4
      clear hN4
      go_wp2_with fail
      try rw [hNm]
      refine (some_any N4 _ _ _ _ _ _ S11 (by have := HN4.out; omega) (by have := HA6.out; omega)).mono ?_
      rintro e w12 ⟨v9, d9, a12, rfl, hd9, hl9, O9, S12, ha12, V12⟩
      obtain ⟨Z9, z9, rfl, o9, hc9, hm9⟩ := own_xb O9
      have HB12 := hidH ((HB11.out.trans (V12.below (by omega))).trans ((bal (Below.refl w12.heap.size w12) (.cells #[.int .i64 2, .bool false, .slice Z9 d9.length z9] 25)).mono (by have := V12.size; omega)))
      have C12 := Blk.new w12 25 #[.int .i64 2, .bool false, .slice Z9 d9.length z9]
      have X12 := (o9.owv (Nat.le_refl _) hc9 hm9).below (bal (Below.refl w12.heap.size w12) (.cells #[.int .i64 2, .bool false, .slice Z9 d9.length z9] 25))
      have hs12 : (w12.alloc (.cells #[.int .i64 2, .bool false, .slice Z9 d9.length z9] 25)).heap.size = w12.heap.size + 1 := World.size_alloc _ _
      have hg12 := S12.lt
      obtain ⟨w13, hw13⟩ : ∃ w13, w12.alloc (.cells #[.int .i64 2, .bool false, .slice Z9 d9.length z9] 25) = w13 := ⟨_, rfl⟩
      rw [hw13] at HB12 C12 X12 hs12
      have HW13 := hidH hw13
      have hM13 : RdL w13 (⟨2, false, d9⟩ : MessageM).vs w12.heap.size 0 := RdL.of_cells (vs := [.int .i64 2, .bool false, .slice Z9 d9.length z9]) (RdA.int_mk (RdA.bool_mk (RdA.any_mk X12.rd RdA.nil_mk))) (fun k hk => by rw [Nat.zero_add, C12.cell]; exact arr_get _ k)
      have HCU := hidH (l8Cut_any ⟨2, false, d9⟩ w12.heap.size 4 7 0 w13 hM13 (by omega) (by omega) (by omega) (by omega) (by omega) (by show d9.length ≤ 3000; have := HN4.out; omega))
      have HPF := hidH (daP_cut (y := ⟨2, false, d9⟩) (s := 4) (t := 7) (q := 0) (by omega) (by show (0 : Int) ≤ 2 ∧ (2 : Int) ≤ 9; omega) hd9 (by omega))
      have HLN := hidH (show (cutL ⟨2, false, d9⟩ 4 7 0).length ≤ 101 by
        rw [cutL_len]
        have h1 : d9.length ≤ 404 := by have := HN4.out; omega
        show cutN d9.length 4 ≤ 101
        unfold cutN; omega)
      have HG13 := hidH (show g ≤ w13.heap.size by omega)
      clear S11 V12 O9 o9 hc9 hm9 hd9 hl9 C12 X12 hs12 hw13 hM13 S12 ha12
      go_wp2_with fail
      rw [HW13.out]
      try go_wp2_with fail
      refine HCU.out.mono ?_
      rintro e w14 h14
      obtain ⟨v14, rfl, O14, b14⟩ := h14.own
      have HO14 := hidH O14
      have HBF := hidH (HB12.out.trans (b14.mono HG13.out))
      clear h14 O14 b14 HCU
      go_wp2
      go_ret
      exact ⟨_, _, rfl, HLN.out, HPF.out, HO14.out.rd, (by rw [HG.out]; exact HBF.out)⟩
    have hb0 := ne_beq hn0
    have hb1 := ne_beq hn1
    have hb2 := ne_beq hn2
    have hb3 := ne_beq hn3
    have hb4 := ne_beq hn4
    have hb5 := ne_beq hn5
    have hb6 := ne_beq hn6
    clear HL9
    go_wp2
    go_ret
    exact ⟨_, rr, rfl, by have := HGR.out.2.1; have := HRL.out; omega, HP.out, (by have h9 := HLv.out.own.rd; rw [HRL.out] at h9; exact h9), (by rw [HG.out]; exact HB9.out)⟩
  · go_wp2_with fail
    go_loopw [28] (fun i wr => ∃ (j : Nat) (rr : List DataM) (ks : List (Value × Nat × Nat)), j ≤ r.length ∧ i = .int .i64 j ∧ rr.length = r.length ∧ (∀ x ∈ rr, DaP x) ∧ LZ wr B (.slice (some ⟨gr, 0, none⟩) r.length cap) rr ks ∧ Src wr g A l c a6 ∧ Below g w wr) (fun i _ => r.length - (intOf i).toNat)
    case atStart => exact ⟨0, r, ks7, by omega, rfl, rfl, HP.out, HL7.out, HS7.out, HB7.out⟩
    case round =>
      obtain ⟨j, rr, ks, hj, rfl, hrl, hP, hL, hS, hB⟩ := hrel
      by_cases hlt : j < r.length
      · have hj0 : (0 : Int) ≤ (j : Int) := by omega
        have hj1 : (j : Int) < (r.length : Int) := by omega
        have hjr : j < rr.length := by omega
        have HJ := hidH hlt
        have hjm : (j : Int) ≤ 100 := by have := HGR.out.2.1; omega
        have hL2 : LZ wr B (.slice (some ⟨gr, 0, none⟩) rr.length cap) rr ks := by rw [hrl]; exact hL
        obtain ⟨⟨o9, ho9⟩, hf9, hg9⟩ := hL2.cell (i := j) (k := 2) hjr (by omega)
        have HLF := hidH (hL2.put (i := j) (k := 2) hjr (by omega) (.int .i64 0) (fun x => { x with Seq := 0 }) (fun _ _ => rfl) (fun _ => rfl))
        have HBF := hidH (hB.setCell (p := ⟨gr, j * 7 + 2, none⟩) (Nat.le_of_lt hgr) (.int .i64 0))
        have HSF := hidH (hS.far (p := ⟨gr, j * 7 + 2, none⟩) hgr (.int .i64 0))
        have HPF := hidH (daP_set hP hjr (y := { rr.getD j dat0 with Seq := 0 }) (fun h => ⟨h.1, h.2.1, (show (0 : Int) ≤ 0 ∧ (0 : Int) ≤ 5 by omega), h.2.2.2⟩))
        have HRL := hidH hrl
        clear hL hL2 hS hB hP hrl
        go_wp2
        go_roundw
        case rel => exact ⟨j + 1, _, ks, by have := HJ.out; omega, by go_num, by simp [HRL.out], HPF.out, (by have h9 := HLF.out; rw [HRL.out] at h9; exact h9), HSF.out, HBF.out⟩
        case measure => simp [intOf]; have := HJ.out; omega
      · obtain rfl : j = r.length := by omega
        have HRL := hidH hrl
        clear HP
        have HP := hidH hP
        have HL := hidH hL
        have HS := hidH hS
        have HB := hidH hB
        clear hrl hP hL hS hB hlt hj HL7 HS7 HB7 hub
        go_wp2_with fail
        refine (next_any g A l c a6 (r.length : Int) _ HS.out (by have := HA6.out; omega)).mono ?_
        rintro e w8 ⟨at_, rfl, n0, n1, S8, V8, hz8⟩
        obtain ⟨k, rfl, k_lt⟩ : ∃ k : Nat, at_ = k ∧ k < rr.length := ⟨at_.toNat, by omega, by have := HGR.out.1; have := HRL.out; omega⟩
        have HL8 := hidH (HL.out.win V8 hgB2 (B8.of_win V8 HS.out.blk (by decide)))
        have HB8 := hidH (HB.out.trans (V8.below (by have := HS.out.lt; omega)))
        have HKL := hidH k_lt
        have HS8 := hidH S8
        clear HL HS HB n0 n1 V8 S8 hz8 k_lt
        go_wp2_with fail
        refine (next_any g A l c (a6 + 1) 12 _ HS8.out (by have := HA6.out; omega)).mono ?_
        rintro e w9 ⟨n, rfl, n0, n1, S9, V9, hz9⟩
        have HL9 := hidH (HL8.out.win V9 hgB2 (B8.of_win V9 HS8.out.blk (by decide)))
        have HB9 := hidH (HB8.out.trans (V9.below (by have := HS8.out.lt; omega)))
        have HS9 := hidH S9
        have hk0 : (0 : Int) ≤ (k : Int) := by omega
        have hk1 : (k : Int) < (r.length : Int) := by have := HKL.out; have := HRL.out; omega
        have k_lt := HKL.out
        have hgr9 := S9.lt
        clear HL8 HS8 HB8 V9 S9 hz9 n1 n0
        have HLv := hidH (show LZ w9 B (.slice (some ⟨gr, 0, none⟩) rr.length cap) rr ks from by rw [HRL.out]; exact HL9.out)
        by_cases hn0 : n = 0
        case pos =>
          subst hn0
          obtain ⟨_, _, _, ez, _, EZ⟩ := el_Data (HLv.out.own.rd) (j := k) k_lt
          injection ez with ez1 ez2 ez3
          injection ez1 with ez1
          injection ez1 with ez1 ez4
          subst ez1 ez4
          obtain ⟨_, _, m0, m1, m2, m3, m4, m5, m6, _⟩ := mem_Data EZ
          rw [Nat.zero_add] at m0 m1 m2 m3 m4 m5 m6
          clear EZ ez2 ez3
          obtain ⟨bo, hbo⟩ : ∃ b, rr[k].First = b := ⟨_, rfl⟩
          rw [hbo] at m3
          obtain ⟨⟨o9, ho9⟩, hf9, hg9⟩ := HLv.out.cell (i := k) (k := 3) k_lt (by omega)
          have HLF := hidH (HLv.out.put (i := k) (k := 3) k_lt (by omega) (.bool (!bo)) (fun x => { x with First := !bo }) (fun _ _ => rfl) (fun _ => rfl))
          have HBF := hidH (HB9.out.setCell (p := ⟨gr, k * 7 + 3, none⟩) (Nat.le_of_lt hgr) (.bool (!bo)))
          have HPF := hidH (daP_set HP.out k_lt (y := { rr.getD k dat0 with First := !bo }) (fun h => h))
          clear ho9 hbo
          go_wp2
          go_ret
          exact ⟨_, _, rfl, by have := HGR.out.2.1; have := HRL.out; simp; omega, HPF.out, (by have h9 := HLF.out.own.rd; rw [HRL.out] at h9; exact h9), (by rw [HG.out]; exact HBF.out)⟩
        by_cases hn1 : n = 1
        case pos =>
          subst hn1
          obtain ⟨_, _, _, ez, _, EZ⟩ := el_Data (HLv.out.own.rd) (j := k) k_lt
          injection ez with ez1 ez2 ez3
          injection ez1 with ez1
          injection ez1 with ez1 ez4
          subst ez1 ez4
          obtain ⟨_, _, m0, m1, m2, m3, m4, m5, m6, _⟩ := mem_Data EZ
          rw [Nat.zero_add] at m0 m1 m2 m3 m4 m5 m6
          clear EZ ez2 ez3
          obtain ⟨bo, hbo⟩ : ∃ b, rr[k].Last = b := ⟨_, rfl⟩
          rw [hbo] at m4
          obtain ⟨⟨o9, ho9⟩, hf9, hg9⟩ := HLv.out.cell (i := k) (k := 4) k_lt (by omega)
          have HLF := hidH (HLv.out.put (i := k) (k := 4) k_lt (by omega) (.bool (!bo)) (fun x => { x with Last := !bo }) (fun _ _ => rfl) (fun _ => rfl))
          have HBF := hidH (HB9.out.setCell (p := ⟨gr, k * 7 + 4, none⟩) (Nat.le_of_lt hgr) (.bool (!bo)))
          have HPF := hidH (daP_set HP.out k_lt (y := { rr.getD k dat0 with Last := !bo }) (fun h => h))
          clear ho9 hbo
          go_wp2
          go_ret
          exact ⟨_, _, rfl, by have := HGR.out.2.1; have := HRL.out; simp; omega, HPF.out, (by have h9 := HLF.out.own.rd; rw [HRL.out] at h9; exact h9), (by rw [HG.out]; exact HBF.out)⟩
        by_cases hn2 : n = 2
        case pos =>
          subst hn2
          go_wp2_with fail
          refine (bent_any g A l c (a6 + 1 + 1) _ HS9.out (by have := HA6.out; omega)).mono ?_
          rintro e w10 ⟨tn, a10, rfl, htn, ha10, S10, V10⟩
          have HLx := hidH (HLv.out.win V10 hgB2 (B8.of_win V10 HS9.out.blk (by decide)))
          have HBx := hidH (HB9.out.trans (V10.below (by omega)))
          clear V10 S10 ha10
          obtain ⟨⟨o9, ho9⟩, hf9, hg9⟩ := HLx.out.cell (i := k) (k := 0) k_lt (by omega)
          rw [Nat.add_zero] at ho9 hf9
          have HLF := hidH (HLx.out.put (i := k) (k := 0) k_lt (by omega) (.int .i64 tn) (fun x => { x with Tsn := tn }) (fun _ _ => rfl) (fun _ => rfl))
          have HBF := hidH (HBx.out.setCell (p := ⟨gr, k * 7 + 0, none⟩) (Nat.le_of_lt hgr) (.int .i64 tn))
          have HPF := hidH (daP_set HP.out k_lt (y := { rr.getD k dat0 with Tsn := tn }) (fun h => ⟨htn, h.2⟩))
          go_wp2
          go_ret
          exact ⟨_, _, rfl, by have := HGR.out.2.1; have := HRL.out; simp; omega, HPF.out, (by have h9 := HLF.out.own.rd; rw [HRL.out] at h9; simpa using h9), by simpa using (by rw [HG.out]; exact HBF.out)⟩
        by_cases hn3 : n = 3
        case pos =>
          subst hn3
          go_wp2_with fail
          refine (pick_any g A l c (a6 + 1 + 1) w9.heap.size [0, 1, 10] _ (HS9.out.below (bal (Below.refl _ _) _)) (by have := HA6.out; omega) (Ns.of_blk (t := 2) (Blk.new w9 _ _)) (by simp) (by simp) (by omega)).mono ?_
          rintro e w10 ⟨sv, a10, rfl, hv, ha10, S10, V10⟩
          have hsv : 0 ≤ sv ∧ sv ≤ 10 := by simp at hv; omega
          have HLa := HLv.out.below (bal (Below.refl w9.heap.size w9) (.cells #[.int .i64 0, .int .i64 1, .int .i64 10] 2))
          have Sa := HS9.out.below (bal (Below.refl w9.heap.size w9) (.cells #[.int .i64 0, .int .i64 1, .int .i64 10] 2))
          have HLx := hidH (HLa.win V10 hgB2 (B8.of_win V10 Sa.blk (by decide)))
          have HBx := hidH ((HB9.out.trans ((bal (Below.refl w9.heap.size w9) (.cells #[.int .i64 0, .int .i64 1, .int .i64 10] 2)).mono (by omega))).trans (V10.below (by rw [World.size_alloc]; omega)))
          clear V10 S10 ha10 hv HLa Sa
          obtain ⟨⟨o9, ho9⟩, hf9, hg9⟩ := HLx.out.cell (i := k) (k := 1) k_lt (by omega)
          have HLF := hidH (HLx.out.put (i := k) (k := 1) k_lt (by omega) (.int .i64 sv) (fun x => { x with Stream := sv }) (fun _ _ => rfl) (fun _ => rfl))
          have HBF := hidH (HBx.out.setCell (p := ⟨gr, k * 7 + 1, none⟩) (Nat.le_of_lt hgr) (.int .i64 sv))
          have HPF := hidH (daP_set HP.out k_lt (y := { rr.getD k dat0 with Stream := sv }) (fun h => ⟨h.1, hsv, h.2.2⟩))
          go_wp2
          go_ret
          exact ⟨_, _, rfl, by have := HGR.out.2.1; have := HRL.out; simp; omega, HPF.out, (by have h9 := HLF.out.own.rd; rw [HRL.out] at h9; exact h9), (by rw [HG.out]; exact HBF.out)⟩
        by_cases hn4 : n = 4
        case pos =>
          subst hn4
          obtain ⟨⟨o9, ho9⟩, hf9, hg9⟩ := HLv.out.cell (i := k) (k := 6) k_lt (by omega)
          obtain ⟨ks9, L9⟩ := HLv.out.nil k_lt
          have HLF := hidH L9
          have HBF := hidH (HB9.out.setCell (p := ⟨gr, k * 7 + 6, none⟩) (Nat.le_of_lt hgr) (.slice none 0 0))
          have HPF := hidH (daP_set HP.out k_lt (y := { rr.getD k dat0 with Piece := [] }) (fun h => ⟨h.1, h.2.1, h.2.2.1, (fun b hb => by cases hb), Nat.zero_le _⟩))
          clear L9
          go_wp2
          go_ret
          exact ⟨_, _, rfl, by have := HGR.out.2.1; have := HRL.out; simp; omega, HPF.out, (by have h9 := HLF.out.own.rd; rw [HRL.out] at h9; exact h9), (by rw [HG.out]; exact HBF.out)⟩
        by_cases hn5 : n = 5
        case pos =>
          subst hn5
          have hsl := cutD_l (some ⟨gr, 0, none⟩) r.length cap 1 1 rfl (by omega) w9
          have HRD := hidH (cutD_rd (i := 1) HLv.out.own.rd (by omega))
          have hr1 : (1 : Int) ≤ (r.length : Int) := by omega
          go_wp2
          go_ret
          exact ⟨_, rr.drop 1, rfl, by have := HGR.out.2.1; have := HRL.out; simp; omega, fun x hx => HP.out x (List.mem_of_mem_drop hx), (by have h9 := HRD.out; rw [HRL.out] at h9; exact h9), (by rw [HG.out]; exact HB9.out)⟩
        by_cases hn6 : n = 6
        case pos =>
          subst hn6
          go_wp2_with fail
          refine (chance_any g A l c (a6 + 1 + 1) 4 _ HS9.out (by have := HA6.out; omega)).mono ?_
          rintro e w10 ⟨bb, rfl, S10, V10⟩
          cases bb
          case false =>
            have HLx := hidH (HLv.out.win V10 hgB2 (B8.of_win V10 HS9.out.blk (by decide)))
            have HBx := hidH (HB9.out.trans (V10.below (by omega)))
            clear V10 S10
            go_wp2
            go_ret
            exact ⟨_, rr, rfl, by have := HGR.out.2.1; have := HRL.out; omega, HP.out, (by have h9 := HLx.out.own.rd; rw [HRL.out] at h9; exact h9), (by rw [HG.out]; exact HBx.out)⟩
          have HBx := hidH (HB9.out.trans (V10.below (by omega)))
          have hg10 := S10.lt
          clear V10 HLv HL9 HS9 HB9
          go_wp2_with fail
          refine (pick_any g A l c (a6 + 1 + 1 + 1) w10.heap.size [100, 101, 5] _ (S10.below (bal (Below.refl _ _) _)) (by have := HA6.out; omega) (Ns.of_blk (t := 2) (Blk.new w10 _ _)) (by simp) (by simp) (by omega)).mono ?_
          rintro e w11 ⟨nv, a11, rfl, hv, ha11, S11, V11⟩
          obtain ⟨N, rfl, hN1, hN⟩ : ∃ N : Nat, nv = N ∧ 1 ≤ N ∧ N ≤ 101 := by
            simp at hv
            exact ⟨nv.toNat, by omega, by omega, by omega⟩
          have HB11 := hidH ((HBx.out.trans ((bal (Below.refl w10.heap.size w10) (.cells #[.int .i64 100, .int .i64 101, .int .i64 5] 2)).mono (by omega))).trans (V11.below (by rw [World.size_alloc]; omega)))
          have hg11 := S11.lt
          clear S10 V11 hv HBx
          have hNm : (N : Int) * 4 = ((N * 4 : Nat) : Int) := by omega
          have HN4 := hidH (show N * 4 ≤ 404 ∧ 1 ≤ N * 4 by omega)
          obtain ⟨N4, hN4⟩ : ∃ N4, N * 4 = N4 := ⟨_, rfl⟩
          rw [hN4] at hNm HN4
          clear hN4
          go_wp2_with fail
          try rw [hNm]
          refine (some_any N4 _ _ _ _ _ _ S11 (by have := HN4.out; omega) (by have := HA6.out; omega)).mono ?_
          rintro e w12 ⟨v9, d9, a12, rfl, hd9, hl9, O9, S12, ha12, V12⟩
          obtain ⟨Z9, z9, rfl, o9, hc9, hm9⟩ := own_xb O9
          have HB12 := hidH ((HB11.out.trans (V12.below (by omega))).trans ((bal (Below.refl w12.heap.size w12) (.cells #[.int .i64 2, .bool false, .slice Z9 d9.length z9] 25)).mono (by have := V12.size; omega)))
          have C12 := Blk.new w12 25 #[.int .i64 2, .bool false, .slice Z9 d9.length z9]
          have X12 := (o9.owv (Nat.le_refl _) hc9 hm9).below (bal (Below.refl w12.heap.size w12) (.cells #[.int .i64 2, .bool false, .slice Z9 d9.length z9] 25))
          have hs12 : (w12.alloc (.cells #[.int .i64 2, .bool false, .slice Z9 d9.length z9] 25)).heap.size = w12.heap.size + 1 := World.size_alloc _ _
          have hg12 := S12.lt
          obtain ⟨w13, hw13⟩ : ∃ w13, w12.alloc (.cells #[.int .i64 2, .bool false, .slice Z9 d9.length z9] 25) = w13 := ⟨_, rfl⟩
          rw [hw13] at HB12 C12 X12 hs12
          have HW13 := hidH hw13
          have hM13 : RdL w13 (⟨2, false, d9⟩ : MessageM).vs w12.heap.size 0 := RdL.of_cells (vs := [.int .i64 2, .bool false, .slice Z9 d9.length z9]) (RdA.int_mk (RdA.bool_mk (RdA.any_mk X12.rd RdA.nil_mk))) (fun k hk => by rw [Nat.zero_add, C12.cell]; exact arr_get _ k)
          have HCU := hidH (l8Cut_any ⟨2, false, d9⟩ w12.heap.size 4 7 0 w13 hM13 (by omega) (by omega) (by omega) (by omega) (by omega) (by show d9.length ≤ 3000; have := HN4.out; omega))
          have HPF := hidH (daP_cut (y := ⟨2, false, d9⟩) (s := 4) (t := 7) (q := 0) (by omega) (by show (0 : Int) ≤ 2 ∧ (2 : Int) ≤ 9; omega) hd9 (by omega))
          have HLN := hidH (show (cutL ⟨2, false, d9⟩ 4 7 0).length ≤ 101 by
            rw [cutL_len]
            have h1 : d9.length ≤ 404 := by have := HN4.out; omega
            show cutN d9.length 4 ≤ 101
            unfold cutN; omega)
          have HG13 := hidH (show g ≤ w13.heap.size by omega)
          clear S11 V12 O9 o9 hc9 hm9 hd9 hl9 C12 X12 hs12 hw13 hM13 S12 ha12
          go_wp2_with fail
          rw [HW13.out]
          try go_wp2_with fail
          refine HCU.out.mono ?_
          rintro e w14 h14
          obtain ⟨v14, rfl, O14, b14⟩ := h14.own
          have HO14 := hidH O14
          have HBF := hidH (HB12.out.trans (b14.mono HG13.out))
          clear h14 O14 b14 HCU
          go_wp2
          go_ret
          exact ⟨_, _, rfl, HLN.out, HPF.out, HO14.out.rd, (by rw [HG.out]; exact HBF.out)⟩
        have hb0 := ne_beq hn0
        have hb1 := ne_beq hn1
        have hb2 := ne_beq hn2
        have hb3 := ne_beq hn3
        have hb4 := ne_beq hn4
        have hb5 := ne_beq hn5
        have hb6 := ne_beq hn6
        clear HL9
        go_wp2
        go_ret
        exact ⟨_, rr, rfl, by have := HGR.out.2.1; have := HRL.out; omega, HP.out, (by have h9 := HLv.out.own.rd; rw [HRL.out] at h9; exact h9), (by rw [HG.out]; exact HB9.out)⟩
end Go.Proofs.Ytbfbfimmhpijfaa
