import Derived.Test.YtbfbfimmhpijfaaNa5
import Derived.Test.YtbfbfimmhpijfaaS8JR
import Derived.Test.YtbfbfimmhpijfaaNa0
import Derived.Test.YtbfbfimmhpijfaaNa3

/- Chapter 8: the model's l8Join. -/
namespace Go.Proofs.Ytbfbfimmhpijfaa
open Go.RowKit Go.Deep

/-- A message in block g that is being put together. -/
def MB (w : World) (g : Nat) (s : Int) (u : Bool) (l : List Int) : Prop :=
  ∃ v, Blk w g 25 #[.int .i64 s, .bool u, v] ∧ w.ownsRow (g + 1) 5 1 v l.length (l.map (Value.int .u8))
theorem MB.nil {w : World} {g : Nat} {s : Int} {u : Bool} (h : Blk w g 25 #[.int .i64 s, .bool u, .slice none 0 0]) : MB w g s u [] := ⟨_, h, rfl, .inl ⟨rfl, rfl⟩⟩
theorem MB.below {w w' : World} {g : Nat} {s : Int} {u : Bool} {l : List Int} (h : MB w g s u l) (hb : Below w.heap.size w w') : MB w' g s u l := by
  obtain ⟨v, h1, h2⟩ := h
  exact ⟨v, h1.below hb, own_below0 h2 hb⟩
theorem MB.own {w : World} {g : Nat} {s : Int} {u : Bool} {l : List Int} (h : MB w g s u l) : ∃ A c, Blk w g 25 #[.int .i64 s, .bool u, .slice A l.length c] ∧ OwV (g + 1) w.heap.size w (.bs l) (.slice A l.length c) := by
  obtain ⟨v, h1, h2⟩ := h
  obtain ⟨A, c, rfl, ob, k⟩ := own_ob h2
  exact ⟨A, c, h1, Ob.owv ob (Nat.le_refl _) k⟩
theorem take_fl {r : List DataM} {j : Nat} (hj : j < r.length) : (r.take (j + 1)).flatMap DataM.Piece = (r.take j).flatMap DataM.Piece ++ r[j].Piece := by
  rw [List.take_succ_eq_append_getElem hj, List.flatMap_append]; simp
theorem getD_at {r : List DataM} {j : Nat} (hj : j < r.length) : r.getD j dat0 = r[j] := by
  rw [List.getD_eq_getElem?_getD, List.getElem?_eq_getElem hj]; rfl
theorem sub_len {r : List DataM} {j : Nat} (h : ∀ x ∈ r, pdF x = 0) (hr : r.length ≤ 100) (hj : j ≤ r.length) : ((r.take j).flatMap DataM.Piece).length ≤ 10000 := by
  have h1 := jn_len (r := r.take j) (fun x hx => h x (List.mem_of_mem_take hx))
  have h2 : (r.take j).length ≤ 100 := by rw [List.length_take]; omega
  omega
set_option maxRecDepth 100000 in
set_option maxHeartbeats 4000000 in
theorem l8Join_any (r : List DataM) (v : Value) (u : World) (h : Rd u (st_Data r) v) (h1 : 1 ≤ r.length) (h2 : r.length ≤ 100) (h3 : ∀ x ∈ r, pdF x = 0) : Calls Try.prog 59 #[v] u (Res u (jnM r).vs) := by
  obtain ⟨ga, oa, c, rfl, hga, E0⟩ := el_Data h (j := 0) (by omega)
  rw [Nat.zero_mul, Nat.add_zero] at E0
  obtain ⟨A0, cA0, q0, q1, q2, q3, q4, q5, q6, _⟩ := mem_Data E0
  have HEL := hidH (fun (j : Nat) (hj : j < r.length) => show ∃ A cA, u.cell? ⟨ga, oa + j * 7 + 6, none⟩ = some (.slice A r[j].Piece.length cA) ∧ Bs u A r[j].Piece by
    obtain ⟨g', o', c', e, _, E⟩ := el_Data h hj
    injection e with e1 e2 e3
    injection e1 with e1
    injection e1 with e1 e4
    subst e1 e4
    obtain ⟨A, cA, _, _, _, _, _, _, z6, z⟩ := mem_Data E
    exact ⟨A, cA, z6, bsOf z⟩)
  have hm : (r.length : Int) ≤ 9223372036854775807 := by omega
  have hs0 : r[0].Stream = (jnM r).Stream := by simp only [jnM]; rw [getD_at (by omega)]
  have hu0 : r[0].Unordered = (jnM r).Unordered := by simp only [jnM]; rw [getD_at (by omega)]
  have hl0 : r.flatMap DataM.Piece = (jnM r).Bytes := rfl
  rw [hs0] at q1
  rw [hu0] at q5
  obtain ⟨M, hM⟩ : ∃ M, jnM r = M := ⟨_, rfl⟩
  rw [hM] at q1 q5 hl0 ⊢
  have HL := hidH hl0
  have HPD := hidH (fun j hj => sub_len (r := r) (j := j) h3 h2 hj)
  have B1 := bal (Below.refl u.heap.size u) (.cells #[.int .i64 0, .bool false, .slice none 0 0] 25)
  have R1 := Blk.new u 25 #[.int .i64 0, .bool false, .slice none 0 0]
  have s1 : (u.alloc (.cells #[.int .i64 0, .bool false, .slice none 0 0] 25)).heap.size = u.heap.size + 1 := World.size_alloc _ _
  obtain ⟨w1, hw1⟩ : ∃ w1, u.alloc (.cells #[.int .i64 0, .bool false, .slice none 0 0] 25) = w1 := ⟨_, rfl⟩
  rw [hw1] at B1 R1 s1
  have HW1 := hidH hw1
  have z1 := (B1.cell (p := ⟨ga, oa + 1, none⟩) hga).trans q1
  have z5 := (B1.cell (p := ⟨ga, oa + 5, none⟩) hga).trans q5
  have HB1 := hidH B1
  have HR1 := hidH R1
  have hga1 : ga < w1.heap.size := by omega
  have hn0 : (0 : Int) < (r.length : Int) := by omega
  clear h h3 hw1 q0 q1 q2 q3 q4 q5 q6 B1 R1 hs0 hu0 hl0 hM E0
  go_enter Try.func59, Try.ntmps59
  go_wp2_with fail
  rw [HW1.out]
  refine wp_region_any (by kernel_rfl) ?_
  refine regJ1 _ w1 ga oa r.length c M.Stream M.Unordered hga1 z1 z5 hn0 (by kernel_rfl) (by kernel_rfl) (by kernel_rfl) rfl (fun h => by cases h) (Below.refl _ _).drew ?_
  intros
  rename_i w2 b2 hT
  obtain ⟨g, rfl, KM, hgg⟩ := hT
  have hgu : u.heap.size < g := by omega
  have HM2 := hidH (MB.nil KM)
  have HB2 := hidH (btr HB1.out b2)
  have HR2 := hidH (HR1.out.below b2)
  have hg2 := KM.lt
  have HG2 := hidH hg2
  clear KM b2 z1 z5 hga1 HB1 HR1 HW1 hg2
  go_wp2
  go_loopw [4] (fun i wr => ∃ j : Nat, j ≤ r.length ∧ i = .int .i64 j ∧ MB wr g M.Stream M.Unordered ((r.take j).flatMap DataM.Piece) ∧ Below g w2 wr) (fun i _ => r.length - (intOf i).toNat)
  case atStart => exact ⟨0, by omega, rfl, by simpa using HM2.out, Below.refl _ _⟩
  case round =>
    obtain ⟨j, hj, rfl, hMB, hBg⟩ := hrel
    by_cases hlt : j < r.length
    · have hj0 : (0 : Int) ≤ (j : Int) := by omega
      have hj1 : (j : Int) < (r.length : Int) := by omega
      obtain ⟨A, cA, y6, yb⟩ := HEL.out j hlt
      have hU : ∀ W, Below g wr W → Below u.heap.size u W := fun W hW => (HB2.out.trans (hBg.mono (Nat.le_of_lt hgu))).trans (hW.mono (Nat.le_of_lt hgu))
      have HC := hidH (fun (W : World) (hW : Below g wr W) => ((hU W hW).cell (p := ⟨ga, oa + j * 7 + 6, none⟩) hga).trans y6)
      have HA := hidH (fun (W : World) (hW : Below g wr W) => bs_below yb (hU W hW))
      have hlen := HPD.out j hj
      have hlen2 := HPD.out (j + 1) hlt
      have hfl := take_fl hlt
      rw [hfl, List.length_append] at hlen2
      obtain ⟨l, hl⟩ : ∃ l, (r.take j).flatMap DataM.Piece = l := ⟨_, rfl⟩
      obtain ⟨m, hmm⟩ : ∃ m, r[j].Piece = m := ⟨_, rfl⟩
      rw [hl] at hMB hlen hlen2 hfl
      rw [hmm] at hlen2 hfl
      simp only [hmm] at HC HA
      have HFL := hidH hfl
      have hsum : l.length + m.length ≤ 4000000 := by omega
      obtain ⟨v0, K0, O0⟩ := hMB
      have HK0 := hidH (K0.below (Below.refl _ wr).drew)
      have HO0 := hidH (own_below0 O0 (Below.refl _ wr).drew)
      have HBG := hidH hBg
      have hgl : g + 1 ≤ wr.heap.size := K0.lt
      clear hU y6 yb hl hmm K0 O0 hBg hfl hlen hlen2
      go_wp2_with fail
      refine wp_region_any (by kernel_rfl) ?_
      refine regJ5 _ _ _ _ _ _ _ _ _ _ _ _ _ _ _ _ _ _ _ _ _ _ _ _ _ _ _ wr g ga oa r.length c j cA A M.Stream M.Unordered v0 l m hj0 hj1 HC.out HA.out hsum (by kernel_rfl) (by kernel_rfl) (by kernel_rfl) rfl ⟨(fun h => by cases h), (fun h => by cases h)⟩ (fun _ => HK0.out) (fun _ => HO0.out) (Below.refl g wr).drew hgl ?_
      intros
      rename_i w9 b9 l9 hT
      obtain ⟨v9, K9, O9⟩ := hT
      have HM9 := hidH (show MB w9 g M.Stream M.Unordered ((r.take (j + 1)).flatMap DataM.Piece) from by rw [HFL.out]; exact ⟨v9, K9, by simpa using O9⟩)
      have HB9 := hidH (HBG.out.trans b9)
      clear K9 O9 b9 l9 HC HA HK0 HO0 HBG
      go_wp2
      go_roundw
      case rel => exact ⟨j + 1, by omega, by go_num, HM9.out, HB9.out⟩
      case measure => simp [intOf]; omega
    · obtain rfl : j = r.length := by omega
      rw [List.take_length, HL.out] at hMB
      obtain ⟨A, cA, KM, OM⟩ := hMB.own
      have R9 := (hBg.block u.heap.size hgu).trans HR2.out
      have R9 : Blk wr u.heap.size 25 #[.int .i64 0, .bool false, .slice none 0 0] := R9
      have HBU := hidH (HB2.out.trans (hBg.mono (Nat.le_of_lt hgu)))
      have y0 := KM.cell 0
      have y1 := KM.cell 1
      have y2 := KM.cell 2
      have x0 := R9.cell 0
      have x1 := R9.cell 1
      have x2 := R9.cell 2
      have f0 := R9.frozen 0
      have f1 := R9.frozen 1
      have f2 := R9.frozen 2
      have hr := R9.lt
      have hgl := KM.lt
      simp only [List.getElem?_toArray, List.getElem?_cons_succ, List.getElem?_cons_zero] at x0 x1 x2 y0 y1 y2
      have HOM := hidH OM
      clear KM OM R9 hMB hBg hlt hj
      go_wp2
      have PF : ∀ a b c' : Value, OwN u.heap.size (((wr.setCell ⟨u.heap.size, 0, none⟩ a).setCell ⟨u.heap.size, 1, none⟩ b).setCell ⟨u.heap.size, 2, none⟩ c').heap.size (((wr.setCell ⟨u.heap.size, 0, none⟩ a).setCell ⟨u.heap.size, 1, none⟩ b).setCell ⟨u.heap.size, 2, none⟩ c') M.vs [.int .i64 M.Stream, .bool M.Unordered, .slice A M.Bytes.length cA] := fun a b c' =>
        OwN.int _ (OwN.bool _ (OwN.cons ((((HOM.out.win (set_win _ u.heap.size 0 a) (.inr (by omega))).win (set_win _ u.heap.size 1 b) (.inr (by omega))).win (set_win _ u.heap.size 2 c') (.inr (by omega))).mono (B' := u.heap.size) (by omega) (by simp [World.setCell]) (Nat.le_refl _)) (OwN.nil (Nat.le_refl _)) (by simp [World.setCell]; omega) (Nat.le_refl _)))
      exact bodyPost_ret (v := .agg #[.int .i64 M.Stream, .bool M.Unordered, .slice A M.Bytes.length cA]) (by simp [results, Try.results59, go_sem, x0, x1, x2]) rfl ⟨_, rfl, PF _ _ _, bst (bst (bst HBU.out (Nat.le_refl _) _) (Nat.le_refl _) _) (Nat.le_refl _) _⟩
end Go.Proofs.Ytbfbfimmhpijfaa

/- Chapter 8: the model's JoinPieces. (WRITTEN BY tools/join8.py) -/
namespace Go.Proofs.Ytbfbfimmhpijfaa
open Go.RowKit Go.Deep

theorem no_first {r : List DataM} (h : (r.getD 0 dat0).First ≠ true) : ¬ whole r := fun w => h w.1
theorem no_last {r : List DataM} {k : Nat} (hk : r.length = k + 1) (h : (r.getD k dat0).Last ≠ true) : ¬ whole r := fun w => h (by have := w.2.1; rwa [hk] at this)
theorem no_fits {r : List DataM} {k j : Nat} (hk : r.length = k + 1) (hj : j < k) (h : ¬ fits (r.getD j dat0) (r.getD (j + 1) dat0)) : ¬ whole r := fun w => h (w.2.2 j (by omega))
theorem is_whole {r : List DataM} {k : Nat} (hk : r.length = k + 1) (h0 : (r.getD 0 dat0).First = true) (h1 : (r.getD k dat0).Last = true) (h2 : ∀ t, t < k → fits (r.getD t dat0) (r.getD (t + 1) dat0)) : whole r := ⟨h0, by rw [hk]; exact h1, fun i hi => h2 i (by omega)⟩
set_option maxRecDepth 100000 in
set_option maxHeartbeats 8000000 in
theorem jn_spec (r : List DataM) (v : Value) (u : World) (h : Rd u (st_Data r) v) (_ : WfV (st_Data r)) (_ : tot (st_Data r) ≤ 1048576) : Calls Try.prog 15 #[v] u (Res u (jnR r).vs) := by
  have B1 := bal (Below.refl u.heap.size u) (.cells #[.int .i64 0, .int .i64 0, .bool false, .slice none 0 0] 34)
  have R1 := Blk.new u 34 #[.int .i64 0, .int .i64 0, .bool false, .slice none 0 0]
  have s1 : (u.alloc (.cells #[.int .i64 0, .int .i64 0, .bool false, .slice none 0 0] 34)).heap.size = u.heap.size + 1 := World.size_alloc _ _
  obtain ⟨w1, hw1⟩ : ∃ w1, u.alloc (.cells #[.int .i64 0, .int .i64 0, .bool false, .slice none 0 0] 34) = w1 := ⟨_, rfl⟩
  rw [hw1] at B1 R1 s1
  have HW1 := hidH hw1
  have HB1 := hidH B1
  have HR1 := hidH R1
  clear hw1 B1 R1
  by_cases hlen : 1 ≤ r.length ∧ r.length ≤ 100
  case neg =>
    obtain ⟨A, c, rfl⟩ := st_Data_sh h
    have hm : (r.length : Int) ≤ 9223372036854775807 := Rd.st_len h
    clear h
    have HE := hidH (jnR_bad (jnF_many hlen) (by decide))
    clear HB1 HR1 HW1 s1
    by_cases hl1 : r.length < 1
    · have hl1' : (r.length : Int) < 1 := by omega
      clear hl1 hlen
      go_enter Try.func15, Try.ntmps15
      go_wp2
      exact bodyPost_ret (v := .agg #[.int .i64 2, .int .i64 0, .bool false, .slice none 0 0]) (by simp [results, Try.results15, go_sem]) rfl ⟨_, rfl, by rw [HE.out]; exact OwN.int _ (OwN.int 0 (OwN.bool false (OwN.empty _ (Nat.le_refl _)))), bal (Below.refl _ _) _⟩
    · have hl1' : ¬ (r.length : Int) < 1 := by omega
      have hl2' : (100 : Int) < (r.length : Int) := by omega
      clear hl1 hlen
      go_enter Try.func15, Try.ntmps15
      go_wp2
      exact bodyPost_ret (v := .agg #[.int .i64 2, .int .i64 0, .bool false, .slice none 0 0]) (by simp [results, Try.results15, go_sem]) rfl ⟨_, rfl, by rw [HE.out]; exact OwN.int _ (OwN.int 0 (OwN.bool false (OwN.empty _ (Nat.le_refl _)))), bal (Below.refl _ _) _⟩
  obtain ⟨k, hk⟩ : ∃ k, r.length = k + 1 := ⟨r.length - 1, by omega⟩
  obtain ⟨ga, oa, c, e, hga, E0⟩ := el_Data h (j := 0) (by omega)
  rw [hk] at e
  subst e
  have HEL := hidH (fun (j : Nat) (hj : j < r.length) (W : World) (hW : Below u.heap.size u W) => show RdL W r[j].vs ga (oa + j * 7) by
    obtain ⟨g', o', c', e, _, E⟩ := el_Data h hj
    injection e with e1 e2 e3
    injection e1 with e1
    injection e1 with e1 e4
    subst e1 e4
    exact RdL.below hW _ hga E)
  have HH := hidH (fun (W : World) (hW : Below u.heap.size u W) => Rd.below hW _ h)
  have HLEN := hidH hlen
  have HK := hidH hk
  have hk1 : ¬ ((k : Int) + 1 < 1) := by omega
  have hk2 : ¬ ((100 : Int) < (k : Int) + 1) := by omega
  clear h hlen hk E0
  go_enter Try.func15, Try.ntmps15
  go_wp2_with fail
  rw [HW1.out]
  clear HW1
  go_wp2
  go_loopw [3] (fun i wr => ∃ j : Nat, j ≤ k + 1 ∧ i = .int .i64 j ∧ pdsF (r.take j) = 0 ∧ Below w1.heap.size w1 wr) (fun i _ => k + 1 - (intOf i).toNat)
  case atStart => exact ⟨0, by omega, rfl, by simp [pdsF], Below.refl _ _⟩
  case round =>
    obtain ⟨j, hj, rfl, hP, hB⟩ := hrel
    by_cases hlt : j < k + 1
    · have hj0 : (0 : Int) ≤ (j : Int) := by omega
      have hj1 : (j : Int) < (k : Int) + 1 := by omega
      have hjr : j < r.length := by have := HK.out; omega
      have HF := hidH (pdF_any ga (oa + j * 7) r[j] wr (HEL.out j hjr wr (btr HB1.out hB)))
      have HT := hidH (pdsF_take r j hjr hP)
      have HN := hidH (fun (z : pdF r[j] ≠ 0) => show jnR r = ⟨pdF r[j], 0, false, []⟩ by
        have z2 := pdsF_first r j hjr hP z
        exact jnR_bad ((jnF_data HLEN.out (by rw [z2]; exact z)).trans z2) z)
      have HB := hidH hB
      obtain ⟨f, hf⟩ : ∃ f, pdF r[j] = f := ⟨_, rfl⟩
      simp only [hf] at HF HT HN
      clear hP hB hf
      go_wp2_with fail
      refine HF.out.mono ?_
      rintro e w3 ⟨rfl, b3⟩
      have HB3 := hidH (btr HB.out b3)
      clear b3 HF
      by_cases hz : f = 0
      · have hz2 : (f != 0) = false := by rw [bne_eq_false_iff_eq]; exact hz
        have HZ := hidH (HT.out.trans hz)
        clear hz HN HT
        go_wp2
        go_roundw
        case rel => exact ⟨j + 1, by omega, by go_num, HZ.out, HB3.out⟩
        case measure => simp [intOf]; omega
      · have hz2 : (f != 0) = true := by rw [bne_iff_ne]; exact hz
        have HE := hidH (HN.out hz)
        have HBU := hidH (btr HB1.out HB3.out)
        have R9 := HR1.out.below HB3.out
        have x0 := R9.cell 0
        have x1 := R9.cell 1
        have x2 := R9.cell 2
        have x3 := R9.cell 3
        have v0 := R9.frozen 0
        have v1 := R9.frozen 1
        have v2 := R9.frozen 2
        have v3 := R9.frozen 3
        simp only [List.getElem?_toArray, List.getElem?_cons_succ, List.getElem?_cons_zero] at x0 x1 x2 x3
        have hr9 := R9.lt
        clear R9
        clear hz HN HT HB HB3
        go_wp2
        exact bodyPost_ret (v := .agg #[.int .i64 f, .int .i64 0, .bool false, .slice none 0 0]) (by simp [results, Try.results15, go_sem, x0, x1, x2, x3]) rfl ⟨_, rfl, by rw [HE.out]; exact OwN.int _ (OwN.int 0 (OwN.bool false (OwN.empty _ (Nat.le_refl _)))), bst (bst (bst (bst HBU.out (Nat.le_refl _) _) (Nat.le_refl _) _) (Nat.le_refl _) _) (Nat.le_refl _) _⟩
    · obtain rfl : j = k + 1 := by omega
      have hP2 : pdsF r = 0 := by have := HK.out; rwa [← this, List.take_length] at hP
      have HP := hidH hP2
      have HALL := hidH (pdsF_all r hP2)
      have HB := hidH hB
      have hr0 : 0 < r.length := by have := HK.out; omega
      have hrk : k < r.length := by have := HK.out; omega
      obtain ⟨_, _, _, _, _, a3, _, _, _, _⟩ := mem_Data (HEL.out 0 hr0 wr (btr HB1.out hB))
      obtain ⟨_, _, _, _, _, _, b4, _, _, _⟩ := mem_Data (HEL.out k hrk wr (btr HB1.out hB))
      rw [Nat.zero_mul, Nat.add_zero, ← getD_at hr0] at a3
      rw [← getD_at hrk] at b4
      have HWH := hidH (fun (t : whole r) => jnF_msg HLEN.out hP2 t)
      have HNW := hidH (fun (t : ¬ whole r) => jnR_bad (jnF_form HLEN.out hP2 t) (by decide))
      have hk0 : (0 : Int) ≤ (k : Int) := by omega
      have hk3 : (0 : Int) < (k : Int) + 1 := by omega
      have hk4 : (k : Int) < (k : Int) + 1 := by omega
      clear hP hP2 hB hlt hj
      by_cases e0 : (r.getD 0 dat0).First = true
      case neg =>
        have HE := hidH (HNW.out (no_first e0))
        rw [show (r.getD 0 dat0).First = false by simpa using e0] at a3
        have HBU := hidH (btr HB1.out HB.out)
        have R9 := HR1.out.below HB.out
        have x0 := R9.cell 0
        have x1 := R9.cell 1
        have x2 := R9.cell 2
        have x3 := R9.cell 3
        have v0 := R9.frozen 0
        have v1 := R9.frozen 1
        have v2 := R9.frozen 2
        have v3 := R9.frozen 3
        simp only [List.getElem?_toArray, List.getElem?_cons_succ, List.getElem?_cons_zero] at x0 x1 x2 x3
        have hr9 := R9.lt
        clear R9
        clear e0 HWH HNW b4 HB
        go_wp2
        exact bodyPost_ret (v := .agg #[.int .i64 1, .int .i64 0, .bool false, .slice none 0 0]) (by simp [results, Try.results15, go_sem, x0, x1, x2, x3]) rfl ⟨_, rfl, by rw [HE.out]; exact OwN.int _ (OwN.int 0 (OwN.bool false (OwN.empty _ (Nat.le_refl _)))), bst (bst (bst (bst HBU.out (Nat.le_refl _) _) (Nat.le_refl _) _) (Nat.le_refl _) _) (Nat.le_refl _) _⟩
      rw [e0] at a3
      by_cases e1 : (r.getD k dat0).Last = true
      case neg =>
        have HE := hidH (HNW.out (no_last HK.out e1))
        rw [show (r.getD k dat0).Last = false by simpa using e1] at b4
        have HBU := hidH (btr HB1.out HB.out)
        have R9 := HR1.out.below HB.out
        have x0 := R9.cell 0
        have x1 := R9.cell 1
        have x2 := R9.cell 2
        have x3 := R9.cell 3
        have v0 := R9.frozen 0
        have v1 := R9.frozen 1
        have v2 := R9.frozen 2
        have v3 := R9.frozen 3
        simp only [List.getElem?_toArray, List.getElem?_cons_succ, List.getElem?_cons_zero] at x0 x1 x2 x3
        have hr9 := R9.lt
        clear R9
        clear e0 e1 HWH HNW HB
        go_wp2
        exact bodyPost_ret (v := .agg #[.int .i64 1, .int .i64 0, .bool false, .slice none 0 0]) (by simp [results, Try.results15, go_sem, x0, x1, x2, x3]) rfl ⟨_, rfl, by rw [HE.out]; exact OwN.int _ (OwN.int 0 (OwN.bool false (OwN.empty _ (Nat.le_refl _)))), bst (bst (bst (bst HBU.out (Nat.le_refl _) _) (Nat.le_refl _) _) (Nat.le_refl _) _) (Nat.le_refl _) _⟩
      rw [e1] at b4
      have HE0 := hidH e0
      have HE1 := hidH e1
      clear e0 e1
      go_wp2
      clear a3 b4
      go_loopw [5] (fun i wr2 => ∃ j : Nat, j ≤ k ∧ i = .int .i64 ((j : Int) + 1) ∧ (∀ t, t < j → fits (r.getD t dat0) (r.getD (t + 1) dat0)) ∧ Below w1.heap.size w1 wr2) (fun i _ => k + 1 - (intOf i).toNat)
      case atStart => exact ⟨0, by omega, by simp, fun t ht => by omega, HB.out⟩
      case round =>
        obtain ⟨j, hj, rfl, hFi, hB⟩ := hrel
        by_cases hlt : j < k
        · have hj0 : (0 : Int) ≤ (j : Int) := by omega
          have hj1 : (j : Int) + 1 < (k : Int) + 1 := by omega
          have hj2 : (j : Int) < (k : Int) + 1 := by omega
          have hj3 : (0 : Int) ≤ (j : Int) + 1 := by omega
          have hja : j < r.length := by have := HK.out; omega
          have hjb : j + 1 < r.length := by have := HK.out; omega
          have hz := (pdF_zero (HALL.out r[j] (List.getElem_mem hja))).1
          have HC := hidH (fun n => fits_any r[j] r[j + 1] ga (oa + j * 7) ga (oa + (j + 1) * 7) (wr.drewN n) (HEL.out j hja _ (below_drewN (btr HB1.out hB) n)) (HEL.out (j + 1) hjb _ (below_drewN (btr HB1.out hB) n)) hz.1 hz.2)
          have HNF := hidH (fun (t : ¬ fits r[j] r[j + 1]) => HNW.out (no_fits HK.out hlt (by rw [getD_at hja, getD_at hjb]; exact t)))
          have HYF := hidH (fun (t : fits r[j] r[j + 1]) => show ∀ t, t < j + 1 → fits (r.getD t dat0) (r.getD (t + 1) dat0) from fun i hi => by
            by_cases e : i = j
            · subst e; rw [getD_at hja, getD_at hjb]; exact t
            · exact hFi i (by omega))
          have HBB := hidH hB
          obtain ⟨b, hb⟩ : ∃ b, fitsB r[j] r[j + 1] = b := ⟨_, rfl⟩
          simp only [hb] at HC
          have HBV := hidH hb
          clear hFi hB hb hz
          cases b
          · have HE := hidH (HNF.out (fun t => by have := fitsB_yes t; rw [HBV.out] at this; cases this))
            clear HNF HYF HBV
            go_wp2
            go_quiet ((go_at_call 58; exact Calls.quiet_of (HC.out _)))
            have HBD := hidH (below_drewN HBB.out nq)
            have HBU := hidH (btr HB1.out HBD.out)
            have R9 := HR1.out.below HBD.out
            have x0 := R9.cell 0
            have x1 := R9.cell 1
            have x2 := R9.cell 2
            have x3 := R9.cell 3
            have v0 := R9.frozen 0
            have v1 := R9.frozen 1
            have v2 := R9.frozen 2
            have v3 := R9.frozen 3
            simp only [List.getElem?_toArray, List.getElem?_cons_succ, List.getElem?_cons_zero] at x0 x1 x2 x3
            have hr9 := R9.lt
            clear R9
            go_wp2
            exact bodyPost_ret (v := .agg #[.int .i64 1, .int .i64 0, .bool false, .slice none 0 0]) (by simp [results, Try.results15, go_sem, x0, x1, x2, x3]) rfl ⟨_, rfl, by rw [HE.out]; exact OwN.int _ (OwN.int 0 (OwN.bool false (OwN.empty _ (Nat.le_refl _)))), bst (bst (bst (bst HBU.out (Nat.le_refl _) _) (Nat.le_refl _) _) (Nat.le_refl _) _) (Nat.le_refl _) _⟩
          · have HY := hidH (HYF.out (fitsB_iff.1 HBV.out))
            clear HNF HYF HBV
            go_wp2
            go_quiet ((go_at_call 58; exact Calls.quiet_of (HC.out _)))
            go_wp2
            exact ⟨⟨j + 1, by omega, by go_num, HY.out, below_drewN HBB.out _⟩, by simp [intOf]; omega⟩
        · obtain rfl : j = k := by omega
          have HW := hidH (HWH.out (is_whole HK.out HE0.out HE1.out hFi))
          have HJ := hidH (l8Join_any r _ wr (HH.out wr (btr HB1.out hB)) HLEN.out.1 HLEN.out.2 HALL.out)
          have hB2 := hB
          have HBB := hidH hB
          have HML := hidH (show (jnM r).Bytes.length ≤ 10000 from by have := jn_len HALL.out; have := HLEN.out.2; show (r.flatMap DataM.Piece).length ≤ _; omega)
          have HOK := hidH (fun (z : msF (jnM r) = 0) => jnR_ok (HW.out.trans z))
          have HNO := hidH (fun (z : msF (jnM r) ≠ 0) => jnR_bad HW.out z)
          obtain ⟨M, hM⟩ : ∃ M, jnM r = M := ⟨_, rfl⟩
          simp only [hM] at HJ HOK HNO
          clear hM hB hB2 hFi hlt HW HML HNW HWH
          go_wp2_with fail
          refine HJ.out.mono ?_
          rintro e w4 ⟨vs, rfl, O4, b4⟩
          obtain ⟨A4, c4, rfl⟩ := shape_Message O4.rd
          have B5 := bal (Below.refl w4.heap.size w4) (.cells #[.int .i64 M.Stream, .bool M.Unordered, .slice A4 M.Bytes.length c4] 25)
          have K5 := Blk.new w4 25 #[.int .i64 M.Stream, .bool M.Unordered, .slice A4 M.Bytes.length c4]
          have HO5 := hidH (O4.below B5)
          have HB5 := hidH (btr (btr HBB.out b4) B5)
          have HS5 := hidH (b4.size)
          obtain ⟨w5, hw5⟩ : ∃ w5, w4.alloc (.cells #[.int .i64 M.Stream, .bool M.Unordered, .slice A4 M.Bytes.length c4] 25) = w5 := ⟨_, rfl⟩
          rw [hw5] at K5 HO5 HB5
          have HW5 := hidH hw5
          have HK5 := hidH K5
          have y0 := K5.cell 0
          have y1 := K5.cell 1
          have y2 := K5.cell 2
          simp only [List.getElem?_toArray, List.getElem?_cons_succ, List.getElem?_cons_zero] at y0 y1 y2
          have g5 := K5.lt
          clear O4 B5 K5 hw5 b4 HJ
          go_wp2_with fail
          rw [HW5.out]
          clear HW5
          go_wp2_with fail
          refine (msFw_spec M _ w5 HO5.out.rd).mono ?_
          rintro e w6 ⟨rfl, b6⟩
          have HO6 := hidH (HO5.out.below b6)
          have HB6 := hidH (btr HB5.out b6)
          have K6 := HK5.out.below b6
          clear y0 y1 y2 g5
          have y0 := K6.cell 0
          have y1 := K6.cell 1
          have y2 := K6.cell 2
          simp only [List.getElem?_toArray, List.getElem?_cons_succ, List.getElem?_cons_zero] at y0 y1 y2
          have g5 := K6.lt
          clear K6
          have HBU := hidH (btr HB1.out HB6.out)
          have R9 := HR1.out.below HB6.out
          have x0 := R9.cell 0
          have x1 := R9.cell 1
          have x2 := R9.cell 2
          have x3 := R9.cell 3
          have v0 := R9.frozen 0
          have v1 := R9.frozen 1
          have v2 := R9.frozen 2
          have v3 := R9.frozen 3
          simp only [List.getElem?_toArray, List.getElem?_cons_succ, List.getElem?_cons_zero] at x0 x1 x2 x3
          have hr9 := R9.lt
          clear R9
          have hsz := HBB.out.size
          have hsz4 := HS5.out
          have hsz6 := b6.size
          obtain ⟨f, hf⟩ : ∃ f, msF M = f := ⟨_, rfl⟩
          simp only [hf] at HOK HNO
          rw [hf]
          clear hf
          by_cases hz : f = 0
          · have hz2 : (f != 0) = false := by rw [bne_eq_false_iff_eq]; exact hz
            have HE := hidH (HOK.out hz)
            clear hz HOK HNO b6 HB6
            go_wp2
            have PF : ∀ a b c d : Value, OwN u.heap.size ((((w6.setCell ⟨u.heap.size, 0, none⟩ a).setCell ⟨u.heap.size, 1, none⟩ b).setCell ⟨u.heap.size, 2, none⟩ c).setCell ⟨u.heap.size, 3, none⟩ d).heap.size ((((w6.setCell ⟨u.heap.size, 0, none⟩ a).setCell ⟨u.heap.size, 1, none⟩ b).setCell ⟨u.heap.size, 2, none⟩ c).setCell ⟨u.heap.size, 3, none⟩ d) (.int 0 :: M.vs) [.int .i64 0, .int .i64 M.Stream, .bool M.Unordered, .slice A4 M.Bytes.length c4] := fun a b c d =>
              OwN.int 0 (((((HO6.out.win (set_win _ u.heap.size 0 a) (.inr (by omega))).win (set_win _ u.heap.size 1 b) (.inr (by omega))).win (set_win _ u.heap.size 2 c) (.inr (by omega))).win (set_win _ u.heap.size 3 d) (.inr (by omega))).mono (B' := u.heap.size) (by omega) (by simp [World.setCell]; omega) (Nat.le_refl _))
            exact bodyPost_ret (v := .agg #[.int .i64 0, .int .i64 M.Stream, .bool M.Unordered, .slice A4 M.Bytes.length c4]) (by simp [results, Try.results15, go_sem, x0, x1, x2, x3]) rfl ⟨_, rfl, by rw [HE.out]; exact PF _ _ _ _, bst (bst (bst (bst HBU.out (Nat.le_refl _) _) (Nat.le_refl _) _) (Nat.le_refl _) _) (Nat.le_refl _) _⟩
          · have hz2 : (f != 0) = true := by rw [bne_iff_ne]; exact hz
            have HE := hidH (HNO.out hz)
            clear hz HOK HNO b6 HB6
            go_wp2
            exact bodyPost_ret (v := .agg #[.int .i64 f, .int .i64 0, .bool false, .slice none 0 0]) (by simp [results, Try.results15, go_sem, x0, x1, x2, x3]) rfl ⟨_, rfl, by rw [HE.out]; exact OwN.int _ (OwN.int 0 (OwN.bool false (OwN.empty _ (Nat.le_refl _)))), bst (bst (bst (bst HBU.out (Nat.le_refl _) _) (Nat.le_refl _) _) (Nat.le_refl _) _) (Nat.le_refl _) _⟩
end Go.Proofs.Ytbfbfimmhpijfaa
