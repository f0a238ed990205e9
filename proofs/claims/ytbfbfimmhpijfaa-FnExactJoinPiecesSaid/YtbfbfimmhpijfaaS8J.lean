/- Chapter 8: the model's l8Join. -/
import Derived.Test.YtbfbfimmhpijfaaS8JF
import Derived.Test.YtbfbfimmhpijfaaS8JR
import Derived.Test.YtbfbfimmhpijfaaDrawAt
namespace Go.Proofs.Ytbfbfimmhpijfaa
open Go.RowKit Go.Deep

/-- A message in block g that is being put together. -/
def MB (w : World) (g : Nat) (s : Int) (u : Bool) (l : List Int) : Prop :=
  ∃ v, Blk w g 25 #[.int .i64 s, .bool u, v] ∧ w.ownsRow (g + 1) 5 1 v l.length (l.map (Value.int .u8))
theorem MB.nil {w : World} {g : Nat} {s : Int} {u : Bool} (h : Blk w g 25 #[.int .i64 s, .bool u, .slice none 0 0]) : MB w g s u [] := ⟨_, h, rfl, .inl ⟨rfl, rfl⟩⟩
theorem MB.below {w w' : World} {g : Nat} {s : Int} {u : Bool} {l : List Int} (h : MB w g s u l) (hb : Below w.heap.size w w') : MB w' g s u l := by
  obtain ⟨v, h1, h2⟩ := h
  exact ⟨v, h1.below hb, own_below0 h2 hb⟩
theorem MB.own {w : World} {g : Nat} {s : Int} {u : Bool} {l : List Int} (h : MB w g s u l) : ∃ A c, Blk w g 25 #[.int .i64 s, .bool u, .slice A l.length c] ∧ OwV (g + 1) w.heap.size w (.bs l) (.slice A l.length c) := by
  obtain ⟨v, h1, h2⟩ := h
  obtain ⟨A, c, rfl, ob, k⟩ := own_ob h2
  exact ⟨A, c, h1, Ob.owv ob (Nat.le_refl _) k⟩
theorem take_fl {r : List DataM} {j : Nat} (hj : j < r.length) : (r.take (j + 1)).flatMap DataM.Piece = (r.take j).flatMap DataM.Piece ++ r[j].Piece := by
  rw [List.take_succ_eq_append_getElem hj, List.flatMap_append]; simp
theorem getD_at {r : List DataM} {j : Nat} (hj : j < r.length) : r.getD j dat0 = r[j] := by
  rw [List.getD_eq_getElem?_getD, List.getElem?_eq_getElem hj]; rfl
theorem sub_len {r : List DataM} {j : Nat} (h : ∀ x ∈ r, pdF x = 0) (hr : r.length ≤ 100) (hj : j ≤ r.length) : ((r.take j).flatMap DataM.Piece).length ≤ 10000 := by
  have h1 := jn_len (r := r.take j) (fun x hx => h x (List.mem_of_mem_take hx))
  have h2 : (r.take j).length ≤ 100 := by rw [List.length_take]; omega
  omega
set_option maxRecDepth 100000 in
set_option maxHeartbeats 4000000 in
theorem l8Join_any (r : List DataM) (v : Value) (u : World) (h : Rd u (st_Data r) v) (h1 : 1 ≤ r.length) (h2 : r.length ≤ 100) (h3 : ∀ x ∈ r, pdF x = 0) : Calls Try.prog 59 #[v] u (Res u (jnM r).vs) := by
  obtain ⟨ga, oa, c, rfl, hga, E0⟩ := el_Data h (j := 0) (by omega)
  rw [Nat.zero_mul, Nat.add_zero] at E0
  obtain ⟨A0, cA0, q0, q1, q2, q3, q4, q5, q6, _⟩ := mem_Data E0
  have HEL := hidH (fun (j : Nat) (hj : j < r.length) => show ∃ A cA, u.cell? ⟨ga, oa + j * 7 + 6, none⟩ = some (.slice A r[j].Piece.length cA) ∧ Bs u A r[j].Piece by
    obtain ⟨g', o', c', e, _, E⟩ := el_Data h hj
    injection e with e1 e2 e3
    injection e1 with e1
    injection e1 with e1 e4
    subst e1 e4
    obtain ⟨A, cA, _, _, _, _, _, _, z6, z⟩ := mem_Data E
    exact ⟨A, cA, z6, bsOf z⟩)
  have hm : (r.length : Int) ≤ 9223372036854775807 := by omega
  have hs0 : r[0].Stream = (jnM r).Stream := by simp only [jnM]; rw [getD_at (by omega)]
  have hu0 : r[0].Unordered = (jnM r).Unordered := by simp only [jnM]; rw [getD_at (by omega)]
  have hl0 : r.flatMap DataM.Piece = (jnM r).Bytes := rfl
  rw [hs0] at q1
  rw [hu0] at q5
  obtain ⟨M, hM⟩ : ∃ M, jnM r = M := ⟨_, rfl⟩
  rw [hM] at q1 q5 hl0 ⊢
  have HL := hidH hl0
  have HPD := hidH (fun j hj => sub_len (r := r) (j := j) h3 h2 hj)
  have B1 := bal (Below.refl u.heap.size u) (.cells #[.int .i64 0, .bool false, .slice none 0 0] 25)
  have R1 := Blk.new u 25 #[.int .i64 0, .bool false, .slice none 0 0]
  have s1 : (u.alloc (.cells #[.int .i64 0, .bool false, .slice none 0 0] 25)).heap.size = u.heap.size + 1 := World.size_alloc _ _
  obtain ⟨w1, hw1⟩ : ∃ w1, u.alloc (.cells #[.int .i64 0, .bool false, .slice none 0 0] 25) = w1 := ⟨_, rfl⟩
  rw [hw1] at B1 R1 s1
  have HW1 := hidH hw1
  have z1 := (B1.cell (p := ⟨ga, oa + 1, none⟩) hga).trans q1
  have z5 := (B1.cell (p := ⟨ga, oa + 5, none⟩) hga).trans q5
  have HB1 := hidH B1
  have HR1 := hidH R1
  have hga1 : ga < w1.heap.size := by omega
  have hn0 : (0 : Int) < (r.length : Int) := by omega
  clear h h3 hw1 q0 q1 q2 q3 q4 q5 q6 B1 R1 hs0 hu0 hl0 hM E0
  go_enter Try.func59, Try.ntmps59
  go_wp2_with fail
  rw [HW1.out]
  refine wp_region_any (by kernel_rfl) ?_
  refine regJ1 _ w1 ga oa r.length c M.Stream M.Unordered hga1 z1 z5 hn0 (by kernel_rfl) (by kernel_rfl) (by kernel_rfl) rfl (fun h => by cases h) (Below.refl _ _).drew ?_
  intros
  rename_i w2 b2 hT
  obtain ⟨g, rfl, KM, hgg⟩ := hT
  have hgu : u.heap.size < g := by omega
  have HM2 := hidH (MB.nil KM)
  have HB2 := hidH (btr HB1.out b2)
  have HR2 := hidH (HR1.out.below b2)
  have hg2 := KM.lt
  have HG2 := hidH hg2
  clear KM b2 z1 z5 hga1 HB1 HR1 HW1 hg2
  go_wp2
  go_loopw [4] (fun i wr => ∃ j : Nat, j ≤ r.length ∧ i = .int .i64 j ∧ MB wr g M.Stream M.Unordered ((r.take j).flatMap DataM.Piece) ∧ Below g w2 wr) (fun i _ => r.length - (intOf i).toNat)
  case atStart => exact ⟨0, by omega, rfl, by simpa using HM2.out, Below.refl _ _⟩
  case round =>
    obtain ⟨j, hj, rfl, hMB, hBg⟩ := hrel
    by_cases hlt : j < r.length
    · have hj0 : (0 : Int) ≤ (j : Int) := by omega
      have hj1 : (j : Int) < (r.length : Int) := by omega
      obtain ⟨A, cA, y6, yb⟩ := HEL.out j hlt
      have hU : ∀ W, Below g wr W → Below u.heap.size u W := fun W hW => (HB2.out.trans (hBg.mono (Nat.le_of_lt hgu))).trans (hW.mono (Nat.le_of_lt hgu))
      have HC := hidH (fun (W : World) (hW : Below g wr W) => ((hU W hW).cell (p := ⟨ga, oa + j * 7 + 6, none⟩) hga).trans y6)
      have HA := hidH (fun (W : World) (hW : Below g wr W) => bs_below yb (hU W hW))
      have hlen := HPD.out j hj
      have hlen2 := HPD.out (j + 1) hlt
      have hfl := take_fl hlt
      rw [hfl, List.length_append] at hlen2
      obtain ⟨l, hl⟩ : ∃ l, (r.take j).flatMap DataM.Piece = l := ⟨_, rfl⟩
      obtain ⟨m, hmm⟩ : ∃ m, r[j].Piece = m := ⟨_, rfl⟩
      rw [hl] at hMB hlen hlen2 hfl
      rw [hmm] at hlen2 hfl
      simp only [hmm] at HC HA
      have HFL := hidH hfl
      have hsum : l.length + m.length ≤ 4000000 := by omega
      obtain ⟨v0, K0, O0⟩ := hMB
      have HK0 := hidH (K0.below (Below.refl _ wr).drew)
      have HO0 := hidH (own_below0 O0 (Below.refl _ wr).drew)
      have HBG := hidH hBg
      have hgl : g + 1 ≤ wr.heap.size := K0.lt
      clear hU y6 yb hl hmm K0 O0 hBg hfl hlen hlen2
      go_wp2_with fail
      refine wp_region_any (by kernel_rfl) ?_
      refine regJ5 _ _ _ _ _ _ _ _ _ _ _ _ _ _ _ _ _ _ _ _ _ _ _ _ _ _ _ wr g ga oa r.length c j cA A M.Stream M.Unordered v0 l m hj0 hj1 HC.out HA.out hsum (by kernel_rfl) (by kernel_rfl) (by kernel_rfl) rfl ⟨(fun h => by cases h), (fun h => by cases h)⟩ (fun _ => HK0.out) (fun _ => HO0.out) (Below.refl g wr).drew hgl ?_
      intros
      rename_i w9 b9 l9 hT
      obtain ⟨v9, K9, O9⟩ := hT
      have HM9 := hidH (show MB w9 g M.Stream M.Unordered ((r.take (j + 1)).flatMap DataM.Piece) from by rw [HFL.out]; exact ⟨v9, K9, by simpa using O9⟩)
      have HB9 := hidH (HBG.out.trans b9)
      clear K9 O9 b9 l9 HC HA HK0 HO0 HBG
      go_wp2
      go_roundw
      case rel => exact ⟨j + 1, by omega, by go_num, HM9.out, HB9.out⟩
      case measure => simp [intOf]; omega
    · obtain rfl : j = r.length := by omega
      rw [List.take_length, HL.out] at hMB
      obtain ⟨A, cA, KM, OM⟩ := hMB.own
      have R9 := (hBg.block u.heap.size hgu).trans HR2.out
      have R9 : Blk wr u.heap.size 25 #[.int .i64 0, .bool false, .slice none 0 0] := R9
      have HBU := hidH (HB2.out.trans (hBg.mono (Nat.le_of_lt hgu)))
      have y0 := KM.cell 0
      have y1 := KM.cell 1
      have y2 := KM.cell 2
      have x0 := R9.cell 0
      have x1 := R9.cell 1
      have x2 := R9.cell 2
      have f0 := R9.frozen 0
      have f1 := R9.frozen 1
      have f2 := R9.frozen 2
      have hr := R9.lt
      have hgl := KM.lt
      simp only [List.getElem?_toArray, List.getElem?_cons_succ, List.getElem?_cons_zero] at x0 x1 x2 y0 y1 y2
      have HOM := hidH OM
      clear KM OM R9 hMB hBg hlt hj
      go_wp2
      have PF : ∀ a b c' : Value, OwN u.heap.size (((wr.setCell ⟨u.heap.size, 0, none⟩ a).setCell ⟨u.heap.size, 1, none⟩ b).setCell ⟨u.heap.size, 2, none⟩ c').heap.size (((wr.setCell ⟨u.heap.size, 0, none⟩ a).setCell ⟨u.heap.size, 1, none⟩ b).setCell ⟨u.heap.size, 2, none⟩ c') M.vs [.int .i64 M.Stream, .bool M.Unordered, .slice A M.Bytes.length cA] := fun a b c' =>
        OwN.int _ (OwN.bool _ (OwN.cons ((((HOM.out.win (set_win _ u.heap.size 0 a) (.inr (by omega))).win (set_win _ u.heap.size 1 b) (.inr (by omega))).win (set_win _ u.heap.size 2 c') (.inr (by omega))).mono (B' := u.heap.size) (by omega) (by simp [World.setCell]) (Nat.le_refl _)) (OwN.nil (Nat.le_refl _)) (by simp [World.setCell]; omega) (Nat.le_refl _)))
      exact bodyPost_ret (v := .agg #[.int .i64 M.Stream, .bool M.Unordered, .slice A M.Bytes.length cA]) (by simp [results, Try.results59, go_sem, x0, x1, x2]) rfl ⟨_, rfl, PF _ _ _, bst (bst (bst HBU.out (Nat.le_refl _) _) (Nat.le_refl _) _) (Nat.le_refl _) _⟩
end Go.Proofs.Ytbfbfimmhpijfaa
