/- The program's ReadInit. -/
import Derived.Test.YtjjileefdjjijaaDoorMb8
namespace Go.Proofs.YtjjileefdjjijaaDoor
open Go.RowKit Go.Deep

theorem taNoG {y : Ct} {v : Value} {B C : Nat} {w : World} (h : CtIs w B C y v) (hn : ∀ k z, y ≠ .init k z) : ∀ u, (Instr.typeAssert v 113 100 true).run Tryd.prog u = .ok (.tuple #[.agg #[.int .i64 0, .int .i64 0, .slice none 0 0, .slice none 0 0, .slice none 0 0, .int .i64 0], .bool false]) u := by
  match y, h with
  | .no, h =>
    have e : v = .nilIface := h
    subst e
    exact taNG
  | .init k y, _ => exact absurd rfl (hn k y)
  | .data y, ⟨vs, e, _⟩ =>
    subst e
    exact taDG _
  | .sack y, ⟨vs, e, _⟩ =>
    subst e
    exact taSG _
  | .ask y, ⟨vs, e, _⟩ =>
    subst e
    exact taQG _
  | .ans y, ⟨vs, e, _⟩ =>
    subst e
    exact taWG _
theorem rG_none {x : ChunkM} (h : ¬ ∃ z, ctM x = .init x.Kind z) : riV x = none := by
  cases e : riV x with
  | none => rfl
  | some y => exact absurd ⟨y, (ct_init x y).2 e⟩ h
set_option maxRecDepth 100000 in
set_option maxHeartbeats 4000000 in
theorem rG_impl (x : ChunkM) (vs : List Value) (u : World) (ty : TypeId) (pv : Value) (hE : u.cell? ⟨0, 0, none⟩ = some (.iface ty pv)) (h : RdA u x.vs vs) (hw : WfA x.vs) (ht : tot.totL x.vs ≤ 1048576) : Calls Tryd.prog 23 #[.agg vs.toArray] u (Res u (riR x).vs) := by
  obtain ⟨A2, c2, rfl⟩ := shape_Chunk h
  have h2 := h.tl.tl.hd
  unfold Rd at h2
  obtain ⟨A', c', e, ⟨hc, hcm⟩, hA⟩ := h2
  cases e
  have hb : Bytes x.Body := hw.2.2.1
  have hm : x.Body.length ≤ 4000000 := by simp only [ChunkM.vs, tot.totL, tot] at ht; omega
  have hpos : 0 < u.heap.size := World.block_lt_of_cell? _ _ hE
  have K1 := (Blk.new u 28 #[.int .i64 x.Kind, .int .i64 x.Flags, .slice A2 x.Body.length c2]).alloc (.cells #[.int .i64 0, .int .i64 0, .int .i64 0, .slice none 0 0, .slice none 0 0, .slice none 0 0] 54)
  have R1 := Blk.new (u.alloc (.cells #[.int .i64 x.Kind, .int .i64 x.Flags, .slice A2 x.Body.length c2] 28)) 54 #[.int .i64 0, .int .i64 0, .int .i64 0, .slice none 0 0, .slice none 0 0, .slice none 0 0]
  have B1 := bal (bal (Below.refl u.heap.size u) (.cells #[.int .i64 x.Kind, .int .i64 x.Flags, .slice A2 x.Body.length c2] 28)) (.cells #[.int .i64 0, .int .i64 0, .int .i64 0, .slice none 0 0, .slice none 0 0, .slice none 0 0] 54)
  rw [World.size_alloc] at R1
  obtain ⟨w1, hw1⟩ : ∃ w1, (u.alloc (.cells #[.int .i64 x.Kind, .int .i64 x.Flags, .slice A2 x.Body.length c2] 28)).alloc (.cells #[.int .i64 0, .int .i64 0, .int .i64 0, .slice none 0 0, .slice none 0 0, .slice none 0 0] 54) = w1 := ⟨_, rfl⟩
  have hs1 : w1.heap.size = u.heap.size + 1 + 1 := by rw [← hw1]; simp
  rw [hw1] at K1 R1 B1
  have HC := hidH (contentOf_any x A2 c2 w1 ty pv (bs_below hA B1) hb hm hc hcm ((B1.cell (p := ⟨0, 0, none⟩) hpos).trans hE))
  have HT := hidH (And.intro K1 (And.intro R1 B1))
  have HS := hidH hs1
  have HM := hidH (show (x.Body.length : Int) ≤ 9223372036854775807 by omega)
  have k0 := K1.cell 0
  have k1 := K1.cell 1
  have k2 := K1.cell 2
  simp only [List.getElem?_toArray, List.getElem?_cons_succ, List.getElem?_cons_zero] at k0 k1 k2
  have hlt := K1.lt
  clear h K1 R1 B1 hE hA hb hm hw ht hc hcm hs1 hpos
  go_enter Tryd.func23, Tryd.ntmps23
  go_wp2_with fail
  refine HC.out.mono ?_
  rintro e w3 ⟨v, rfl, hct, b3⟩
  clear k0 k1 k2 hlt hw1
  have K3 := HT.out.1.below b3
  have R3 := HT.out.2.1.below b3
  have HB3 := hidH (btr HT.out.2.2 b3)
  have HZ3 := hidH b3.size
  by_cases hD : ∃ z, ctM x = .init x.Kind z
  · obtain ⟨y, hy⟩ := hD
    have HV := hidH ((ct_init x y).1 hy)
    rw [hy] at hct
    obtain ⟨vs, rfl, ho⟩ := hct
    have hr : RdA w3 [.int y.Tag, .int y.Tsn, .bs y.Random, .is y.Addrs, .bs y.Cookie, .int x.Kind] vs := ho.rd
    obtain ⟨q0, rfl, t0⟩ := hr.int_out
    obtain ⟨q1, rfl, t1⟩ := t0.int_out
    obtain ⟨v2, q2, rfl, r2, t2⟩ := t1.any_out
    obtain ⟨v3, q3, rfl, r3, t3⟩ := t2.any_out
    obtain ⟨v4, q4, rfl, r4, t4⟩ := t3.any_out
    obtain ⟨q5, rfl, t5⟩ := t4.int_out
    obtain rfl := t5.nil_out
    have ho' := own_init5 ho
    unfold Rd at r2 r3 r4
    obtain ⟨A2', c2', rfl, _⟩ := r2
    obtain ⟨A3, c3, rfl, _⟩ := r3
    obtain ⟨A4, c4, rfl, _⟩ := r4
    clear t0 t1 t2 t3 t4 t5 hr
    have tD := fun u => taGG (.agg #[.int .i64 y.Tag, .int .i64 y.Tsn, .slice A2' y.Random.length c2', .slice A3 y.Addrs.length c3, .slice A4 y.Cookie.length c4, .int .i64 x.Kind]) u
    have KD := Blk.new w3 100 #[.int .i64 y.Tag, .int .i64 y.Tsn, .slice A2' y.Random.length c2', .slice A3 y.Addrs.length c3, .slice A4 y.Cookie.length c4, .int .i64 x.Kind]
    have b4 := bal (Below.refl w3.heap.size w3) (.cells #[.int .i64 y.Tag, .int .i64 y.Tsn, .slice A2' y.Random.length c2', .slice A3 y.Addrs.length c3, .slice A4 y.Cookie.length c4, .int .i64 x.Kind] 100)
    obtain ⟨w4, hw4⟩ : ∃ w4, w3.alloc (.cells #[.int .i64 y.Tag, .int .i64 y.Tsn, .slice A2' y.Random.length c2', .slice A3 y.Addrs.length c3, .slice A4 y.Cookie.length c4, .int .i64 x.Kind] 100) = w4 := ⟨_, rfl⟩
    rw [hw4] at KD b4
    have R4 := R3.below b4
    have HB4 := hidH (btr HB3.out b4)
    have HO := hidH (ho'.below b4)
    have HZ4 := hidH b4.size
    have d0 := KD.cell 0
    have d1 := KD.cell 1
    have d2 := KD.cell 2
    have d3 := KD.cell 3
    have d4 := KD.cell 4
    have d5 := KD.cell 5
    have r0 := R4.cell 0
    have r1 := R4.cell 1
    have r2 := R4.cell 2
    have r3 := R4.cell 3
    have r4 := R4.cell 4
    have r5 := R4.cell 5
    have f0 := R4.frozen 0
    have f1 := R4.frozen 1
    have f2 := R4.frozen 2
    have f3 := R4.frozen 3
    have f4 := R4.frozen 4
    have f5 := R4.frozen 5
    simp only [List.getElem?_toArray, List.getElem?_cons_succ, List.getElem?_cons_zero] at d0 d1 d2 d3 d4 d5 r0 r1 r2 r3 r4 r5
    have hr := R4.lt
    have hd := KD.lt
    have ne : w3.heap.size ≠ u.heap.size + 1 := by have := R3.lt; omega
    clear hy ho ho' K3 R3 b3 b4 KD R4 HC
    go_wp2
    exact bodyPost_ret (v := .agg #[.int .i64 0, .int .i64 y.Tag, .int .i64 y.Tsn, .slice A2' y.Random.length c2', .slice A3 y.Addrs.length c3, .slice A4 y.Cookie.length c4]) (by simp [results, Tryd.results23, go_sem, r0, r1, r2, r3, r4, r5]) rfl ⟨_, rfl, by
      have e : (riR x).vs = .int 0 :: y.vs := by rw [riR, HV.out]; rfl
      rw [e]
      refine OwN.int 0 (OwN.mono (B := w1.heap.size) (C := w3.heap.size) ?_ (by have := HS.out; omega) (by have := HZ4.out; simp [World.setCell]; omega) (Nat.le_refl _))
      iterate 6 (refine OwN.win (B' := u.heap.size + 1) (C' := u.heap.size + 1 + 1) ?_ (win_set _ _ _ _) (.inr (by have := HS.out; omega)))
      exact HO.out, by
      iterate 6 (refine bst ?_ (Nat.le_succ _) _)
      exact HB4.out⟩
  · have tN := taNoG hct (fun k z q => hD ⟨z, by have e := ct_init' x k z q; rw [← e]; exact q⟩)
    have HV := hidH (rG_none hD)
    have KD := Blk.new w3 100 #[.int .i64 0, .int .i64 0, .slice none 0 0, .slice none 0 0, .slice none 0 0, .int .i64 0]
    have b4 := bal (Below.refl w3.heap.size w3) (.cells #[.int .i64 0, .int .i64 0, .slice none 0 0, .slice none 0 0, .slice none 0 0, .int .i64 0] 100)
    have HR4 := hidH (R3.below b4)
    have K4 := K3.below b4
    have HB4 := hidH (btr HB3.out b4)
    have HUN := hidH (unread_any x A2 c2 (w3.alloc (.cells #[.int .i64 0, .int .i64 0, .slice none 0 0, .slice none 0 0, .slice none 0 0, .int .i64 0] 100)) HM.out)
    have k0 := K4.cell 0
    have k1 := K4.cell 1
    have k2 := K4.cell 2
    simp only [List.getElem?_toArray, List.getElem?_cons_succ, List.getElem?_cons_zero] at k0 k1 k2
    have hk := K4.lt
    have hd := KD.lt
    clear hct hD K3 R3 b3 b4 KD K4 HC
    go_wp2_with fail
    refine HUN.out.mono ?_
    rintro e w5 ⟨rfl, b5⟩
    have R5 := HR4.out.below b5
    have HB5 := hidH (btr HB4.out b5)
    have r0 := R5.cell 0
    have r1 := R5.cell 1
    have r2 := R5.cell 2
    have r3 := R5.cell 3
    have r4 := R5.cell 4
    have r5 := R5.cell 5
    have f0 := R5.frozen 0
    have f1 := R5.frozen 1
    have f2 := R5.frozen 2
    have f3 := R5.frozen 3
    have f4 := R5.frozen 4
    have f5 := R5.frozen 5
    simp only [List.getElem?_toArray, List.getElem?_cons_succ, List.getElem?_cons_zero] at r0 r1 r2 r3 r4 r5
    have hr := R5.lt
    clear HUN HR4 HB4 b5 R5 tN k0 k1 k2 hk hd
    go_wp2
    exact bodyPost_ret (v := .agg #[.int .i64 (rdOf x), .int .i64 0, .int .i64 0, .slice none 0 0, .slice none 0 0, .slice none 0 0]) (by simp [results, Tryd.results23, go_sem, r0, r1, r2, r3, r4, r5]) rfl ⟨_, rfl, by
      have e : (riR x).vs = [.int (rdOf x), .int 0, .int 0, .bs [], .is [], .bs []] := by rw [riR, HV.out]; rfl
      rw [e]
      exact OwN.int _ (OwN.int 0 (OwN.int 0 (OwN.nobs (OwN.nois (OwN.nobs (OwN.nil (Nat.le_refl _))))))), by
      iterate 6 (refine bst ?_ (Nat.le_succ _) _)
      exact HB5.out⟩
end Go.Proofs.YtjjileefdjjijaaDoor
