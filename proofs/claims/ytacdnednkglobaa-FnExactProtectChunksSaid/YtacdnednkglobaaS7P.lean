/- Chapter 7: the model's l4Copies, l7Protect, ProtectChunks. -/
import Derived.Test.YtacdnednkglobaaS7CR
import Derived.Test.YtacdnednkglobaaMa9
import Derived.Test.YtacdnednkglobaaMacS
namespace Go.Proofs.Ytacdnednkglobaa
open Go.RowKit Go.Deep

/-- A row that is the list r, owned. -/
def CpsC (r : List ChunkM) (u : World) (e : Ending) (w' : World) : Prop := ∃ (v : Value) (q : List RE), e = .returned v ∧ RowCk q r ∧ w'.ownsRow u.heap.size 51 3 v r.length (flatR q) ∧ RTs u.heap.size w' q ∧ Below u.heap.size u w'
set_option maxRecDepth 100000 in
set_option maxHeartbeats 4000000 in
theorem cps4_any (r : List ChunkM) (v : Value) (u : World) (h : Rd u (st_Chunk r) v) (hn : r.length ≤ 1000) (hc : ∀ x ∈ r, x.Body.length ≤ 4000000) : Calls Try.prog 50 #[v] u (CpsC r u) := by
  obtain ⟨A, c, rfl⟩ := st_Chunk_sh h
  have hm : (r.length : Int) ≤ 1000 := by omega
  have HI := hidH h
  have HZ := hidH (And.intro hn hc)
  have HO0 := hidH (show (u.alloc (.cells #[] 51)).ownsRow u.heap.size 51 3 (.slice (some ⟨u.heap.size, 0, none⟩) 0 0) 0 [] from World.ownsRow_lit u #[] 0 (Nat.le_refl _) (by unfold maxLen; omega) rfl)
  have HB0 := hidH (bal (Below.refl u.heap.size u) (.cells #[] 51))
  clear h hn hc
  go_enter Try.func50, Try.ntmps50
  go_wp2
  go_loopw [3, 4] (fun v i wr => ∃ (j : Nat) (q : List RE), j ≤ r.length ∧ i = .int .i64 j ∧ RowCk q (r.take j) ∧ wr.ownsRow u.heap.size 51 3 v j (flatR q) ∧ RTs u.heap.size wr q ∧ Below u.heap.size u wr) (fun _ i _ => r.length - (intOf i).toNat)
  case atStart => exact ⟨0, [], by omega, rfl, RowCk.nil, HO0.out, RTs.nil _ _, HB0.out⟩
  case round =>
    obtain ⟨j, q, hj, rfl, hq, ho, hk, hB⟩ := hrel
    have hj0 : (0 : Int) ≤ (j : Int) := by omega
    by_cases hlt : j < r.length
    · have hj1 : (j : Int) < (r.length : Int) := by omega
      obtain ⟨g, o, c', B, cB, e, CK, _⟩ := chunk_at HI.out hlt
      injection e with e1 e2 e3
      subst e1 e3
      have HO := hidH ho
      have HK := hidH hk
      have HBW := hidH hB
      have HQ := hidH hq
      have HLT := hidH hlt
      have HCK := hidH CK
      clear ho hk hB hq CK
      go_wp2
      refine wp_region_any (by kernel_rfl) ?_
      refine regC4 _ _ _ _ _ _ _ _ _ _ _ _ _ _ _ _ _ _ _ _ _ _ _ _ _ _ _ _ _ _ _ (flatR q) wr u.heap.size j j g o r.length c r[j].Kind r[j].Flags B r[j].Body cB HCK.out.lt (hidH (by have := HZ.out.1; have := HLT.out; omega)) hj1 hj0 (hidH (HZ.out.2 _ (List.getElem_mem HLT.out))) (hidH (fun W hb => bs_below HCK.out.body (HBW.out.trans hb))) ((HBW.out.cell (p := ⟨g, o + j * 3, none⟩) HCK.out.lt).trans HCK.out.c0) ((HBW.out.cell (p := ⟨g, o + j * 3 + 1, none⟩) HCK.out.lt).trans HCK.out.c1) ((HBW.out.cell (p := ⟨g, o + j * 3 + 2, none⟩) HCK.out.lt).trans HCK.out.c2) (by kernel_rfl) (by kernel_rfl) (by kernel_rfl) rfl (fun h => by cases h) (fun h => by cases h) (fun h => by cases h) (Below.refl _ _).drew (B8.of_below (Below.refl _ _).drew) HBW.out.size (Nat.le_refl _) (fun _ => HO.out) ?_
      intros
      rename_i W gB gU gS gW gR
      obtain ⟨A9, c9, o9, s9⟩ := gR
      obtain ⟨lo, hi, hlo, hkt⟩ := RT.of_row s9 gW [.int r[j].Kind, .int r[j].Flags]
      have HN := hidH (show RowCk (q ++ [ckE r[j] (.slice A9 r[j].Body.length c9) lo hi]) (r.take (j + 1)) ∧ RTs u.heap.size W (q ++ [ckE r[j] (.slice A9 r[j].Body.length c9) lo hi]) ∧ Below u.heap.size u W from
        ⟨HQ.out.take HLT.out _ _ _, (HK.out.turn gW gU).snoc hkt (Nat.le_trans HBW.out.size hlo) (fun y hy => Nat.le_trans (HK.out.top y hy) hlo), HBW.out.trans gB⟩)
      have HO9 := hidH (show W.ownsRow u.heap.size 51 3 _ (j + 1) (flatR (q ++ [ckE r[j] (.slice A9 r[j].Body.length c9) lo hi])) by rw [flatR_app]; exact o9)
      clear gB gU gS gW o9 s9 hkt
      go_wp2
      go_roundw
      case rel => exact ⟨j + 1, _, HLT.out, by go_num, HN.out.1, HO9.out, HN.out.2.1, HN.out.2.2⟩
      case measure => simp [intOf]; have := HLT.out; omega
    · obtain rfl : j = r.length := by omega
      rw [List.take_length] at hq
      have HO := hidH ho
      have HK := hidH hk
      have HBW := hidH hB
      have HQ := hidH hq
      clear ho hk hB hq hlt hj
      go_wp2
      go_ret
      exact ⟨_, q, rfl, HQ.out, HO.out, HK.out, HBW.out⟩
/-- A list of chunks, owned. -/
def ListC (r : List ChunkM) (u : World) (e : Ending) (w' : World) : Prop := ∃ v, e = .returned v ∧ OwV u.heap.size w'.heap.size w' (st_Chunk r) v ∧ Below u.heap.size u w'
theorem st_Chunk_bytes {r : List ChunkM} (h : WfV (st_Chunk r)) : ∀ x ∈ r, Bytes x.Body := by
  have key : ∀ (r : List ChunkM), WfV.WfA (r.flatMap ChunkM.vs) → ∀ x ∈ r, Bytes x.Body := by
    intro r
    induction r with
    | nil => intro _ x hx; simp at hx
    | cons y r ih =>
      intro h x hx
      rw [List.flatMap_cons] at h
      obtain ⟨_, _, hb, h2⟩ := h
      rcases List.mem_cons.1 hx with rfl | hx
      · exact hb
      · exact ih h2 x hx
  exact key r h
set_option maxRecDepth 100000 in
set_option maxHeartbeats 4000000 in
theorem l7Protect_any (id : Int) (key : List Int) (r : List ChunkM) (K : Option Addr) (ck : Nat) (v : Value) (u : World) (hK : Bs u K key) (h : Rd u (st_Chunk r) v) (h0 : 0 ≤ id) (h1 : id < 65536) (hkb : Bytes key) (hkl : key.length ≤ 40000) (hc : ∀ x ∈ r, cmOk x) (hb : ∀ x ∈ r, Bytes x.Body) (hn : r.length ≤ 20) :
    Calls Try.prog 36 #[.int .i64 id, .slice K key.length ck, v] u (ListC (pcL id key r) u) := by
  have HTX := hidH (l7Text_any id r v u h h0 h1 hc hn)
  have HI := hidH (fun (w : World) (hb : Below u.heap.size u w) => Rd.below hb _ h)
  have HKB := hidH (fun (w : World) (hb : Below u.heap.size u w) => bs_below hK hb)
  have HC := hidH hc
  have HN := hidH hn
  have HTL := hidH (txtTo_len id r hc r.length (Nat.le_refl _))
  have HTB := hidH (txtTo_bytes h0 (by omega) hc hb r.length)
  obtain ⟨L, hL⟩ : ∃ L, txtL id r = L := ⟨_, rfl⟩
  have HLL := hidH hL
  have e0 : txtTo id r r.length = L := hL
  rw [e0] at HTL HTB
  rw [hL] at HTX
  have HKL := hidH (And.intro hkb hkl)
  have HPL := hidH (show pcL id key r = tagC id (hmL key L) :: r by rw [pcL, hL])
  have hd32 := (show (hmL key L).length = 32 from shaL_len' _)
  obtain ⟨D, hD⟩ : ∃ D, hmL key L = D := ⟨_, rfl⟩
  rw [hD] at hd32 HPL
  have HD := hidH hD
  have HD32 := hidH hd32
  clear h hK hc hb hn hL e0 hkb hkl hD hd32
  go_enter Try.func36, Try.ntmps36
  go_wp2_with fail
  refine HTX.out.mono ?_
  rintro e w1 ⟨v1, rfl, o1, b1⟩
  obtain ⟨A1, c1, rfl, ob1, _, _⟩ := own_ob o1
  have HM := hidH (hmac_any K A1 key L ck c1 w1 (HKB.out w1 b1) ob1.bs HKL.out.1 HTB.out HKL.out.2 (by have := HTL.out; have := HN.out; omega))
  rw [HD.out] at HM
  have HB1 := hidH b1
  clear o1 ob1 b1 HTX
  go_wp2_with fail
  refine HM.out.mono ?_
  rintro e w2 ⟨v2, rfl, o2, b2⟩
  obtain ⟨A2, c2, rfl, ob2, _, _⟩ := own_ob o2
  have HT := hidH (l7Tag_any id D A2 c2 w2 ob2.bs h0 h1 (by rw [HD32.out]; omega))
  have HB2 := hidH (btr HB1.out b2)
  clear o2 ob2 b2 HM
  go_wp2_with fail
  refine HT.out.mono ?_
  rintro e w3 ⟨A3, c3, rfl, o3, b3⟩
  obtain ⟨lo, hi, hlo, hkt⟩ := RT.of_row o3 b3.size [.int 15, .int 0]
  have HB3 := hidH (btr HB2.out b3)
  have ba := bal (Below.refl w3.heap.size w3) (.cells #[.int .i64 15, .int .i64 0, .slice A3 (tagB id D).length c3] 51)
  have HR4 := hidH (show (w3.alloc (.cells #[.int .i64 15, .int .i64 0, .slice A3 (tagB id D).length c3] 51)).ownsRow w3.heap.size 51 3 (.slice (some ⟨w3.heap.size, 0, none⟩) 1 1) 1 (flatR [ckE (tagC id D) (.slice A3 (tagB id D).length c3) lo hi]) from
    World.ownsRow_lit w3 #[.int .i64 15, .int .i64 0, .slice A3 (tagB id D).length c3] 1 (Nat.le_refl _) (by unfold maxLen; omega) rfl)
  have HKT := hidH (hkt.turn ba.size (B8.of_below ba))
  have HLO := hidH (And.intro hlo hkt.1.1)
  have HBA := hidH (btr HB3.out ba)
  have HZA := hidH ba.size
  obtain ⟨W4, hW4⟩ : ∃ W4, w3.alloc (.cells #[.int .i64 15, .int .i64 0, .slice A3 (tagB id D).length c3] 51) = W4 := ⟨_, rfl⟩
  rw [hW4] at HR4 HKT HBA HZA
  have HW4 := hidH hW4
  have HCP := hidH (cps4_any r v W4 (HI.out _ HBA.out) (by have := HN.out; omega) (fun x hx => by have := (HC.out x hx).2.2; omega))
  have HTN := hidH (tagB_len id D)
  unfold ckV
  clear o3 b3 hlo hkt ba hW4 HT
  go_wp2_with fail
  rw [HW4.out]
  refine HCP.out.mono ?_
  rintro e w5 ⟨v5, q, rfl, hq, o5, t5, b5⟩
  have HR5 := hidH (own_below0 HR4.out b5)
  have HKT5 := hidH (HKT.out.turn b5.size (B8.of_below b5))
  have HB5 := hidH (btr HBA.out b5)
  have HO5 := hidH o5
  have HT5 := hidH t5
  have HQ := hidH hq
  have hsz5 : w3.heap.size ≤ w5.heap.size := Nat.le_trans HZA.out b5.size
  obtain ⟨X, hX⟩ : ∃ X, flatR [ckE (tagC id D) (.slice A3 (tagB id D).length c3) lo hi] = X := ⟨_, rfl⟩
  rw [hX] at HR5
  have HX := hidH hX
  obtain ⟨Y, hY⟩ : ∃ Y, flatR q = Y := ⟨_, rfl⟩
  have HONE := hidH (show ∀ u ∈ Y, u.oneCell' = true by rw [← hY]; exact flatR_one hq.ok (fun x hx => (t5.1 x hx).1.val))
  rw [hY] at HO5
  have HY := hidH hY
  clear hq o5 t5 b5 hX hY HCP HW4
  go_wp2_with (at_builtin; go_loud (refine wpList_append_rows rfl _ _ Try.underlying29 infoCk rfl (by decide) (by decide) rfl w3.heap.size _ 1 X rfl HR5.out _ r.length _ Y rfl HO5.out HONE.out (by have := HN.out; omega) hsz5 ?_))
  intro v6 w6 o6 g6 _
  have HB6 := hidH (show Below u.heap.size u w6 from HB5.out.grown g6 (by have := HB5.out.size; omega) (fun x hx => Nat.le_trans HB3.out.size (HR5.out.lt x hx).1))
  have HO6 := hidH (show OwV u.heap.size w6.heap.size w6 (st_Chunk (tagC id D :: r)) v6 from by
    have hu8 : B8 w5 w6 := B8.of_grown g6 HR5.out (by decide)
    have hl : (tagC id D :: r).length = 1 + r.length := by simp; omega
    refine RowCk.own (B := w3.heap.size) (q := ckE (tagC id D) (.slice A3 (tagB id D).length c3) lo hi :: q) (HQ.out.cons _ _ _ _) ?_ HB3.out.size ⟨fun x hx => ?_, ?_⟩
    · rw [hl, flatR_cons]
      rw [← HX.out, ← HY.out] at o6
      simpa [flatR] using o6
    · rcases List.mem_cons.1 hx with rfl | hx
      · exact ⟨HKT5.out.turn g6.size hu8, Nat.le_trans HB2.out.size HLO.out.1⟩
      · exact ⟨(HT5.out.1 x hx).1.turn g6.size hu8, Nat.le_trans HBA.out.size (HT5.out.1 x hx).2⟩
    · refine List.pairwise_cons.2 ⟨fun y hy => .inl ?_, HT5.out.2⟩
      have h9 := (HT5.out.1 y hy).2
      have h8 : hi ≤ w3.heap.size := HLO.out.2
      have h7 := HZA.out
      show hi ≤ y.lo
      omega)
  clear o6 g6
  go_wp2
  go_ret
  refine ⟨_, rfl, ?_, HB6.out⟩
  rw [HPL.out]
  exact HO6.out
end Go.Proofs.Ytacdnednkglobaa
