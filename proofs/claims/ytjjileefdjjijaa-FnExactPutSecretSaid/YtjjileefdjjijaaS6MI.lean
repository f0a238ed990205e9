/- Chapter 6: the program's put, keepSecrets, KeyOf. -/
import Derived.Test.YtjjileefdjjijaaS6PR
import Derived.Test.YtjjileefdjjijaaS6K
import Derived.Test.YtjjileefdjjijaaS6JI
namespace Go.Proofs.Ytjjileefdjjijaa
open Go.RowKit Go.Deep

theorem secs_lt {r : List SecretM} (h : secsO r = true) : ∀ {i j : Nat} (hj : j < r.length) (hi : i < j), (r[i]'(by omega)).Id < r[j].Id := by
  intro i j hj hi
  induction j with
  | zero => omega
  | succ j ih =>
    have h1 := (secsO_iff r).1 h j hj
    rw [List.getD_eq_getElem?_getD, List.getD_eq_getElem?_getD, List.getElem?_eq_getElem hj, List.getElem?_eq_getElem (show j < r.length by omega)] at h1
    simp only [Option.getD_some] at h1
    by_cases e : i = j
    · subst e; exact h1
    · have := ih (by omega) (by omega); omega
theorem fresh {r : List SecretM} (h : secsO r = true) {q : List KE} {j : Nat} (hj : j < r.length) (hq : q.map KE.sec = r.take j) : ∀ y ∈ q, y.id ≠ r[j].Id := by
  intro y hy e
  have h1 : y.sec ∈ r.take j := by rw [← hq]; exact List.mem_map_of_mem hy
  obtain ⟨t, ht, e2⟩ := List.getElem_of_mem h1
  rw [List.getElem_take] at e2
  have h3 := secs_lt h hj (i := t) (by simp at ht; omega)
  rw [e2] at h3
  have : y.sec.Id = y.id := rfl
  omega
theorem map_put {r : List SecretM} (h : secsO r = true) {q : List KE} {j : Nat} (hj : j < r.length) (hq : q.map KE.sec = r.take j) (v : Value) (lo hi : Nat) : (putQ q ⟨r[j].Id, v, r[j].Bytes, lo, hi⟩).map KE.sec = r.take (j + 1) := by
  rw [putQ, filter_none (fresh h hj hq), List.map_append, hq, List.take_add_one, List.getElem?_eq_getElem hj]
  rfl
theorem PutR.pre {b N : Nat} {q : List KE} {k : Int} {l : List Int} {w w1 w' : World} (h : PutR b N q k l w1 w') (hb : Below w.heap.size w w1) : PutR b N q k l w w' := by
  obtain ⟨v, lo, hi, h1, h2⟩ := h.ex
  exact ⟨⟨v, lo, hi, h1, (below_win hb _ _).trans' h2⟩⟩
def PutP (b N : Nat) (q : List KE) (k : Int) (l : List Int) (w : World) (e : Ending) (w' : World) : Prop := e = .returned (.tuple #[]) ∧ PutR b N q k l w w'
set_option maxRecDepth 100000 in
set_option maxHeartbeats 2000000 in
theorem put_any (b N : Nat) (q : List KE) (k : Int) (A : Option Addr) (l : List Int) (c : Nat) (w : World) (h : KMap w b N q) (hN : N ≤ 1000) (hk : WfV (.int k)) (hA : Bs w A l) (hl : l.length ≤ 4000000) :
    Calls Try.prog 60 #[.map (some b), .agg #[.int .i64 k, .slice A l.length c]] w (PutP b N q k l w) := by
  have B1 := bal (Below.refl w.heap.size w) (.cells #[.int .i64 k, .slice A l.length c] 58)
  have K1 := Blk.new w 58 #[.int .i64 k, .slice A l.length c]
  obtain ⟨w1, hw1⟩ : ∃ w1, w.alloc (.cells #[.int .i64 k, .slice A l.length c] 58) = w1 := ⟨_, rfl⟩
  rw [hw1] at B1 K1
  have HM := hidH (h.below B1)
  have HP := hidH (bs_below hA B1)
  have HB := hidH B1
  have HK := hidH K1
  have HW := hidH hw1
  have HL := hidH hl
  have HN := hidH hN
  have HQ := hidH (show ∀ y ∈ q, y.hi ≤ w1.heap.size from fun y hy => ((h.below B1).2.1 y hy).1.1)
  have hb := (h.below B1).lt
  clear h hA B1 K1 hw1 hl hN
  go_enter Try.func60, Try.ntmps60
  go_wp2_with fail
  rw [HW.out]
  refine wp_region_any (by kernel_rfl) ?_
  refine regPut _ _ b N w.heap.size q k A l c w1 hk HL.out HN HP.out hb HQ.out (by kernel_rfl) (by kernel_rfl) (by kernel_rfl) rfl (fun h => by cases h) (fun h => by cases h) (fun h => by cases h) (fun _ => HM.out.below (Below.refl _ _).drew) (fun _ => (Below.refl _ _).drew) (fun _ => HK.out.below (Below.refl _ _).drew) (fun h => by cases h) (fun h => by cases h) ?_
  intros
  rename_i W hP
  have HR := hidH (hP.pre HB.out)
  clear hP
  go_wp2
  exact bodyPost_ret (v := .tuple #[]) (by simp [results, go_sem]) rfl ⟨rfl, HR.out⟩
def KeepR (r : List SecretM) (u : World) (e : Ending) (w' : World) : Prop := ∃ (b : Nat) (q : List KE), e = .returned (.map (some b)) ∧ KMap w' b r.length q ∧ q.map KE.sec = r ∧ u.heap.size ≤ b ∧ Below u.heap.size u w'
set_option maxRecDepth 100000 in
set_option maxHeartbeats 4000000 in
theorem keep_any (r : List SecretM) (v : Value) (u : World) (h : Rd u (st_Secret r) v) (h0 : ssF r = 0) : Calls Try.prog 57 #[v] u (KeepR r u) := by
  obtain ⟨A, c, rfl⟩ := st_Secret_sh h
  obtain ⟨z1, z2, z3⟩ := ssF_zero h0
  have hm : (r.length : Int) ≤ 4 := by omega
  have HI := hidH (fun (w : World) (hb : Below u.heap.size u w) => Rd.below hb _ h)
  have HZ := hidH (And.intro z1 (And.intro z2 z3))
  have HPUT := hidH (fun (j : Nat) (hj : j < r.length) (q : List KE) (B : Option Addr) (cB : Nat) (w : World) (hM : KMap w u.heap.size j q) (hB : Bs w B r[j].Bytes) => put_any u.heap.size j q r[j].Id B r[j].Bytes cB w hM (by omega)
    (by have := secF_zero (secsF_all z2 _ (List.getElem_mem hj)); show _ ∧ _; omega) hB (by have := secF_zero (secsF_all z2 _ (List.getElem_mem hj)); omega))
  have hmm := @run_makeMap Try.prog
  have M0 := hidH (KMap.made u)
  have B0 := hidH (bal (Below.refl u.heap.size u) (.map #[] 0))
  clear h z1 z2 z3 h0
  go_enter Try.func57, Try.ntmps57
  go_wp2
  clear hmm
  go_loopw [9] (fun i wr => ∃ (j : Nat) (q : List KE), j ≤ r.length ∧ i = .int .i64 j ∧ KMap wr u.heap.size j q ∧ q.map KE.sec = r.take j ∧ Below u.heap.size u wr) (fun i _ => r.length - (intOf i).toNat)
  case atStart => exact ⟨0, [], by omega, rfl, M0.out, rfl, B0.out⟩
  case round =>
    obtain ⟨j, q, hj, rfl, hM, hq, hB⟩ := hrel
    by_cases hlt : j < r.length
    · have hj0 : (0 : Int) ≤ (j : Int) := by omega
      have hj1 : (j : Int) < (r.length : Int) := by omega
      obtain ⟨g, o, c', B, cB, e, hg, p0, p1, hx⟩ := sec_at (HI.out _ hB) hlt
      injection e with e1 e2 e3
      subst e1 e3
      have HMP := hidH (map_put HZ.out.2.2 hlt hq)
      have ba := bal (Below.refl wr.heap.size wr) (.cells #[.int .i64 r[j].Id, .slice B r[j].Bytes.length cB] 58)
      have HC := hidH (HPUT.out j hlt q B cB _ (hM.below ba) (bs_below (rd_bs hx) ba))
      have HBB := hidH (btr hB ba)
      have HL := hidH (And.intro hM.lt hg)
      obtain ⟨x0, hx0⟩ : ∃ x, r[j].Id = x := ⟨_, rfl⟩
      obtain ⟨x1, hx1⟩ : ∃ x, r[j].Bytes.length = x := ⟨_, rfl⟩
      rw [hx0, hx1] at HC HBB
      rw [hx0] at p0 HMP
      rw [hx1] at p1
      clear hM hq hB hx ba hx0 hx1
      go_wp2_with fail
      refine HC.out.mono ?_
      rintro e w2 ⟨rfl, hp⟩
      obtain ⟨v9, lo, hi, m2, W2⟩ := hp.ex
      have HM2 := hidH m2
      have HB2 := hidH (HBB.out.trans ((W2.below (Nat.le_trans (Nat.le_of_lt HL.out.1) (by simp))).mono (by omega)))
      clear hp m2 W2 HC p0 p1
      go_wp2
      go_roundw
      case rel => exact ⟨j + 1, _, by omega, by go_num, HM2.out, HMP.out _ _ _, HB2.out⟩
      case measure => simp [intOf]; omega
    · obtain rfl : j = r.length := by omega
      rw [List.take_length] at hq
      have HM := hidH hM
      have HQ := hidH hq
      have HB := hidH hB
      clear hM hq hB hlt hj
      go_wp2
      go_ret
      exact ⟨u.heap.size, q, rfl, HM.out, HQ.out, Nat.le_refl _, HB.out⟩
theorem sec_find {r : List SecretM} {q : List KE} (hq : q.map KE.sec = r) {k : Int} {x : SecretM} (h : r.find? (fun x => x.Id == k) = some x) : ∃ y ∈ q, y.id = k ∧ y.bytes = x.Bytes := by
  have h1 := List.mem_of_find?_eq_some h
  have h2 := List.find?_some h
  rw [← hq] at h1
  obtain ⟨y, hy, e⟩ := List.mem_map.1 h1
  exact ⟨y, hy, by rw [← e] at h2; simpa [KE.sec] using h2, by rw [← e]; rfl⟩
theorem sec_nofind {r : List SecretM} {q : List KE} (hq : q.map KE.sec = r) {k : Int} (h : r.find? (fun x => x.Id == k) = none) : ∀ y ∈ q, y.id ≠ k := by
  intro y hy e
  rw [List.find?_eq_none] at h
  have := h y.sec (by rw [← hq]; exact List.mem_map_of_mem hy)
  exact this (by simpa [KE.sec] using e)
set_option maxRecDepth 100000 in
set_option maxHeartbeats 4000000 in
theorem ky_impl (r : List SecretM) (v : Value) (k : Int) (a : List Int) (va : Value) (b : List Int) (vb : Value) (u : World) (h : Rd u (st_Secret r) v) (hw : WfV (st_Secret r)) (ht : tot (st_Secret r) ≤ 1048576) (hk : WfV (.int k)) (h2 : Rd u (.bs a) va) (wa : WfV (.bs a)) (ta : tot (.bs a) ≤ 1048576) (h3 : Rd u (.bs b) vb) (wb : WfV (.bs b)) (tb : tot (.bs b) ≤ 1048576) :
    Calls Try.prog 29 #[v, .int .i64 k, va, vb] u (Res u (keyR r k a b).vs) := by
  have R1 := Blk.new u 35 #[.int .i64 0, .slice none 0 0]
  have B1 := bal (Below.refl u.heap.size u) (.cells #[.int .i64 0, .slice none 0 0] 35)
  obtain ⟨w1, hw1⟩ : ∃ w1, u.alloc (.cells #[.int .i64 0, .slice none 0 0] 35) = w1 := ⟨_, rfl⟩
  have hs1 : w1.heap.size = u.heap.size + 1 := by rw [← hw1]; simp
  rw [hw1] at R1 B1
  have HF := hidH (ss_impl r v w1 (Rd.below B1 _ h) hw ht)
  have HKP := hidH (fun (w : World) (hb : Below u.heap.size u w) (h0 : ssF r = 0) => keep_any r v w (Rd.below hb _ h) h0)
  have HJ := hidH (fun (x : SecretM) (hx : x ∈ r) (A : Option Addr) (c : Nat) (w : World) (hb : Below u.heap.size u w) (hr : Rd w (.bs x.Bytes) (.slice A x.Bytes.length c)) => jk_impl x.Bytes _ a va b vb w hr (wf_body hw _ hx) (by obtain ⟨t, ht2, rfl⟩ := List.getElem_of_mem hx; exact sec_tot ht t ht2) (Rd.below hb _ h2) wa ta (Rd.below hb _ h3) wb tb)
  obtain ⟨PA, pc, rfl⟩ := st_Secret_sh h
  obtain ⟨PB, pb, rfl⟩ := h2.bs_sh
  obtain ⟨PC, pcc, rfl⟩ := h3.bs_sh
  have HT := hidH (And.intro R1 B1)
  have HS := hidH hs1
  have HW := hidH hw1
  have HK := hidH hk
  obtain ⟨F, hF⟩ : ∃ F, ssF r = F := ⟨_, rfl⟩
  rw [hF] at HF
  clear h h2 h3 hw ht wa ta wb tb R1 B1 hs1 hw1 hk
  go_enter Try.func29, Try.ntmps29
  go_wp2_with fail
  rw [HW.out]
  refine HF.out.mono ?_
  rintro e w2 ⟨rfl, b2⟩
  have HB2 := hidH (btr HT.out.2 b2)
  have HR2 := hidH (HT.out.1.below b2)
  have HZ2 := hidH b2.size
  clear HF b2
  by_cases hz : F = 0
  · have q : (F != 0) = false := by rw [bne_eq_false_iff_eq]; exact hz
    have H0 := hidH (hF.trans hz)
    have HKE := hidH (HKP.out w2 HB2.out H0.out)
    clear hz hF HKP
    go_wp2_with fail
    refine HKE.out.mono ?_
    rintro e w3 ⟨b0, qq, rfl, hM, hq, hb0, b3⟩
    have HB3 := hidH (btr HB2.out b3)
    have HR3 := hidH (HR2.out.below b3)
    have HZ3 := hidH b3.size
    obtain ⟨⟨D, d1, d2, d3⟩, d4⟩ := hM
    obtain ⟨v3, ps, hrun, hv⟩ := d1.look_ok key_law und_map (zero_bs w3) (zd := .held (.slice none 0 0)) (zp := []) rfl (key_i64 HK.out)
    rcases hfi : r.find? (fun x => x.Id == k) with _ | x
    · have hno := d2.2 k (sec_nofind hq hfi)
      rw [Maps.atKey_of_not_has hno] at hv
      have e3 : v3 = .slice none 0 0 := by unfold heldR at hv; injection hv with hv; injection hv with hv _; injection hv
      rw [hno, e3] at hrun
      have HV := hidH (show (keyR r k a b).vs = [.int 4, .bs []] by rw [keyR_none H0.out hfi]; rfl)
      have R4 := HR3.out
      have x0 := R4.cell 0
      have x1 := R4.cell 1
      have f0 := R4.frozen 0
      have f1 := R4.frozen 1
      simp only [List.getElem?_toArray, List.getElem?_cons_succ, List.getElem?_cons_zero] at x0 x1
      have hr := R4.lt
      clear hfi R4 hq hno hv e3 d1 d2 d3 d4 b3 HKE hb0
      go_wp2
      exact bodyPost_ret (v := .agg #[.int .i64 4, .slice none 0 0]) (by simp [results, Try.results29, go_sem, x0, x1]) rfl ⟨_, rfl, by rw [HV.out]; exact OwN.int 4 (OwN.nb (OwN.nil (Nat.le_refl _))), bst (bst HB3.out (Nat.le_refl _) _) (Nat.le_refl _) _⟩
    · obtain ⟨y, hy, e1, e2⟩ := sec_find hq hfi
      have hat := d2.1 y hy
      rw [e1] at hat
      have hhas := Maps.has_true_of_atKey hat
      rw [hat] at hv
      have e3 : v3 = y.val := by unfold heldR at hv; injection hv with hv; injection hv with hv _; injection hv
      have hrd := (d4.1 y hy).1.rd
      rw [e2] at hrd
      obtain ⟨A3, c3, e4⟩ := hrd.bs_sh
      rw [e4] at hrd e3
      rw [hhas, e3] at hrun
      have HV := hidH (keyR_some (a := a) (b := b) H0.out hfi)
      have HC := hidH (HJ.out x (List.mem_of_find?_eq_some hfi) A3 c3 w3 HB3.out hrd)
      obtain ⟨n, hn⟩ : ∃ n, x.Bytes.length = n := ⟨_, rfl⟩
      obtain ⟨z, hz⟩ : ∃ z, jkR x.Bytes a b = z := ⟨_, rfl⟩
      rw [hn, hz] at HC
      rw [hn] at hrun
      rw [hz] at HV
      clear hfi hq hat hhas hv e3 hrd e4 e1 e2 hy d1 d2 d3 d4 b3 HKE hb0 hn hz
      go_wp2_with fail
      refine HC.out.mono ?_
      rintro e w4 ⟨vs, rfl, O4, b4⟩
      obtain ⟨A5, c5, rfl⟩ := shape_BytesResult O4.rd
      have R4 := HR3.out.below b4
      have HB4 := hidH (btr HB3.out b4)
      have HO := hidH O4
      have HZ := hidH b4.size
      have x0 := R4.cell 0
      have x1 := R4.cell 1
      have f0 := R4.frozen 0
      have f1 := R4.frozen 1
      simp only [List.getElem?_toArray, List.getElem?_cons_succ, List.getElem?_cons_zero] at x0 x1
      have hr := R4.lt
      clear O4 b4 R4 HC hrun
      go_wp2
      exact bodyPost_ret (v := .agg #[.int .i64 z.Code, .slice A5 z.Bytes.length c5]) (by simp [results, Try.results29, go_sem, x0, x1]) rfl ⟨_, rfl, by
        rw [HV.out]
        refine OwN.mono (B := w3.heap.size) (C := w4.heap.size) ?_ (by have := HB3.out.size; omega) (by simp [World.setCell]) (Nat.le_refl _)
        iterate 2 (refine OwN.win (B' := u.heap.size) (C' := u.heap.size + 1) ?_ (set_win _ _ _ _) (.inr (by have := HS.out; have := HZ2.out; have := HZ3.out; omega)))
        exact HO.out, by
        iterate 2 (refine bst ?_ (Nat.le_refl _) _)
        exact HB4.out⟩
  · have q : (F != 0) = true := by rw [bne_iff_ne]; exact hz
    have HV := hidH (show (keyR r k a b).vs = [.int F, .bs []] by rw [keyR_fault (by rw [hF]; exact hz), hF]; rfl)
    have R4 := HR2.out
    have x0 := R4.cell 0
    have x1 := R4.cell 1
    have f0 := R4.frozen 0
    have f1 := R4.frozen 1
    simp only [List.getElem?_toArray, List.getElem?_cons_succ, List.getElem?_cons_zero] at x0 x1
    have hr := R4.lt
    clear hz hF R4
    go_wp2
    exact bodyPost_ret (v := .agg #[.int .i64 F, .slice none 0 0]) (by simp [results, Try.results29, go_sem, x0, x1]) rfl ⟨_, rfl, by rw [HV.out]; exact OwN.int F (OwN.nb (OwN.nil (Nat.le_refl _))), bst (bst HB2.out (Nat.le_refl _) _) (Nat.le_refl _) _⟩
end Go.Proofs.Ytjjileefdjjijaa
