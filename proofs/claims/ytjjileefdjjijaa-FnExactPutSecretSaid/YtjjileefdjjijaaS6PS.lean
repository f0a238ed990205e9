/- Chapter 6: the model's l6Copies, PutSecret. -/
import Derived.Test.YtjjileefdjjijaaS6CR
import Derived.Test.YtjjileefdjjijaaS6S
import Derived.Test.YtjjileefdjjijaaS6LI
namespace Go.Proofs.Ytjjileefdjjijaa
open Go.RowKit Go.Deep

def CpsR (r : List SecretM) (u : World) (e : Ending) (w' : World) : Prop := ∃ (v : Value) (q : List KE), e = .returned v ∧ q.map KE.sec = r ∧ w'.ownsRow u.heap.size 58 2 v r.length (flatK q) ∧ KTs u.heap.size w' q ∧ Below u.heap.size u w'
set_option maxRecDepth 100000 in
set_option maxHeartbeats 4000000 in
theorem cps_any (r : List SecretM) (v : Value) (u : World) (h : Rd u (st_Secret r) v) (h0 : ssF r = 0) : Calls Try.prog 59 #[v] u (CpsR r u) := by
  obtain ⟨A, c, rfl⟩ := st_Secret_sh h
  obtain ⟨z1, z2, z3⟩ := ssF_zero h0
  have hm : (r.length : Int) ≤ 4 := by omega
  have HI := hidH h
  have HZ := hidH (And.intro z1 (And.intro z2 z3))
  have HO0 := hidH (show (u.alloc (.cells #[] 58)).ownsRow u.heap.size 58 2 (.slice (some ⟨u.heap.size, 0, none⟩) 0 0) 0 [] from World.ownsRow_lit u #[] 0 (Nat.le_refl _) (by unfold maxLen; omega) rfl)
  have HB0 := hidH (bal (Below.refl u.heap.size u) (.cells #[] 58))
  clear h z1 z2 z3 h0
  go_enter Try.func59, Try.ntmps59
  go_wp2
  go_loopw [3, 4] (fun v i wr => ∃ (j : Nat) (q : List KE), j ≤ r.length ∧ i = .int .i64 j ∧ q.map KE.sec = r.take j ∧ wr.ownsRow u.heap.size 58 2 v j (flatK q) ∧ KTs u.heap.size wr q ∧ Below u.heap.size u wr) (fun _ i _ => r.length - (intOf i).toNat)
  case atStart => exact ⟨0, [], by omega, rfl, rfl, HO0.out, KTs.nil _ _, HB0.out⟩
  case round =>
    obtain ⟨j, q, hj, rfl, hq, ho, hk, hB⟩ := hrel
    have hj0 : (0 : Int) ≤ (j : Int) := by omega
    by_cases hlt : j < r.length
    · have hj1 : (j : Int) < (r.length : Int) := by omega
      obtain ⟨g, o, c', B, cB, e, hg, p0, p1, hx⟩ := sec_at HI.out hlt
      injection e with e1 e2 e3
      subst e1 e3
      have HO := hidH ho
      have HK := hidH hk
      have HBW := hidH hB
      have HQ := hidH hq
      have HLT := hidH hlt
      have HG := hidH hg
      have HP := hidH (And.intro p0 (And.intro p1 hx))
      clear ho hk hB hq hg p0 p1 hx
      go_wp2
      refine wp_region_any (by kernel_rfl) ?_
      refine regCp _ _ _ _ _ _ _ _ _ _ _ _ _ _ _ _ _ _ _ _ _ _ _ _ _ _ (flatK q) wr u.heap.size j j g o r.length c r[j].Id B r[j].Bytes cB HG.out (hidH (by have := HZ.out.1; have := HLT.out; omega)) hj1 hj0 (hidH (by have := (secF_zero (secsF_all HZ.out.2.1 _ (List.getElem_mem HLT.out))).2.2; omega)) (hidH (fun W hb => bs_below (rd_bs HP.out.2.2) (HBW.out.trans hb))) ((HBW.out.cell (p := ⟨g, o + j * 2, none⟩) HG.out).trans HP.out.1) ((HBW.out.cell (p := ⟨g, o + j * 2 + 1, none⟩) HG.out).trans HP.out.2.1) (by kernel_rfl) (by kernel_rfl) (by kernel_rfl) rfl (fun h => by cases h) (fun h => by cases h) (fun h => by cases h) (below_drewN (Below.refl _ _) 1) (U8K.refl _) HBW.out.size (Nat.le_refl _) (fun _ => HO.out) ?_
      intros
      rename_i W gB gU gS gW gR
      obtain ⟨A9, c9, o9, s9⟩ := gR
      obtain ⟨lo, hi, hlo, hkt⟩ := KT.of_row s9 gW r[j].Id
      have HN := hidH (show ((q ++ [KE.mk r[j].Id (.slice A9 r[j].Bytes.length c9) r[j].Bytes lo hi]).map KE.sec = r.take (j + 1)) ∧ KTs u.heap.size W (q ++ [KE.mk r[j].Id (.slice A9 r[j].Bytes.length c9) r[j].Bytes lo hi]) ∧ Below u.heap.size u W from by
        refine ⟨?_, (HK.out.turn gW gU).snoc hkt (Nat.le_trans HBW.out.size hlo) (fun y hy => Nat.le_trans ((HK.out.1 y hy).1.1.1) hlo), HBW.out.trans gB⟩
        rw [List.map_append, HQ.out, List.take_add_one, List.getElem?_eq_getElem HLT.out]
        rfl)
      have HO9 := hidH (show W.ownsRow u.heap.size 58 2 _ (j + 1) (flatK (q ++ [KE.mk r[j].Id (.slice A9 r[j].Bytes.length c9) r[j].Bytes lo hi])) by rw [flatK_app]; exact o9)
      clear gB gU gS gW o9 s9 hkt
      go_wp2
      go_roundw
      case rel => exact ⟨j + 1, _, HLT.out, by go_num, HN.out.1, HO9.out, HN.out.2.1, HN.out.2.2⟩
      case measure => simp [intOf]; have := HLT.out; omega
    · obtain rfl : j = r.length := by omega
      rw [List.take_length] at hq
      have HO := hidH ho
      have HK := hidH hk
      have HBW := hidH hB
      have HQ := hidH hq
      clear ho hk hB hq hlt hj
      go_wp2
      go_ret
      exact ⟨_, q, rfl, HQ.out, HO.out, HK.out, HBW.out⟩
/-- The list so far: its row stands apart from all that lay before the loop. -/
structure PtR (u wM : World) (B0 n : Nat) (l : List KE) (v : Value) (W : World) : Prop where
  row : W.ownsRow B0 58 2 v l.length (flatK l)
  own : ∀ k, v.ownBlock = some k → k = B0 ∨ wM.heap.size ≤ k
  kept : ∀ k, k < wM.heap.size → k ≠ B0 → W.heap[k]? = wM.heap[k]?
  below : Below u.heap.size u W
  u8 : U8K wM W
  size : wM.heap.size ≤ W.heap.size
  len : l.length ≤ n
  base : B0 ≤ W.heap.size
theorem PtR.drewN {u wM : World} {B0 n : Nat} {l : List KE} {v : Value} {W : World} (h : PtR u wM B0 n l v W) (m : Nat) : PtR u wM B0 n l v (W.drewN m) := ⟨h.row, h.own, h.kept, below_drewN h.below m, h.u8, h.size, h.len, h.base⟩
theorem PtR.mono {u wM : World} {B0 n m : Nat} {l : List KE} {v : Value} {W : World} (h : PtR u wM B0 n l v W) (k : n ≤ m) : PtR u wM B0 m l v W := ⟨h.row, h.own, h.kept, h.below, h.u8, h.size, Nat.le_trans h.len k, h.base⟩
theorem PtR.cell {u wM : World} {B0 n : Nat} {l : List KE} {v : Value} {W : World} (h : PtR u wM B0 n l v W) (p : Addr) (hp : p.block < wM.heap.size) (hne : p.block ≠ B0) : W.cell? p = wM.cell? p := World.cell?_of_block (h.kept p.block hp hne)
theorem PtR.app {u wM : World} {B0 n : Nat} {l : List KE} {v : Value} {W : World} (h : PtR u wM B0 n l v W) (x : KE) (cs : Array Value) {W6 : World} {v6 : Value} (hg : (W.alloc (.cells cs 58)).grownBy W6 v.ownBlock) (hat : v6.ownBlock = v.ownBlock ∨ v6.ownBlock = some (W.heap.size + 1))
    (o6 : W6.ownsRow B0 58 2 v6 (l.length + 1) (flatK l ++ [.int .i64 x.id, x.val])) (hu : u.heap.size ≤ B0) : PtR u wM B0 (n + 1) (l ++ [x]) v6 W6 := by
  have ba := bal (Below.refl W.heap.size W) (.cells cs 58)
  have ra := own_below0 h.row ba
  have hs : (W.alloc (.cells cs 58)).heap.size = W.heap.size + 1 := World.size_alloc _ _
  refine ⟨?_, fun k hk => ?_, fun k hk hne => ?_, ?_, ?_, ?_, ?_, ?_⟩
  · rw [List.length_append, flatK_app]; exact o6
  · rcases hat with e | e
    · exact h.own k (by rw [← e]; exact hk)
    · rw [e] at hk
      injection hk with hk
      have := h.size
      exact .inr (by omega)
  · have h1 : (W.alloc (.cells cs 58)).heap[k]? = W.heap[k]? := ba.block k (by have := h.size; omega)
    refine (hg.block k (by have := h.size; omega) (fun e => ?_)).trans (h1.trans (h.kept k hk hne))
    rcases h.own k (by first | exact e | exact e.symm) with e2 | e2
    · exact hne e2
    · omega
  · exact (h.below.trans (ba.mono h.below.size)).grown hg (by have := h.below.size; omega) (fun k hk => Nat.le_trans hu (ra.lt k hk).1)
  · exact h.u8.trans ((U8K.of_below ba).trans (U8K.of_grown hg ra))
  · have := hg.size; have := h.size; omega
  · rw [List.length_append]; have := h.len; simp; omega
  · have := hg.size; have := h.base; omega
theorem own_cellsB {w : World} {B s n : Nat} {e : TypeId} {v : Value} {xs : List Value} (h : w.ownsRow B e s v n xs) : ∃ (A : Option Addr) (c : Nat), v = .slice A n c ∧ ∀ j, j < n * s → ∃ g, A = some ⟨g, 0, none⟩ ∧ B ≤ g ∧ g < w.heap.size ∧ ∀ t, t < n * s → w.cell? ⟨g, t, none⟩ = xs[t]? := by
  have h' := h
  obtain ⟨h1, ⟨rfl, h0⟩ | ⟨g, cap, cur, rfl, h4, h5, h6⟩⟩ := h
  · exact ⟨none, 0, by rw [h0], fun j hj => by rw [h0] at hj; omega⟩
  · exact ⟨_, _, rfl, fun j hj => ⟨g, rfl, h4, (Array.getElem?_eq_some_iff.1 h5).1, fun t ht => h'.cellAt t ht⟩⟩
theorem flatK_at {q : List KE} : ∀ {j : Nat} (hj : j < q.length), (flatK q)[j * 2]? = some (.int .i64 q[j].id) ∧ (flatK q)[j * 2 + 1]? = some q[j].val := by
  induction q with
  | nil => intro j hj; simp at hj
  | cons x q ih =>
    intro j hj
    have e : flatK (x :: q) = .int .i64 x.id :: x.val :: flatK q := rfl
    rw [e]
    cases j with
    | zero => exact ⟨rfl, rfl⟩
    | succ j =>
      have := ih (j := j) (by simpa using hj)
      rw [show (j + 1) * 2 = j * 2 + 1 + 1 by omega]
      simpa using this
set_option maxRecDepth 100000 in
set_option maxHeartbeats 8000000 in
theorem pt_spec (r : List SecretM) (v : Value) (y : SecretM) (vs : List Value) (u : World) (h : Rd u (st_Secret r) v) (hw : WfV (st_Secret r)) (ht : tot (st_Secret r) ≤ 1048576) (h2 : RdA u y.vs vs) (_ : WfA y.vs) (_ : tot.totL y.vs ≤ 1048576) :
    Calls Try.prog 32 #[v, .agg vs.toArray] u (Res u (putR r y).vs) := by
  obtain ⟨A2, c2, rfl⟩ := shape_Secret h2
  obtain ⟨AA, cc2, e, ⟨hc, hcm⟩, hA⟩ := h2.tl.hd.bs_out
  injection e with e1 _ e3
  subst e1 e3
  have K1 := (Blk.new u 58 #[.int .i64 y.Id, .slice A2 y.Bytes.length c2]).alloc (.cells #[.int .i64 0, .slice none 0 0] 56)
  have R1 := Blk.new (u.alloc (.cells #[.int .i64 y.Id, .slice A2 y.Bytes.length c2] 58)) 56 #[.int .i64 0, .slice none 0 0]
  have B1 := bal (bal (Below.refl u.heap.size u) (.cells #[.int .i64 y.Id, .slice A2 y.Bytes.length c2] 58)) (.cells #[.int .i64 0, .slice none 0 0] 56)
  rw [World.size_alloc] at R1
  obtain ⟨w1, hw1⟩ : ∃ w1, (u.alloc (.cells #[.int .i64 y.Id, .slice A2 y.Bytes.length c2] 58)).alloc (.cells #[.int .i64 0, .slice none 0 0] 56) = w1 := ⟨_, rfl⟩
  have hs1 : w1.heap.size = u.heap.size + 1 + 1 := by rw [← hw1]; simp
  rw [hw1] at K1 R1 B1
  have HF := hidH (ss_spec r v w1 (Rd.below B1 _ h) hw ht)
  have HRD := hidH (fun (w : World) (hb : Below u.heap.size u w) => Rd.below hb _ h)
  have HPA := hidH (fun (w : World) (hb : Below u.heap.size u w) => bs_below hA hb)
  obtain ⟨PA, pc, rfl⟩ := st_Secret_sh h
  have HT := hidH (And.intro K1 (And.intro R1 B1))
  have HS := hidH hs1
  have HW := hidH hw1
  obtain ⟨F, hF⟩ : ∃ F, ssF r = F := ⟨_, rfl⟩
  obtain ⟨G, hG⟩ : ∃ G, secF y = G := ⟨_, rfl⟩
  rw [hF] at HF
  clear h h2 hw ht hA hc hcm K1 R1 B1 hs1 hw1
  go_enter Try.func32, Try.ntmps32
  go_wp2_with fail
  rw [HW.out]
  refine HF.out.mono ?_
  rintro e w2 ⟨rfl, b2⟩
  have HB2 := hidH (btr HT.out.2.2 b2)
  have HK2 := hidH (HT.out.1.below b2)
  have HR2 := hidH (HT.out.2.1.below b2)
  have HZ2 := hidH b2.size
  clear HF b2
  by_cases hz : F = 0
  · have q : (F != 0) = false := by rw [bne_eq_false_iff_eq]; exact hz
    have H0 := hidH (hF.trans hz)
    have HG := hidH (l6Fault_any u.heap.size 0 y A2 c2 w2 (by simpa using HK2.out.cell 0) (by simpa using HK2.out.cell 1))
    rw [hG] at HG
    clear hz hF
    go_wp2_with fail
    refine HG.out.mono ?_
    rintro e w3 ⟨rfl, h33⟩
    have b3 : Below w2.heap.size w2 w3 := by rw [← h33]; exact Below.refl _ _
    clear h33
    have HB3 := hidH (btr HB2.out b3)
    have HK3 := hidH (HK2.out.below b3)
    have HR3 := hidH (HR2.out.below b3)
    have HZ3 := hidH b3.size
    clear b3 HG
    by_cases hz : G = 0
    · have q : (G != 0) = false := by rw [bne_eq_false_iff_eq]; exact hz
      have G0 := hidH (hG.trans hz)
      have hO := (show (w3.alloc (.cells #[] 58)).ownsRow w3.heap.size 58 2 (.slice (some ⟨w3.heap.size, 0, none⟩) 0 0) 0 [] from World.ownsRow_lit w3 #[] 0 (Nat.le_refl _) (by unfold maxLen; omega) rfl)
      have b4 := bal (Below.refl w3.heap.size w3) (.cells #[] 58)
      obtain ⟨w4, hw4⟩ : ∃ w4, w3.alloc (.cells #[] 58) = w4 := ⟨_, rfl⟩
      have hs4 : w4.heap.size = w3.heap.size + 1 := by rw [← hw4]; simp
      rw [hw4] at hO b4
      have HW4 := hidH hw4
      have HO4 := hidH hO
      have HZ4 := hidH hs4
      have HB4 := hidH (btr HB3.out b4)
      have HK4 := hidH (HK3.out.below b4)
      have HR4 := hidH (HR3.out.below b4)
      have HB34 := hidH b4
      clear hz hG hO b4 hw4 hs4
      go_wp2
      rw [HW4.out]
      refine wp_region_any (by kernel_rfl) ?_
      refine regOw _ _ _ _ _ _ _ _ _ _ _ _ _ _ _ _ _ _ _ _ w4 u.heap.size c2 y.Id A2 y.Bytes HK4.out.lt (by simpa using HK4.out.cell 0) (by simpa using HK4.out.cell 1) (by have := (secF_zero G0.out).2.2; omega) (hidH (fun W hb => HPA.out W (btr HB4.out hb))) (by kernel_rfl) (by kernel_rfl) (by kernel_rfl) rfl (fun h => by cases h) (below_drewN (Below.refl _ _) 1) ?_
      intros
      rename_i w5 gO gX
      obtain ⟨gs, A9, c9, rfl, kg, o9, hgs⟩ := gX
      obtain ⟨lo, hi, hlo, hkt⟩ := KT.of_row o9 gO.size y.Id
      have HO5 := hidH (own_below0 HO4.out gO)
      have HKT := hidH hkt
      have HKG := hidH kg
      have HLO := hidH (And.intro hlo hgs)
      have HB5 := hidH (btr HB4.out gO)
      have HK5 := hidH (HK4.out.below gO)
      have HR5 := hidH (HR4.out.below gO)
      have HZ5 := hidH gO.size
      have HCP := hidH (cps_any r _ w5 (HRD.out w5 HB5.out) H0.out)
      clear gO kg o9 hgs hlo hkt
      go_wp2_with fail
      refine HCP.out.mono ?_
      rintro e w6 ⟨va, qa, rfl, hqa, oa, hka, b6⟩
      obtain ⟨AL, cl, rfl, hcell⟩ := own_cellsB oa
      have hlq : qa.length = r.length := by rw [← hqa, List.length_map]
      have HQA := hidH hqa
      have HLQ := hidH hlq
      have HCL := hidH hcell
      have HKA := hidH hka
      have HKS := hidH (HKT.out.turn b6.size (U8K.of_below b6))
      have HSO := hidH (And.intro ((HKG.out.below b6).cell 0) ((HKG.out.below b6).cell 1))
      have HSI := hidH (show w6.cell? ⟨u.heap.size, 0, none⟩ = some (.int .i64 y.Id) by simpa using (HK5.out.below b6).cell 0)
      have HR6 := hidH (HR5.out.below b6)
      have HGU := hidH (show u.heap.size < w6.heap.size ∧ u.heap.size ≠ w3.heap.size by have := HS.out; have := HZ2.out; have := HZ3.out; have := HZ4.out; have := HZ5.out; have := b6.size; omega)
      have HGR := hidH (show u.heap.size + 1 < w6.heap.size ∧ u.heap.size + 1 ≠ w3.heap.size ∧ u.heap.size + 1 + 1 ≤ w3.heap.size by have := HS.out; have := HZ2.out; have := HZ3.out; have := HZ4.out; have := HZ5.out; have := b6.size; omega)
      have HGS := hidH (show gs < w6.heap.size ∧ gs ≠ w3.heap.size by have := HLO.out.2; have := HZ4.out; have := HKG.out.lt; have := b6.size; omega)
      have HZ6 := hidH b6.size
      have HB0 := hidH (show u.heap.size ≤ w3.heap.size from HB3.out.size)
      obtain ⟨B0, hB0⟩ : ∃ B0, w3.heap.size = B0 := ⟨_, rfl⟩
      have HAS := hidH (show AscK qa by
        have := secsO_asc (ssF_zero H0.out).2.2
        rw [← hqa] at this
        unfold Asc at this
        rw [List.pairwise_map] at this
        exact this)
      obtain ⟨s, hs⟩ : ∃ s : KE, s = KE.mk y.Id (.slice A9 y.Bytes.length c9) y.Bytes lo hi := ⟨_, rfl⟩
      have HST := hidH (show PtR u w6 w3.heap.size 0 [] (.slice (some ⟨w3.heap.size, 0, none⟩) 0 0) w6 from ⟨own_below0 HO5.out b6, fun k hk => .inl (by simp [Value.ownBlock] at hk; exact hk.symm), fun _ _ _ => rfl, btr HB5.out b6, U8K.refl _, Nat.le_refl _, Nat.le_refl _, by have := HZ4.out; have := HZ5.out; have := b6.size; omega⟩)
      have HFIN := hidH (fun (l : List KE) (n : Nat) (W : World) (vv : Value) (hp : PtR u w6 w3.heap.size n l vv W) (he : fin1 s (qa.foldl (stp s) ([], false)) = l) => show l.map KE.sec = insS y r ∧ OwV w3.heap.size W.heap.size W (st_Secret (l.map KE.sec)) vv from by
        obtain ⟨k1, k2⟩ := stp_ins s qa [] HAS.out
        rw [he] at k1 k2
        have hin : ∀ x ∈ l, KT W x ∧ w3.heap.size ≤ x.lo := fun x hx => by
          have h3 := k2.mem_iff.1 hx
          simp only [List.nil_append, List.mem_append, List.mem_filter, List.mem_cons, List.not_mem_nil, or_false] at h3
          rcases h3 with ⟨h3, _⟩ | h3
          · exact ⟨(HKA.out.1 x h3).1.turn hp.size hp.u8, by have := (HKA.out.1 x h3).2; have := HZ4.out; have := HZ5.out; omega⟩
          · rw [h3, hs]; exact ⟨HKS.out.turn hp.size hp.u8, by have := HLO.out.1; have := HZ4.out; show w3.heap.size ≤ lo; omega⟩
        refine ⟨?_, own_secs (B := w3.heap.size) hp.row rfl (Nat.le_refl _) (fun x hx => ⟨(hin x hx).1.1, (hin x hx).2⟩) (fun g cs _ hh x hx => (hin x hx).1.far hh) ?_⟩
        · rw [k1, HQA.out, hs]; rfl
        · refine (List.Perm.pairwise_iff (fun h => h.symm) k2).2 ?_
          rw [List.nil_append]
          refine List.pairwise_append.2 ⟨HKA.out.2.filter _, by simp, fun x hx z hz => ?_⟩
          simp only [List.mem_cons, List.not_mem_nil, or_false] at hz
          subst hz
          rw [hs]
          refine .inr ?_
          have := (HKA.out.1 x (List.mem_filter.1 hx).1).2
          have : hi ≤ w5.heap.size := HKT.out.1.1
          show hi ≤ x.lo
          omega)
      have HSS := hidH hs
      rw [hB0] at HB0 HGU HGR HGS HST HFIN
      have HZR := hidH (ssF_zero H0.out).1
      have hmr : (r.length : Int) ≤ 4 := by have := HZR.out; omega
      have HBB := hidH hB0
      clear hqa oa hka b6 hcell hlq hB0 HCP hs
      go_wp2_with fail
      rw [HBB.out]
      go_loopw [7, 8, 11] (fun v d i wr => ∃ (j : Nat) (l : List KE) (b : Bool), j ≤ r.length ∧ i = .int .i64 (j : Int) ∧ d = .bool b ∧ (qa.take j).foldl (stp s) ([], false) = (l, b) ∧ PtR u w6 B0 (2 * j) l v wr) (fun _ _ i _ => r.length - (intOf i).toNat)
      case atStart => exact ⟨0, [], false, Nat.zero_le _, rfl, rfl, rfl, HST.out⟩
      case round =>
        obtain ⟨j, l, b, hj, rfl, rfl, hst, hP⟩ := hrel
        have hj0 : (0 : Int) ≤ (j : Int) := by omega
        have HP := hidH hP
        by_cases hlt : j < r.length
        · have hj1 : (j : Int) < (r.length : Int) := by omega
          have hjq : j < qa.length := by rw [HLQ.out]; exact hlt
          obtain ⟨ga, rfl, hga1, hga2, hgc⟩ := HCL.out (j * 2) (by omega)
          have c0 := (hgc (j * 2) (by omega)).trans (flatK_at hjq).1
          have c1 := (hgc (j * 2 + 1) (by omega)).trans (flatK_at hjq).2
          have HNX := hidH (show (qa.take (j + 1)).foldl (stp s) ([], false) = stp s (l, b) qa[j] by rw [List.take_add_one, List.getElem?_eq_getElem hjq, List.foldl_append, hst]; rfl)
          obtain ⟨AX, cX, hvx⟩ := (HKA.out.1 _ (List.getElem_mem hjq)).1.1.rd.bs_sh
          rw [hvx] at c1
          obtain ⟨x, hx⟩ : ∃ x, qa[j] = x := ⟨_, rfl⟩
          rw [hx] at c0 c1 HNX hvx
          obtain ⟨xi, xv, xb, xlo, xhi⟩ := x
          simp only at c0 c1 hvx
          subst hvx
          have HC := hidH (And.intro c0 c1)
          have HGA := hidH (show ga < w6.heap.size ∧ ga ≠ B0 by have := HBB.out; have := HZ4.out; have := HZ5.out; omega)
          have HLT := hidH hlt
          clear hP hst hga1 hga2 hgc c0 c1 hx hlt hjq
          cases b
          · by_cases hle : y.Id ≤ xi
            · have gle : decide (y.Id ≤ xi) = true := decide_eq_true hle
              by_cases heq : xi = y.Id
              · have gne : (xi != y.Id) = false := by rw [bne_eq_false_iff_eq]; exact heq
                have c0 := fun m : Nat => (PtR.cell (HP.out.drewN m) ⟨ga, j * 2, none⟩ HGA.out.1 HGA.out.2).trans HC.out.1
                have c1 := fun m : Nat => (PtR.cell (HP.out.drewN m) ⟨ga, j * 2 + 1, none⟩ HGA.out.1 HGA.out.2).trans HC.out.2
                have s0 := fun m : Nat => (PtR.cell (HP.out.drewN m) ⟨u.heap.size, 0, none⟩ HGU.out.1 HGU.out.2).trans HSI.out
                have t0 := fun m : Nat => (PtR.cell (HP.out.drewN m) ⟨gs, 0, none⟩ HGS.out.1 HGS.out.2).trans HSO.out.1
                have t1 := fun m : Nat => (PtR.cell (HP.out.drewN m) ⟨gs, 1, none⟩ HGS.out.1 HGS.out.2).trans HSO.out.2
                have e0 := PtR.cell HP.out ⟨ga, j * 2, none⟩ HGA.out.1 HGA.out.2 |>.trans HC.out.1
                have e1 := PtR.cell HP.out ⟨ga, j * 2 + 1, none⟩ HGA.out.1 HGA.out.2 |>.trans HC.out.2
                have e2 := PtR.cell HP.out ⟨u.heap.size, 0, none⟩ HGU.out.1 HGU.out.2 |>.trans HSI.out
                go_wp2
                go_quiet (fail)
                go_wp2_with (at_builtin; go_loud (refine wpList_append_SecAt rfl _ _ rfl B0 _ (l).length (flatK (l)) rfl (own_below0 (PtR.drewN HP.out _).1 (bal (Below.refl _ _) _)) _ _ y.Id A9 y.Bytes.length c9 rfl (Blk.new _ _ _) (by have := (HP.out).len; omega) (Nat.le_trans (PtR.base HP.out) (by simp [World.drewN])) ?_))
                intro v16 w16 o16 hg16 hat16
                have HP1 := hidH (PtR.app (PtR.drewN HP.out _) (KE.mk y.Id (.slice A9 y.Bytes.length c9) y.Bytes lo hi) _ hg16 hat16 (by first | exact o16 | (rw [List.length_append]; exact o16)) HB0.out)
                clear o16 hg16 hat16
                clear c0 c1 s0 t0 t1 e0 e1 e2
                have c0 := fun m : Nat => (PtR.cell (HP1.out.drewN m) ⟨ga, j * 2, none⟩ HGA.out.1 HGA.out.2).trans HC.out.1
                have c1 := fun m : Nat => (PtR.cell (HP1.out.drewN m) ⟨ga, j * 2 + 1, none⟩ HGA.out.1 HGA.out.2).trans HC.out.2
                have s0 := fun m : Nat => (PtR.cell (HP1.out.drewN m) ⟨u.heap.size, 0, none⟩ HGU.out.1 HGU.out.2).trans HSI.out
                have t0 := fun m : Nat => (PtR.cell (HP1.out.drewN m) ⟨gs, 0, none⟩ HGS.out.1 HGS.out.2).trans HSO.out.1
                have t1 := fun m : Nat => (PtR.cell (HP1.out.drewN m) ⟨gs, 1, none⟩ HGS.out.1 HGS.out.2).trans HSO.out.2
                have e0 := PtR.cell HP1.out ⟨ga, j * 2, none⟩ HGA.out.1 HGA.out.2 |>.trans HC.out.1
                have e1 := PtR.cell HP1.out ⟨ga, j * 2 + 1, none⟩ HGA.out.1 HGA.out.2 |>.trans HC.out.2
                have e2 := PtR.cell HP1.out ⟨u.heap.size, 0, none⟩ HGU.out.1 HGU.out.2 |>.trans HSI.out
                go_wp2
                go_quiet (fail)
                have HNN := HNX.out
                rw [HSS.out] at HNN
                have HNY := hidH (show (qa.take (j + 1)).foldl (stp s) ([], false) = (l ++ [KE.mk y.Id (.slice A9 y.Bytes.length c9) y.Bytes lo hi], true) by rw [HSS.out, HNN]; simp [stp, heq])
                clear HNN
                go_wp2
                go_roundw
                case rel => exact ⟨j + 1, _, _, HLT.out, by go_num, rfl, HNY.out, PtR.mono (PtR.drewN HP1.out _) (by omega)⟩
                case measure => simp [intOf]; have := HLT.out; omega
              · have gne : (xi != y.Id) = true := by rw [bne_iff_ne]; exact heq
                have c0 := fun m : Nat => (PtR.cell (HP.out.drewN m) ⟨ga, j * 2, none⟩ HGA.out.1 HGA.out.2).trans HC.out.1
                have c1 := fun m : Nat => (PtR.cell (HP.out.drewN m) ⟨ga, j * 2 + 1, none⟩ HGA.out.1 HGA.out.2).trans HC.out.2
                have s0 := fun m : Nat => (PtR.cell (HP.out.drewN m) ⟨u.heap.size, 0, none⟩ HGU.out.1 HGU.out.2).trans HSI.out
                have t0 := fun m : Nat => (PtR.cell (HP.out.drewN m) ⟨gs, 0, none⟩ HGS.out.1 HGS.out.2).trans HSO.out.1
                have t1 := fun m : Nat => (PtR.cell (HP.out.drewN m) ⟨gs, 1, none⟩ HGS.out.1 HGS.out.2).trans HSO.out.2
                have e0 := PtR.cell HP.out ⟨ga, j * 2, none⟩ HGA.out.1 HGA.out.2 |>.trans HC.out.1
                have e1 := PtR.cell HP.out ⟨ga, j * 2 + 1, none⟩ HGA.out.1 HGA.out.2 |>.trans HC.out.2
                have e2 := PtR.cell HP.out ⟨u.heap.size, 0, none⟩ HGU.out.1 HGU.out.2 |>.trans HSI.out
                go_wp2
                go_quiet (fail)
                go_wp2_with (at_builtin; go_loud (refine wpList_append_SecAt rfl _ _ rfl B0 _ (l).length (flatK (l)) rfl (own_below0 (PtR.drewN HP.out _).1 (bal (Below.refl _ _) _)) _ _ y.Id A9 y.Bytes.length c9 rfl (Blk.new _ _ _) (by have := (HP.out).len; omega) (Nat.le_trans (PtR.base HP.out) (by simp [World.drewN])) ?_))
                intro v16 w16 o16 hg16 hat16
                have HP1 := hidH (PtR.app (PtR.drewN HP.out _) (KE.mk y.Id (.slice A9 y.Bytes.length c9) y.Bytes lo hi) _ hg16 hat16 (by first | exact o16 | (rw [List.length_append]; exact o16)) HB0.out)
                clear o16 hg16 hat16
                clear c0 c1 s0 t0 t1 e0 e1 e2
                have c0 := fun m : Nat => (PtR.cell (HP1.out.drewN m) ⟨ga, j * 2, none⟩ HGA.out.1 HGA.out.2).trans HC.out.1
                have c1 := fun m : Nat => (PtR.cell (HP1.out.drewN m) ⟨ga, j * 2 + 1, none⟩ HGA.out.1 HGA.out.2).trans HC.out.2
                have s0 := fun m : Nat => (PtR.cell (HP1.out.drewN m) ⟨u.heap.size, 0, none⟩ HGU.out.1 HGU.out.2).trans HSI.out
                have t0 := fun m : Nat => (PtR.cell (HP1.out.drewN m) ⟨gs, 0, none⟩ HGS.out.1 HGS.out.2).trans HSO.out.1
                have t1 := fun m : Nat => (PtR.cell (HP1.out.drewN m) ⟨gs, 1, none⟩ HGS.out.1 HGS.out.2).trans HSO.out.2
                have e0 := PtR.cell HP1.out ⟨ga, j * 2, none⟩ HGA.out.1 HGA.out.2 |>.trans HC.out.1
                have e1 := PtR.cell HP1.out ⟨ga, j * 2 + 1, none⟩ HGA.out.1 HGA.out.2 |>.trans HC.out.2
                have e2 := PtR.cell HP1.out ⟨u.heap.size, 0, none⟩ HGU.out.1 HGU.out.2 |>.trans HSI.out
                go_wp2
                go_quiet (fail)
                go_wp2_with (at_builtin; go_loud (refine wpList_append_SecAt rfl _ _ rfl B0 _ (l ++ [KE.mk y.Id (.slice A9 y.Bytes.length c9) y.Bytes lo hi]).length (flatK (l ++ [KE.mk y.Id (.slice A9 y.Bytes.length c9) y.Bytes lo hi])) rfl (own_below0 (PtR.drewN HP1.out _).1 (bal (Below.refl _ _) _)) _ _ xi AX xb.length cX rfl (Blk.new _ _ _) (by have := (HP1.out).len; omega) (Nat.le_trans (PtR.base HP1.out) (by simp [World.drewN])) ?_))
                intro v17 w17 o17 hg17 hat17
                have HP2 := hidH (PtR.app (PtR.drewN HP1.out _) (KE.mk xi (.slice AX xb.length cX) xb xlo xhi) _ hg17 hat17 (by first | exact o17 | (rw [List.length_append]; exact o17)) HB0.out)
                clear o17 hg17 hat17
                have HNN := HNX.out
                rw [HSS.out] at HNN
                have HNY := hidH (show (qa.take (j + 1)).foldl (stp s) ([], false) = (l ++ [KE.mk y.Id (.slice A9 y.Bytes.length c9) y.Bytes lo hi] ++ [KE.mk xi (.slice AX xb.length cX) xb xlo xhi], true) by rw [HSS.out, HNN]; simp [stp, hle, heq])
                clear HNN
                go_wp2
                go_roundw
                case rel => exact ⟨j + 1, _, _, HLT.out, by go_num, rfl, HNY.out, PtR.mono HP2.out (by omega)⟩
                case measure => simp [intOf]; have := HLT.out; omega
            · have gle : decide (y.Id ≤ xi) = false := decide_eq_false hle
              have heq : ¬ xi = y.Id := by omega
              have gne : (xi != y.Id) = true := by rw [bne_iff_ne]; exact heq
              have c0 := fun m : Nat => (PtR.cell (HP.out.drewN m) ⟨ga, j * 2, none⟩ HGA.out.1 HGA.out.2).trans HC.out.1
              have c1 := fun m : Nat => (PtR.cell (HP.out.drewN m) ⟨ga, j * 2 + 1, none⟩ HGA.out.1 HGA.out.2).trans HC.out.2
              have s0 := fun m : Nat => (PtR.cell (HP.out.drewN m) ⟨u.heap.size, 0, none⟩ HGU.out.1 HGU.out.2).trans HSI.out
              have t0 := fun m : Nat => (PtR.cell (HP.out.drewN m) ⟨gs, 0, none⟩ HGS.out.1 HGS.out.2).trans HSO.out.1
              have t1 := fun m : Nat => (PtR.cell (HP.out.drewN m) ⟨gs, 1, none⟩ HGS.out.1 HGS.out.2).trans HSO.out.2
              have e0 := PtR.cell HP.out ⟨ga, j * 2, none⟩ HGA.out.1 HGA.out.2 |>.trans HC.out.1
              have e1 := PtR.cell HP.out ⟨ga, j * 2 + 1, none⟩ HGA.out.1 HGA.out.2 |>.trans HC.out.2
              have e2 := PtR.cell HP.out ⟨u.heap.size, 0, none⟩ HGU.out.1 HGU.out.2 |>.trans HSI.out
              go_wp2
              go_quiet (fail)
              go_wp2
              go_quiet (fail)
              go_wp2_with (at_builtin; go_loud (refine wpList_append_SecAt rfl _ _ rfl B0 _ (l).length (flatK (l)) rfl (own_below0 (PtR.drewN HP.out _).1 (bal (Below.refl _ _) _)) _ _ xi AX xb.length cX rfl (Blk.new _ _ _) (by have := (HP.out).len; omega) (Nat.le_trans (PtR.base HP.out) (by simp [World.drewN])) ?_))
              intro v17 w17 o17 hg17 hat17
              have HP2 := hidH (PtR.app (PtR.drewN HP.out _) (KE.mk xi (.slice AX xb.length cX) xb xlo xhi) _ hg17 hat17 (by first | exact o17 | (rw [List.length_append]; exact o17)) HB0.out)
              clear o17 hg17 hat17
              have HNN := HNX.out
              rw [HSS.out] at HNN
              have HNY := hidH (show (qa.take (j + 1)).foldl (stp s) ([], false) = (l ++ [KE.mk xi (.slice AX xb.length cX) xb xlo xhi], false) by rw [HSS.out, HNN]; simp [stp, (show ¬ y.Id ≤ xi by omega), heq])
              clear HNN
              go_wp2
              go_roundw
              case rel => exact ⟨j + 1, _, _, HLT.out, by go_num, rfl, HNY.out, PtR.mono HP2.out (by omega)⟩
              case measure => simp [intOf]; have := HLT.out; omega
          · by_cases heq : xi = y.Id
            · have gne : (xi != y.Id) = false := by rw [bne_eq_false_iff_eq]; exact heq
              have c0 := fun m : Nat => (PtR.cell (HP.out.drewN m) ⟨ga, j * 2, none⟩ HGA.out.1 HGA.out.2).trans HC.out.1
              have c1 := fun m : Nat => (PtR.cell (HP.out.drewN m) ⟨ga, j * 2 + 1, none⟩ HGA.out.1 HGA.out.2).trans HC.out.2
              have s0 := fun m : Nat => (PtR.cell (HP.out.drewN m) ⟨u.heap.size, 0, none⟩ HGU.out.1 HGU.out.2).trans HSI.out
              have t0 := fun m : Nat => (PtR.cell (HP.out.drewN m) ⟨gs, 0, none⟩ HGS.out.1 HGS.out.2).trans HSO.out.1
              have t1 := fun m : Nat => (PtR.cell (HP.out.drewN m) ⟨gs, 1, none⟩ HGS.out.1 HGS.out.2).trans HSO.out.2
              have e0 := PtR.cell HP.out ⟨ga, j * 2, none⟩ HGA.out.1 HGA.out.2 |>.trans HC.out.1
              have e1 := PtR.cell HP.out ⟨ga, j * 2 + 1, none⟩ HGA.out.1 HGA.out.2 |>.trans HC.out.2
              have e2 := PtR.cell HP.out ⟨u.heap.size, 0, none⟩ HGU.out.1 HGU.out.2 |>.trans HSI.out
              go_wp2
              go_quiet (fail)
              go_wp2
              go_quiet (fail)
              have HNN := HNX.out
              rw [HSS.out] at HNN
              have HNY := hidH (show (qa.take (j + 1)).foldl (stp s) ([], false) = (l, true) by rw [HSS.out, HNN]; simp [stp, heq])
              clear HNN
              go_wp2
              go_roundw
              case rel => exact ⟨j + 1, _, _, HLT.out, by go_num, rfl, HNY.out, PtR.mono (PtR.drewN HP.out _) (by omega)⟩
              case measure => simp [intOf]; have := HLT.out; omega
            · have gne : (xi != y.Id) = true := by rw [bne_iff_ne]; exact heq
              have c0 := fun m : Nat => (PtR.cell (HP.out.drewN m) ⟨ga, j * 2, none⟩ HGA.out.1 HGA.out.2).trans HC.out.1
              have c1 := fun m : Nat => (PtR.cell (HP.out.drewN m) ⟨ga, j * 2 + 1, none⟩ HGA.out.1 HGA.out.2).trans HC.out.2
              have s0 := fun m : Nat => (PtR.cell (HP.out.drewN m) ⟨u.heap.size, 0, none⟩ HGU.out.1 HGU.out.2).trans HSI.out
              have t0 := fun m : Nat => (PtR.cell (HP.out.drewN m) ⟨gs, 0, none⟩ HGS.out.1 HGS.out.2).trans HSO.out.1
              have t1 := fun m : Nat => (PtR.cell (HP.out.drewN m) ⟨gs, 1, none⟩ HGS.out.1 HGS.out.2).trans HSO.out.2
              have e0 := PtR.cell HP.out ⟨ga, j * 2, none⟩ HGA.out.1 HGA.out.2 |>.trans HC.out.1
              have e1 := PtR.cell HP.out ⟨ga, j * 2 + 1, none⟩ HGA.out.1 HGA.out.2 |>.trans HC.out.2
              have e2 := PtR.cell HP.out ⟨u.heap.size, 0, none⟩ HGU.out.1 HGU.out.2 |>.trans HSI.out
              go_wp2
              go_quiet (fail)
              go_wp2
              go_quiet (fail)
              go_wp2_with (at_builtin; go_loud (refine wpList_append_SecAt rfl _ _ rfl B0 _ (l).length (flatK (l)) rfl (own_below0 (PtR.drewN HP.out _).1 (bal (Below.refl _ _) _)) _ _ xi AX xb.length cX rfl (Blk.new _ _ _) (by have := (HP.out).len; omega) (Nat.le_trans (PtR.base HP.out) (by simp [World.drewN])) ?_))
              intro v17 w17 o17 hg17 hat17
              have HP2 := hidH (PtR.app (PtR.drewN HP.out _) (KE.mk xi (.slice AX xb.length cX) xb xlo xhi) _ hg17 hat17 (by first | exact o17 | (rw [List.length_append]; exact o17)) HB0.out)
              clear o17 hg17 hat17
              have HNN := HNX.out
              rw [HSS.out] at HNN
              have HNY := hidH (show (qa.take (j + 1)).foldl (stp s) ([], false) = (l ++ [KE.mk xi (.slice AX xb.length cX) xb xlo xhi], true) by rw [HSS.out, HNN]; simp [stp, heq])
              clear HNN
              go_wp2
              go_roundw
              case rel => exact ⟨j + 1, _, _, HLT.out, by go_num, rfl, HNY.out, PtR.mono HP2.out (by omega)⟩
              case measure => simp [intOf]; have := HLT.out; omega
        · obtain rfl : j = r.length := by omega
          have hfold : qa.foldl (stp s) ([], false) = (l, b) := by rw [← hst, List.take_of_length_le (by rw [HLQ.out]; exact Nat.le_refl _)]
          have HR7 := hidH (show Blk wr (u.heap.size + 1) 56 #[.int .i64 0, .slice none 0 0] from (hP.kept _ HGR.out.1 HGR.out.2.1).trans HR6.out)
          clear hst hlt hj
          cases b
          · have HFO := hidH (show fin1 s (qa.foldl (stp s) ([], false)) = l ++ [s] by rw [hfold]; rfl)
            clear hfold
            have e0 := (PtR.cell hP ⟨gs, 0, none⟩ HGS.out.1 HGS.out.2).trans HSO.out.1
            have e1 := (PtR.cell hP ⟨gs, 1, none⟩ HGS.out.1 HGS.out.2).trans HSO.out.2
            go_wp2_with (at_builtin; go_loud (refine wpList_append_SecAt rfl _ _ rfl B0 _ (l).length (flatK (l)) rfl (own_below0 (hP).1 (bal (Below.refl _ _) _)) _ _ y.Id A9 y.Bytes.length c9 rfl (Blk.new _ _ _) (by have := (hP).len; omega) (Nat.le_trans (PtR.base hP) (by simp)) ?_))
            intro v16 w6x o16 hg16 hat16
            have HP1 := hidH (PtR.app (hP) (KE.mk y.Id (.slice A9 y.Bytes.length c9) y.Bytes lo hi) _ hg16 hat16 (by first | exact o16 | (rw [List.length_append]; exact o16)) HB0.out)
            clear o16 hg16 hat16
            obtain ⟨HM, HV0⟩ := HFIN.out _ _ _ _ HP1.out (by rw [HFO.out, HSS.out])
            have HLEN := hidH (congrArg List.length HM)
            have HRB := hidH (show Blk w6x (u.heap.size + 1) 56 #[.int .i64 0, .slice none 0 0] from (HP1.out.kept _ HGR.out.1 HGR.out.2.1).trans HR6.out)
            have HQ := hidH HP1.out
            have HVV := hidH HV0
            have HMM := hidH HM
            clear HM HV0 hP
            obtain ⟨AV, cV, rfl⟩ := own_lenS HQ.out.row
            obtain ⟨n4, hn4⟩ : ∃ n, (l ++ [KE.mk y.Id (.slice A9 y.Bytes.length c9) y.Bytes lo hi]).length = n := ⟨_, rfl⟩
            rw [hn4]
            have HN4 := hidH hn4
            by_cases h4 : n4 ≤ 4
            · have h4I : ¬ (4 : Int) < (n4 : Int) := by omega
              have HV := hidH (show (putR r y).vs = [.int 0, st_Secret (insS y r)] by rw [putR, if_pos H0.out, if_pos G0.out, if_pos (by rw [← HLEN.out, List.length_map, HN4.out]; exact h4)]; rfl)
              have x0 := HRB.out.cell 0
              have x1 := HRB.out.cell 1
              have f0 := HRB.out.frozen 0
              have f1 := HRB.out.frozen 1
              simp only [List.getElem?_toArray, List.getElem?_cons_succ, List.getElem?_cons_zero] at x0 x1
              have hr := HRB.out.lt
              clear h4 hn4
              go_wp2
              exact bodyPost_ret (v := .agg #[.int .i64 0, .slice AV n4 cV]) (by simp [results, Try.results32, go_sem, x0, x1]) rfl ⟨_, rfl, by
                rw [HV.out]
                refine OwN.int 0 (OwN.mono (B := B0) (C := w6x.heap.size) ?_ HB0.out (by simp [World.setCell]) (Nat.le_refl _))
                iterate 2 (refine OwN.win (B' := u.heap.size + 1) (C' := u.heap.size + 1 + 1) ?_ (set_win _ _ _ _) (.inr (by have := HGR.out.2.2; omega)))
                have hvv := HVV.out
                rw [HMM.out, HN4.out] at hvv
                exact OwN.cons (B := B0) (C := w6x.heap.size) (D := w6x.heap.size) hvv (OwN.nil (Nat.le_refl _)) HQ.out.base (Nat.le_refl _), bst (bst HQ.out.below (Nat.le_succ _) _) (Nat.le_succ _) _⟩
            · have h4I : (4 : Int) < (n4 : Int) := by omega
              have HV := hidH (show (putR r y).vs = [.int 7, st_Secret []] by rw [putR, if_pos H0.out, if_pos G0.out, if_neg (by rw [← HLEN.out, List.length_map, HN4.out]; exact h4)]; rfl)
              have x0 := HRB.out.cell 0
              have x1 := HRB.out.cell 1
              have f0 := HRB.out.frozen 0
              have f1 := HRB.out.frozen 1
              simp only [List.getElem?_toArray, List.getElem?_cons_succ, List.getElem?_cons_zero] at x0 x1
              have hr := HRB.out.lt
              clear h4 hn4
              go_wp2
              exact bodyPost_ret (v := .agg #[.int .i64 7, .slice none 0 0]) (by simp [results, Try.results32, go_sem, x0, x1]) rfl ⟨_, rfl, by rw [HV.out]; exact OwN.int _ (OwN.noS (OwN.nil (Nat.le_refl _))), bst (bst HQ.out.below (Nat.le_succ _) _) (Nat.le_succ _) _⟩
          · have HFO := hidH (show fin1 s (qa.foldl (stp s) ([], false)) = l by rw [hfold]; rfl)
            clear hfold
            obtain ⟨HM, HV0⟩ := HFIN.out _ _ _ _ hP (by rw [HFO.out])
            have HLEN := hidH (congrArg List.length HM)
            have HRB := hidH HR7.out
            have HQ := hidH hP
            have HVV := hidH HV0
            have HMM := hidH HM
            clear HM HV0 hP
            obtain ⟨AV, cV, rfl⟩ := own_lenS HQ.out.row
            obtain ⟨n4, hn4⟩ : ∃ n, (l).length = n := ⟨_, rfl⟩
            rw [hn4]
            have HN4 := hidH hn4
            by_cases h4 : n4 ≤ 4
            · have h4I : ¬ (4 : Int) < (n4 : Int) := by omega
              have HV := hidH (show (putR r y).vs = [.int 0, st_Secret (insS y r)] by rw [putR, if_pos H0.out, if_pos G0.out, if_pos (by rw [← HLEN.out, List.length_map, HN4.out]; exact h4)]; rfl)
              have x0 := HRB.out.cell 0
              have x1 := HRB.out.cell 1
              have f0 := HRB.out.frozen 0
              have f1 := HRB.out.frozen 1
              simp only [List.getElem?_toArray, List.getElem?_cons_succ, List.getElem?_cons_zero] at x0 x1
              have hr := HRB.out.lt
              clear h4 hn4
              go_wp2
              exact bodyPost_ret (v := .agg #[.int .i64 0, .slice AV n4 cV]) (by simp [results, Try.results32, go_sem, x0, x1]) rfl ⟨_, rfl, by
                rw [HV.out]
                refine OwN.int 0 (OwN.mono (B := B0) (C := wr.heap.size) ?_ HB0.out (by simp [World.setCell]) (Nat.le_refl _))
                iterate 2 (refine OwN.win (B' := u.heap.size + 1) (C' := u.heap.size + 1 + 1) ?_ (set_win _ _ _ _) (.inr (by have := HGR.out.2.2; omega)))
                have hvv := HVV.out
                rw [HMM.out, HN4.out] at hvv
                exact OwN.cons (B := B0) (C := wr.heap.size) (D := wr.heap.size) hvv (OwN.nil (Nat.le_refl _)) HQ.out.base (Nat.le_refl _), bst (bst HQ.out.below (Nat.le_succ _) _) (Nat.le_succ _) _⟩
            · have h4I : (4 : Int) < (n4 : Int) := by omega
              have HV := hidH (show (putR r y).vs = [.int 7, st_Secret []] by rw [putR, if_pos H0.out, if_pos G0.out, if_neg (by rw [← HLEN.out, List.length_map, HN4.out]; exact h4)]; rfl)
              have x0 := HRB.out.cell 0
              have x1 := HRB.out.cell 1
              have f0 := HRB.out.frozen 0
              have f1 := HRB.out.frozen 1
              simp only [List.getElem?_toArray, List.getElem?_cons_succ, List.getElem?_cons_zero] at x0 x1
              have hr := HRB.out.lt
              clear h4 hn4
              go_wp2
              exact bodyPost_ret (v := .agg #[.int .i64 7, .slice none 0 0]) (by simp [results, Try.results32, go_sem, x0, x1]) rfl ⟨_, rfl, by rw [HV.out]; exact OwN.int _ (OwN.noS (OwN.nil (Nat.le_refl _))), bst (bst HQ.out.below (Nat.le_succ _) _) (Nat.le_succ _) _⟩
    · have q : (G != 0) = true := by rw [bne_iff_ne]; exact hz
      have HV := hidH (show (putR r y).vs = [.int G, st_Secret []] by rw [putR, if_pos H0.out, if_neg (by rw [hG]; exact hz), hG]; rfl)
      clear hz hG
      have R4 := HR3.out
      have x0 := R4.cell 0
      have x1 := R4.cell 1
      have f0 := R4.frozen 0
      have f1 := R4.frozen 1
      simp only [List.getElem?_toArray, List.getElem?_cons_succ, List.getElem?_cons_zero] at x0 x1
      have hr := R4.lt
      clear R4
      go_wp2
      exact bodyPost_ret (v := .agg #[.int .i64 G, .slice none 0 0]) (by simp [results, Try.results32, go_sem, x0, x1]) rfl ⟨_, rfl, by rw [HV.out]; exact OwN.int _ (OwN.noS (OwN.nil (Nat.le_refl _))), bst (bst HB3.out (Nat.le_succ _) _) (Nat.le_succ _) _⟩
  · have q : (F != 0) = true := by rw [bne_iff_ne]; exact hz
    have HV := hidH (show (putR r y).vs = [.int F, st_Secret []] by rw [putR, if_neg (by rw [hF]; exact hz), hF]; rfl)
    clear hz hF
    have R4 := HR2.out
    have x0 := R4.cell 0
    have x1 := R4.cell 1
    have f0 := R4.frozen 0
    have f1 := R4.frozen 1
    simp only [List.getElem?_toArray, List.getElem?_cons_succ, List.getElem?_cons_zero] at x0 x1
    have hr := R4.lt
    clear R4
    go_wp2
    exact bodyPost_ret (v := .agg #[.int .i64 F, .slice none 0 0]) (by simp [results, Try.results32, go_sem, x0, x1]) rfl ⟨_, rfl, by rw [HV.out]; exact OwN.int _ (OwN.noS (OwN.nil (Nat.le_refl _))), bst (bst HB2.out (Nat.le_succ _) _) (Nat.le_succ _) _⟩
end Go.Proofs.Ytjjileefdjjijaa
