/- Chapter 6: KeyOf, the model's. -/
import Derived.Test.YtjjileefdjjijaaS6S
import Derived.Test.YtjjileefdjjijaaS6E
import Derived.Test.YtjjileefdjjijaaS6J
namespace Go.Proofs.Ytjjileefdjjijaa
open Go.RowKit Go.Deep

theorem find_first (k : Int) : ∀ (r : List SecretM) (i : Nat) (hi : i < r.length), r[i].Id = k → (∀ t (ht : t < i), (r[t]'(by omega)).Id ≠ k) → r.find? (fun x => x.Id == k) = some r[i]
  | x :: r, 0, _, h, _ => by simp only [List.getElem_cons_zero] at h ⊢; rw [List.find?_cons_of_pos]; simpa using h
  | x :: r, i + 1, hi, h, q => by
    have h0 := q 0 (by omega)
    simp only [List.getElem_cons_zero] at h0
    rw [List.find?_cons_of_neg (by simpa using h0)]
    simpa using find_first k r i (by simpa using hi) (by simpa using h) (fun t ht => by have := q (t + 1) (by omega); simpa using this)
theorem find_none (k : Int) (r : List SecretM) (h : ∀ t (ht : t < r.length), r[t].Id ≠ k) : r.find? (fun x => x.Id == k) = none := by
  rw [List.find?_eq_none]
  intro x hx
  obtain ⟨t, ht, rfl⟩ := List.getElem_of_mem hx
  simpa using h t ht
def FindR (r : List SecretM) (k : Int) (w : World) (e : Ending) (w' : World) : Prop :=
  ((∃ (i : Nat) (hi : i < r.length), r.find? (fun x => x.Id == k) = some r[i] ∧ e = .returned (.int .i64 (i : Int))) ∨ (r.find? (fun x => x.Id == k) = none ∧ e = .returned (.int .i64 (-1)))) ∧ w = w'
theorem keyR_fault {r : List SecretM} {k : Int} {a b : List Int} (h : ssF r ≠ 0) : keyR r k a b = ⟨ssF r, []⟩ := by rw [keyR, if_neg h]
theorem keyR_none {r : List SecretM} {k : Int} {a b : List Int} (h : ssF r = 0) (h2 : r.find? (fun x => x.Id == k) = none) : keyR r k a b = ⟨4, []⟩ := by rw [keyR, if_pos h, h2]
theorem keyR_some {r : List SecretM} {k : Int} {a b : List Int} {x : SecretM} (h : ssF r = 0) (h2 : r.find? (fun x => x.Id == k) = some x) : keyR r k a b = jkR x.Bytes a b := by rw [keyR, if_pos h, h2]
theorem keyR_len (r : List SecretM) (k : Int) (a b : List Int) (_ : WfV (st_Secret r)) (h : tot (st_Secret r) ≤ 1048576) (_ : WfV (.int k)) (_ : WfV (.bs a)) (_ : tot (.bs a) ≤ 1048576) (_ : WfV (.bs b)) (_ : tot (.bs b) ≤ 1048576) : vcA (keyR r k a b).vs ≤ 1000000000 := by
  unfold keyR
  split
  · split
    · next x hx =>
      obtain ⟨t, ht, e⟩ := List.getElem_of_mem (List.mem_of_find?_eq_some hx)
      have h1 : x.Bytes.length ≤ 1048576 := by
        have h2 := row_tot SecretM.vs r t ht
        have h3 : tot.totL (SecretM.vs r[t]) = r[t].Bytes.length := by simp [SecretM.vs, tot.totL, tot]
        rw [h3, e] at h2
        exact Nat.le_trans h2 h
      unfold jkR
      split
      · split <;> simp [BytesResultM.vs, vcA, vc, cc] <;> omega
      · simp [BytesResultM.vs, vcA, vc, cc]
    · simp [BytesResultM.vs, vcA, vc, cc]
  · simp [BytesResultM.vs, vcA, vc, cc]
theorem sec_tot {r : List SecretM} (h : tot (st_Secret r) ≤ 1048576) (t : Nat) (ht : t < r.length) : tot (.bs r[t].Bytes) ≤ 1048576 := by
  have h2 := row_tot SecretM.vs r t ht
  have h3 : tot.totL (SecretM.vs r[t]) = r[t].Bytes.length := by simp [SecretM.vs, tot.totL, tot]
  rw [h3] at h2
  exact Nat.le_trans h2 h
set_option maxRecDepth 100000 in
set_option maxHeartbeats 1000000 in
theorem l6Find_any (r : List SecretM) (v : Value) (k : Int) (w : World) (h : Rd w (st_Secret r) v) : Calls Try.prog 56 #[v, .int .i64 k] w (FindR r k w) := by
  obtain ⟨A, c, rfl⟩ := st_Secret_sh h
  have hm : (r.length : Int) ≤ 9223372036854775807 := Rd.st_len h
  have HI := hidH h
  clear h
  go_enter Try.func56, Try.ntmps56
  go_wp2
  go_loopw [5] (fun i wr => ∃ j : Nat, j ≤ r.length ∧ i = .int .i64 j ∧ wr = w ∧ (∀ t (ht : t < r.length), t < j → r[t].Id ≠ k)) (fun i _ => r.length - (intOf i).toNat)
  case atStart => exact ⟨0, by omega, rfl, rfl, fun t _ h => by omega⟩
  case round =>
    obtain ⟨j, hj, rfl, rfl, hk⟩ := hrel
    by_cases hlt : j < r.length
    · have hj0 : (0 : Int) ≤ (j : Int) := by omega
      have hj1 : (j : Int) < (r.length : Int) := by omega
      obtain ⟨g, o, c', B, cB, e, hg, p0, -, -⟩ := sec_at HI.out hlt
      injection e with e1 e2 e3
      subst e1 e3
      by_cases hq : r[j].Id = k
      · have HF := hidH (find_first k r j hlt hq (fun t ht => hk t (by omega) ht))
        have f1 : (r[j].Id == k) = true := by rw [beq_iff_eq]; exact hq
        obtain ⟨a, ha⟩ : ∃ a, r[j].Id = a := ⟨_, rfl⟩
        rw [ha] at p0 f1
        have HL := hidH hlt
        clear hk hq ha
        go_wp2
        go_ret
        exact ⟨.inl ⟨j, HL.out, HF.out, rfl⟩, rfl⟩
      · have HF := hidH (show ∀ t (ht : t < r.length), t < j + 1 → r[t].Id ≠ k from fun t ht h => by
          by_cases e : t = j
          · subst e; exact hq
          · exact hk t ht (by omega))
        have f1 : (r[j].Id == k) = false := by rw [beq_eq_false_iff_ne]; exact hq
        obtain ⟨a, ha⟩ : ∃ a, r[j].Id = a := ⟨_, rfl⟩
        rw [ha] at p0 f1
        clear hk hq ha
        go_wp2
        go_roundw
        case rel => exact ⟨j + 1, by omega, by go_num, trivial, HF.out⟩
        case measure => simp [intOf]; omega
    · obtain rfl : j = r.length := by omega
      have HF := hidH (find_none k r (fun t ht => hk t ht ht))
      clear hk hlt hj
      go_wp2
      go_ret
      exact ⟨.inr ⟨HF.out, rfl⟩, rfl⟩
set_option maxRecDepth 100000 in
set_option maxHeartbeats 4000000 in
theorem ky_spec (r : List SecretM) (v : Value) (k : Int) (a : List Int) (va : Value) (b : List Int) (vb : Value) (u : World) (h : Rd u (st_Secret r) v) (hw : WfV (st_Secret r)) (ht : tot (st_Secret r) ≤ 1048576) (_ : WfV (.int k)) (h2 : Rd u (.bs a) va) (wa : WfV (.bs a)) (ta : tot (.bs a) ≤ 1048576) (h3 : Rd u (.bs b) vb) (wb : WfV (.bs b)) (tb : tot (.bs b) ≤ 1048576) :
    Calls Try.prog 28 #[v, .int .i64 k, va, vb] u (Res u (keyR r k a b).vs) := by
  have R1 := Blk.new u 35 #[.int .i64 0, .slice none 0 0]
  have B1 := bal (Below.refl u.heap.size u) (.cells #[.int .i64 0, .slice none 0 0] 35)
  obtain ⟨w1, hw1⟩ : ∃ w1, u.alloc (.cells #[.int .i64 0, .slice none 0 0] 35) = w1 := ⟨_, rfl⟩
  have hs1 : w1.heap.size = u.heap.size + 1 := by rw [← hw1]; simp
  rw [hw1] at R1 B1
  have HF := hidH (ss_spec r v w1 (Rd.below B1 _ h) hw ht)
  have HRD := hidH (fun (w : World) (hb : Below u.heap.size u w) => Rd.below hb _ h)
  have HJ := hidH (fun (i : Nat) (hi : i < r.length) (A : Option Addr) (c : Nat) (w : World) (hb : Below u.heap.size u w) (hx : Rd w (.bs r[i].Bytes) (.slice A r[i].Bytes.length c)) => jk_spec r[i].Bytes _ a va b vb w hx (wf_body hw _ (List.getElem_mem hi)) (sec_tot ht i hi) (Rd.below hb _ h2) wa ta (Rd.below hb _ h3) wb tb)
  obtain ⟨PA, pc, rfl⟩ := st_Secret_sh h
  have hm : (r.length : Int) ≤ 9223372036854775807 := Rd.st_len h
  have HT := hidH (And.intro R1 B1)
  have HS := hidH hs1
  have HW := hidH hw1
  obtain ⟨F, hF⟩ : ∃ F, ssF r = F := ⟨_, rfl⟩
  rw [hF] at HF
  clear h h2 h3 hw ht wa ta wb tb R1 B1 hs1 hw1
  go_enter Try.func28, Try.ntmps28
  go_wp2_with fail
  rw [HW.out]
  refine HF.out.mono ?_
  rintro e w2 ⟨rfl, b2⟩
  have HB2 := hidH (btr HT.out.2 b2)
  have HR2 := hidH (HT.out.1.below b2)
  have HZ2 := hidH b2.size
  clear HF b2
  by_cases hz : F = 0
  · have q : (F != 0) = false := by rw [bne_eq_false_iff_eq]; exact hz
    have H0 := hidH (hF.trans hz)
    have HFI := hidH (l6Find_any r _ k w2 (HRD.out _ HB2.out))
    clear hz hF
    go_wp2_with fail
    refine HFI.out.mono ?_
    rintro e w3 ⟨⟨i, hi, hf, rfl⟩ | ⟨hf, rfl⟩, rfl⟩
    · have HV := hidH (keyR_some (k := k) (a := a) (b := b) H0.out hf)
      obtain ⟨g, o, c', B, cB, e, hg, -, p1, hx⟩ := sec_at (HRD.out _ HB2.out) hi
      injection e with e1 e2 e3
      subst e1 e3
      have HC := hidH (HJ.out i hi B cB w2 HB2.out hx)
      have hi0 : (0 : Int) ≤ (i : Int) := by omega
      have hi1 : (i : Int) < (r.length : Int) := by omega
      have hi2 : ¬ (i : Int) < 0 := by omega
      obtain ⟨n, hn⟩ : ∃ n, r[i].Bytes.length = n := ⟨_, rfl⟩
      obtain ⟨z, hz⟩ : ∃ z, jkR r[i].Bytes a b = z := ⟨_, rfl⟩
      rw [hn, hz] at HC
      rw [hn] at p1
      rw [hz] at HV
      clear hf hx hn hz HFI
      go_wp2_with fail
      refine HC.out.mono ?_
      rintro e w4 ⟨vs, rfl, O4, b4⟩
      obtain ⟨A5, c5, rfl⟩ := shape_BytesResult O4.rd
      have R4 := HR2.out.below b4
      have HB4 := hidH (btr HB2.out b4)
      have HO := hidH O4
      have HZ := hidH b4.size
      have x0 := R4.cell 0
      have x1 := R4.cell 1
      have f0 := R4.frozen 0
      have f1 := R4.frozen 1
      simp only [List.getElem?_toArray, List.getElem?_cons_succ, List.getElem?_cons_zero] at x0 x1
      have hr := R4.lt
      clear O4 b4 R4 HC p1 hi0 hi1 hi2
      go_wp2
      exact bodyPost_ret (v := .agg #[.int .i64 z.Code, .slice A5 z.Bytes.length c5]) (by simp [results, Try.results28, go_sem, x0, x1]) rfl ⟨_, rfl, by
        rw [HV.out]
        refine OwN.mono (B := w2.heap.size) (C := w4.heap.size) ?_ (by have := HB2.out.size; omega) (by simp [World.setCell]) (Nat.le_refl _)
        iterate 2 (refine OwN.win (B' := u.heap.size) (C' := u.heap.size + 1) ?_ (set_win _ _ _ _) (.inr (by have := HS.out; have := HZ2.out; omega)))
        exact HO.out, by
        iterate 2 (refine bst ?_ (Nat.le_refl _) _)
        exact HB4.out⟩
    · have HV := hidH (show (keyR r k a b).vs = [.int 4, .bs []] by rw [keyR_none H0.out hf]; rfl)
      have R4 := HR2.out
      have x0 := R4.cell 0
      have x1 := R4.cell 1
      have f0 := R4.frozen 0
      have f1 := R4.frozen 1
      simp only [List.getElem?_toArray, List.getElem?_cons_succ, List.getElem?_cons_zero] at x0 x1
      have hr := R4.lt
      clear hf R4 HFI
      go_wp2
      exact bodyPost_ret (v := .agg #[.int .i64 4, .slice none 0 0]) (by simp [results, Try.results28, go_sem, x0, x1]) rfl ⟨_, rfl, by rw [HV.out]; exact OwN.int 4 (OwN.nb (OwN.nil (Nat.le_refl _))), bst (bst HB2.out (Nat.le_refl _) _) (Nat.le_refl _) _⟩
  · have q : (F != 0) = true := by rw [bne_iff_ne]; exact hz
    have HV := hidH (show (keyR r k a b).vs = [.int F, .bs []] by rw [keyR_fault (by rw [hF]; exact hz), hF]; rfl)
    have R4 := HR2.out
    have x0 := R4.cell 0
    have x1 := R4.cell 1
    have f0 := R4.frozen 0
    have f1 := R4.frozen 1
    simp only [List.getElem?_toArray, List.getElem?_cons_succ, List.getElem?_cons_zero] at x0 x1
    have hr := R4.lt
    clear hz hF R4
    go_wp2
    exact bodyPost_ret (v := .agg #[.int .i64 F, .slice none 0 0]) (by simp [results, Try.results28, go_sem, x0, x1]) rfl ⟨_, rfl, by rw [HV.out]; exact OwN.int F (OwN.nb (OwN.nil (Nat.le_refl _))), bst (bst HB2.out (Nat.le_refl _) _) (Nat.le_refl _) _⟩
end Go.Proofs.Ytjjileefdjjijaa
