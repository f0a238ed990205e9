/- Chapter 7: a list of chunks in memory; its faults, the model's and the program's. -/
import Derived.Test.YtacdnednkglobaaGreatDoorM7a
import Derived.Test.YtacdnednkglobaaGreatDoorUniR
import Derived.Test.YtacdnednkglobaaGreatDoorChS
import Derived.Test.YtacdnednkglobaaGreatDoorImB
import Derived.BigQuiet
namespace Go.Proofs.YtacdnednkglobaaGreatDoor
open Go.RowKit Go.Deep

theorem rdB {w : World} {A : Option Addr} {l : List Int} {c : Nat} (h : Rd w (.bs l) (.slice A l.length c)) : Bs w A l := by
  obtain ⟨A', c', e, _, h⟩ := h.bs_out
  injection e with e1 _ _
  rw [e1]; exact h
theorem rdB_len {w : World} {l : List Int} {v : Value} (h : Rd w (.bs l) v) : (l.length : Int) ≤ 9223372036854775807 := by obtain ⟨_, _, _, hc, _⟩ := h.bs_out; exact hc.len
/-- A chunk of a list. -/
theorem chunk_at {w : World} {r : List ChunkM} {v : Value} (h : Rd w (st_Chunk r) v) {j : Nat} (hj : j < r.length) :
    ∃ g o c A cA, v = .slice (some ⟨g, o, none⟩) r.length c ∧ CkB w g (o + j * 3) r[j].Kind r[j].Flags A r[j].Body cA ∧ (r[j].Body.length : Int) ≤ 9223372036854775807 := by
  obtain ⟨gb, ob, cb, eb, hgb, RB⟩ := Rd.row (f := ChunkM.vs) (W := 3) (fun _ => rfl) h hj
  obtain ⟨u0, p0, t0⟩ := RB 0 (.int r[j].Kind) rfl
  obtain ⟨u1, p1, t1⟩ := RB 1 (.int r[j].Flags) rfl
  obtain ⟨u2, p2, t2⟩ := RB 2 (.bs r[j].Body) rfl
  have e0 := t0.int_out
  subst e0
  have e1 := t1.int_out
  subst e1
  rw [Nat.add_zero] at p0
  obtain ⟨A, cA, e2⟩ := t2.bs_sh
  subst e2
  exact ⟨gb, ob, cb, A, cA, eb, ⟨hgb, p0, p1, p2, rdB t2⟩, rdB_len t2⟩
theorem chunk_x {w : World} {r : List ChunkM} {v : Value} (h : Rd w (st_Chunk r) v) {j : Nat} (hj : j < r.length) :
    ∃ k f l g o c A cA, r[j]? = some ⟨k, f, l⟩ ∧ v = .slice (some ⟨g, o, none⟩) r.length c ∧ CkB w g (o + j * 3) k f A l cA ∧ (l.length : Int) ≤ 9223372036854775807 := by
  obtain ⟨g, o, c, A, cA, h1, h2, h3⟩ := chunk_at h hj
  exact ⟨_, _, _, g, o, c, A, cA, List.getElem?_eq_getElem hj, h1, h2, h3⟩
theorem cm_ckV (x : ChunkM) (A : Option Addr) (c : Nat) : ckV x.Kind x.Flags A x.Body.length c = .agg #[.int .i64 x.Kind, .int .i64 x.Flags, .slice A x.Body.length c] := rfl
theorem st_Chunk_bytes {r : List ChunkM} (h : WfV (st_Chunk r)) : ∀ x ∈ r, Bytes x.Body := by
  have key : ∀ (r : List ChunkM), WfV.WfA (r.flatMap ChunkM.vs) → ∀ x ∈ r, Bytes x.Body := by
    intro r
    induction r with
    | nil => intro _ x hx; simp at hx
    | cons y r ih =>
      intro h x hx
      rw [List.flatMap_cons] at h
      obtain ⟨_, _, hb, h2⟩ := h
      rcases List.mem_cons.1 hx with rfl | hx
      · exact hb
      · exact ih h2 x hx
  exact key r h
set_option maxRecDepth 100000 in
set_option maxHeartbeats 4000000 in
theorem l7Chunks_any (r : List ChunkM) (v : Value) (m : Nat) (u : World) (h : Rd u (st_Chunk r) v) (_ : m ≤ 8) : Calls Tryz.prog 91 #[v, .int .i64 (m : Int)] u (IntR (csF m r) u) := by
  obtain ⟨A, c, rfl⟩ := st_Chunk_sh h
  have hm : (r.length : Int) ≤ 9223372036854775807 := Rd.st_len h
  have HI := hidH (fun (w : World) (hb : Below u.heap.size u w) => Rd.below hb _ h)
  clear h
  by_cases h4 : m < r.length
  · rw [csF_many h4]
    have h4' : (m : Int) < (r.length : Int) := by omega
    clear h4
    go_enter Tryz.func91, Tryz.ntmps91
    go_wp2
    go_ret
    exact ⟨rfl, Below.refl _ _⟩
  · have h4' : ¬ (m : Int) < (r.length : Int) := by omega
    have H4 := hidH (show csF m r = cmsF r from csF_few (by omega))
    clear h4
    go_enter Tryz.func91, Tryz.ntmps91
    go_wp2
    go_loopw [5] (fun i wr => ∃ j : Nat, j ≤ r.length ∧ i = .int .i64 j ∧ Below u.heap.size u wr ∧ cmsF (r.take j) = 0) (fun i _ => r.length - (intOf i).toNat)
    case atStart => exact ⟨0, by omega, rfl, Below.refl _ _, by simp [cmsF]⟩
    case round =>
      obtain ⟨j, hj, rfl, hB, hk⟩ := hrel
      by_cases hlt : j < r.length
      · have hj0 : (0 : Int) ≤ (j : Int) := by omega
        have hj1 : (j : Int) < (r.length : Int) := by omega
        obtain ⟨g, o, c', B, cB, e, CK, hbl⟩ := chunk_at (HI.out _ hB) hlt
        injection e with e1 e2 e3
        subst e1 e3
        have p0 := CK.c0
        have p1 := CK.c1
        have p2 := CK.c2
        have hg := CK.lt
        have HT := hidH (cmsF_take r j hlt hk)
        have HF := hidH (chFault_spec r[j].Kind r[j].Flags B r[j].Body cB wr hbl)
        unfold ckV at HF
        obtain ⟨f, hf⟩ : ∃ f, chF r[j].Kind r[j].Flags r[j].Body = f := ⟨_, rfl⟩
        have HN := hidH (fun (q : f ≠ 0) => show csF m r = f by rw [H4.out, cmsF_first r j hlt hk (by rw [cmF, hf]; exact q), cmF, hf])
        rw [cmF, hf] at HT
        rw [hf] at HF
        have HBW := hidH hB
        clear hk hf CK hbl hB
        go_wp2_with fail
        refine HF.out.mono ?_
        rintro e w' ⟨rfl, hb⟩
        have HB2 := hidH (btr HBW.out hb)
        clear hb p0 p1 p2 HF
        by_cases hz : f = 0
        · have q : (f != 0) = false := by rw [bne_eq_false_iff_eq]; exact hz
          have HZ := hidH (HT.out.trans hz)
          clear hz HN HT
          go_wp2
          go_roundw
          case rel => exact ⟨j + 1, by omega, by go_num, HB2.out, HZ.out⟩
          case measure => simp [intOf]; omega
        · have q : (f != 0) = true := by rw [bne_iff_ne]; exact hz
          have HZ := hidH (HN.out hz)
          clear hz HN HT
          go_wp2
          go_ret
          exact ⟨ret_int HZ.out.symm, HB2.out⟩
      · obtain rfl : j = r.length := by omega
        rw [List.take_length] at hk
        have HS := hidH (show csF m r = 0 by rw [H4.out, hk])
        have HBW := hidH hB
        clear hk hlt hj hB
        go_wp2
        go_ret
        exact ⟨ret_int HS.out.symm, HBW.out⟩
set_option maxRecDepth 100000 in
set_option maxHeartbeats 4000000 in
theorem chunksFault_any (r : List ChunkM) (v : Value) (m : Nat) (u : World) (h : Rd u (st_Chunk r) v) (_ : m ≤ 8) : Calls Tryz.prog 120 #[v, .int .i64 (m : Int)] u (IntR (csF m r) u) := by
  obtain ⟨A, c, rfl⟩ := st_Chunk_sh h
  have hm : (r.length : Int) ≤ 9223372036854775807 := Rd.st_len h
  have HI := hidH (fun (w : World) (hb : Below u.heap.size u w) => Rd.below hb _ h)
  clear h
  by_cases h4 : m < r.length
  · rw [csF_many h4]
    have h4' : (m : Int) < (r.length : Int) := by omega
    clear h4
    go_enter Tryz.func120, Tryz.ntmps120
    go_wp2
    go_ret
    exact ⟨rfl, Below.refl _ _⟩
  · have h4' : ¬ (m : Int) < (r.length : Int) := by omega
    have H4 := hidH (show csF m r = cmsF r from csF_few (by omega))
    clear h4
    go_enter Tryz.func120, Tryz.ntmps120
    go_wp2
    go_loopw [14] (fun i wr => ∃ j : Nat, j ≤ r.length ∧ i = .int .i64 j ∧ Below u.heap.size u wr ∧ cmsF (r.take j) = 0) (fun i _ => r.length - (intOf i).toNat)
    case atStart => exact ⟨0, by omega, rfl, Below.refl _ _, by simp [cmsF]⟩
    case round =>
      obtain ⟨j, hj, rfl, hB, hk⟩ := hrel
      by_cases hlt : j < r.length
      · have hj0 : (0 : Int) ≤ (j : Int) := by omega
        have hj1 : (j : Int) < (r.length : Int) := by omega
        obtain ⟨g, o, c', B, cB, e, CK, hbl⟩ := chunk_at (HI.out _ hB) hlt
        injection e with e1 e2 e3
        subst e1 e3
        have p0 := CK.c0
        have p1 := CK.c1
        have p2 := CK.c2
        have hg := CK.lt
        have HT := hidH (cmsF_take r j hlt hk)
        have ba := bal (Below.refl wr.heap.size wr) (.cells #[.int .i64 r[j].Kind, .int .i64 r[j].Flags, .slice B r[j].Body.length cB] 25)
        have HF := hidH (fun u => chFault_impl r[j].Kind r[j].Flags B r[j].Body cB u hbl)
        unfold ckV at HF
        obtain ⟨f, hf⟩ : ∃ f, chF r[j].Kind r[j].Flags r[j].Body = f := ⟨_, rfl⟩
        have HN := hidH (fun (q : f ≠ 0) => show csF m r = f by rw [H4.out, cmsF_first r j hlt hk (by rw [cmF, hf]; exact q), cmF, hf])
        rw [cmF, hf] at HT
        rw [hf] at HF
        have HBW := hidH (btr hB ba)
        clear hk hf CK hbl hB ba
        go_wp2_with fail
        refine (HF.out _).mono ?_
        rintro e w' ⟨rfl, hb⟩
        have HB2 := hidH (btr HBW.out hb)
        clear hb p0 p1 p2 HF
        by_cases hz : f = 0
        · have q : (f != 0) = false := by rw [bne_eq_false_iff_eq]; exact hz
          have HZ := hidH (HT.out.trans hz)
          clear hz HN HT
          go_wp2
          go_roundw
          case rel => exact ⟨j + 1, by omega, by go_num, HB2.out, HZ.out⟩
          case measure => simp [intOf]; omega
        · have q : (f != 0) = true := by rw [bne_iff_ne]; exact hz
          have HZ := hidH (HN.out hz)
          clear hz HN HT
          go_wp2
          go_ret
          exact ⟨ret_int HZ.out.symm, HB2.out⟩
      · obtain rfl : j = r.length := by omega
        rw [List.take_length] at hk
        have HS := hidH (show csF m r = 0 by rw [H4.out, hk])
        have HBW := hidH hB
        clear hk hlt hj hB
        go_wp2
        go_ret
        exact ⟨ret_int HS.out.symm, HBW.out⟩
end Go.Proofs.YtacdnednkglobaaGreatDoor
