/- Chunks, ChunksResult, AuthResult (WRITTEN BY tools/kinds.py) -/
import Derived.Test.YtacdnednkglobaaGreatDoorTyData
namespace Go.Proofs.YtacdnednkglobaaGreatDoor
open Go.RowKit Go.Deep Go.ChangeShapes Go.WideShapes Go.ChangeAt

def st_Chunk (r : List ChunkM) : V := .st r.length (r.flatMap ChunkM.vs)
theorem st_Chunk_sh {w : World} {r : List ChunkM} {v : Value} (h : Rd w (st_Chunk r) v) : ∃ A c, v = .slice A r.length c := Rd.st_sh h
set_option maxRecDepth 100000 in
set_option maxHeartbeats 2000000 in
theorem eqS_Chunk (r : List ChunkM) (v u : Value) (w : World) (hv : Rd w (st_Chunk r) v) (hu : Rd w (st_Chunk r) u) :
    Calls Tryz.prog 44 #[v, u] w (EqR w) := by
  obtain ⟨A, c, rfl⟩ := st_Chunk_sh hv
  obtain ⟨B, d, rfl⟩ := st_Chunk_sh hu
  have hm : (r.length : Int) ≤ 9223372036854775807 := Rd.st_len hv
  have HV := hidH (fun (u : World) (h : Below w.heap.size w u) => Rd.below h _ hv)
  have HU := hidH (fun (u : World) (h : Below w.heap.size w u) => Rd.below h _ hu)
  clear hv hu
  go_enter Tryz.func44, Tryz.ntmps44
  go_wp2
  go_loopw [5] (fun i wr => ∃ j : Nat, j ≤ r.length ∧ i = .int .i64 j ∧ Below w.heap.size w wr) (fun i _ => r.length - (intOf i).toNat)
  case atStart => exact ⟨0, by omega, rfl, Below.refl _ _⟩
  case round =>
    obtain ⟨j, hj, rfl, hBw⟩ := hrel
    by_cases hlt : j < r.length
    · have hj0 : (0 : Int) ≤ (j : Int) := by omega
      have hj1 : (j : Int) < (r.length : Int) := by omega
      have bd := (Below.refl wr.heap.size wr).drew
      have hBW := btr hBw bd
      obtain ⟨ga, oa, ca, ea, hga, RA⟩ := Rd.row (f := ChunkM.vs) (W := 3) (fun _ => rfl) (HV.out _ hBW) hlt
      obtain ⟨gb, ob, cb, eb, hgb, RB⟩ := Rd.row (f := ChunkM.vs) (W := 3) (fun _ => rfl) (HU.out _ hBW) hlt
      injection ea with ea1 ea2 ea3
      subst ea1 ea3
      injection eb with eb1 eb2 eb3
      subst eb1 eb3
      obtain ⟨pu0, p0, pt0⟩ := RA 0 (.int r[j].Kind) rfl
      have pe0 := pt0.int_out
      subst pe0
      rw [Nat.add_zero] at p0
      obtain ⟨pu1, p1, pt1⟩ := RA 1 (.int r[j].Flags) rfl
      have pe1 := pt1.int_out
      subst pe1
      obtain ⟨pu2, p2, pt2⟩ := RA 2 (.bs r[j].Body) rfl
      obtain ⟨A2, An2, pe2⟩ := pt2.bs_sh
      subst pe2
      obtain ⟨qu0, q0, qt0⟩ := RB 0 (.int r[j].Kind) rfl
      have qe0 := qt0.int_out
      subst qe0
      rw [Nat.add_zero] at q0
      obtain ⟨qu1, q1, qt1⟩ := RB 1 (.int r[j].Flags) rfl
      have qe1 := qt1.int_out
      subst qe1
      obtain ⟨qu2, q2, qt2⟩ := RB 2 (.bs r[j].Body) rfl
      obtain ⟨B2, Bn2, qe2⟩ := qt2.bs_sh
      subst qe2
      have HE := hidH (eq_Chunk r[j].Kind r[j].Flags r[j].Body _ _ wr.drew pt2 qt2)
      have HBW := hidH hBW
      clear RA RB hBW hBw bd pt0 qt0 pt1 qt1 pt2 qt2
      go_wp2
      go_still_tail 8, (by kernel_rfl)
      change wpList _ _ _ _ _ wr.drew
      go_wp2_with fail
      refine HE.out.mono ?_
      rintro e w3 ⟨rfl, b3⟩
      have B3 := hidH (btr HBW.out b3)
      clear HE HBW b3 p0 q0 p1 q1 p2 q2
      go_wp2
      go_roundw
      case rel => exact ⟨j + 1, by omega, by go_num, B3.out⟩
      case measure => simp [intOf]; omega
    · have HBW := hidH hBw
      have hd : ¬ ((j : Int) < (r.length : Int)) := by omega
      clear hBw hlt hj
      go_wp2
      go_ret
      exact ⟨rfl, HBW.out⟩
set_option maxRecDepth 100000 in
set_option maxHeartbeats 2000000 in
theorem szS_Chunk (r : List ChunkM) (v : Value) (left : Int) (w : World) (hv : Rd w (st_Chunk r) v) (h0 : 0 ≤ left) (h1 : left ≤ 1048576) :
    Calls Tryz.prog 39 #[v, .int .i64 left] w (SzR left (tot (st_Chunk r)) w) := by
  have hn : (r.length : Int) ≤ 9223372036854775807 := Rd.st_len hv
  obtain ⟨A, c, rfl⟩ := st_Chunk_sh hv
  have HV := hidH (fun (u : World) (h3 : Below w.heap.size w u) => Rd.below h3 _ hv)
  have HT := hidH (tRow_all ChunkM.vs r)
  rw [show tot (st_Chunk r) = r.length + tRow ChunkM.vs r r.length from (tRow_all _ _).symm]
  clear hv
  by_cases hl : left - (r.length : Int) < 0
  · go_enter Tryz.func39, Tryz.ntmps39
    go_wp2
    go_ret
    exact ⟨-1, rfl, ⟨.inl rfl, by omega, fun h => by omega⟩, Below.refl _ _⟩
  · have hl0 : 0 ≤ left - (r.length : Int) := by omega
    clear hl
    go_enter Tryz.func39, Tryz.ntmps39
    go_wp2
    go_loopw [1, 5] (fun t i wr => ∃ (j : Nat) (z : Int), j ≤ r.length ∧ i = .int .i64 j ∧ t = .int .i64 z ∧ 0 ≤ z ∧ z + (tRow ChunkM.vs r j : Int) + (r.length : Int) ≤ left ∧ Below w.heap.size w wr) (fun _ i _ => r.length - (intOf i).toNat)
    case atStart => exact ⟨0, left - (r.length : Int), by omega, rfl, rfl, hl0, by rw [tRow_zero]; omega, Below.refl _ _⟩
    case round =>
      obtain ⟨j, z, hj, rfl, rfl, hz0, hz1, hB⟩ := hrel
      by_cases hlt : j < r.length
      · have hj0 : (0 : Int) ≤ (j : Int) := by omega
        have hj1 : (j : Int) < (r.length : Int) := by omega
        have hz2 : z ≤ 1048576 := by omega
        obtain ⟨g, o, ca, ea, hg, RA⟩ := Rd.row (f := ChunkM.vs) (W := 3) (fun _ => rfl) (HV.out _ hB) hlt
        injection ea with ea1 ea2 ea3
        subst ea1 ea3
        obtain ⟨pu0, p0, pt0⟩ := RA 0 (.int r[j].Kind) rfl
        have pe0 := pt0.int_out
        subst pe0
        rw [Nat.add_zero] at p0
        obtain ⟨pu1, p1, pt1⟩ := RA 1 (.int r[j].Flags) rfl
        have pe1 := pt1.int_out
        subst pe1
        obtain ⟨pu2, p2, pt2⟩ := RA 2 (.bs r[j].Body) rfl
        obtain ⟨A2, An2, pe2⟩ := pt2.bs_sh
        subst pe2
        have HS := hidH (sz_Chunk r[j].Kind r[j].Flags r[j].Body _ z wr pt2 hz0 hz2)
        have hts := tRow_succ ChunkM.vs r j hlt
        have HTS := hidH hts
        have HBW := hidH hB
        have HZ1 := hidH hz1
        clear RA hB hz1 hts pt0 pt1 pt2
        go_wp2_with fail
        refine HS.out.mono ?_
        rintro e w3 ⟨z3, rfl, hz3, b3⟩
        have B3 := hidH (btr HBW.out b3)
        have HZ3 := hidH hz3
        clear HS b3 HBW hz3 p0 p1 p2
        by_cases hneg : z3 < 0
        · obtain rfl : z3 = -1 := by rcases HZ3.out.1 with h | h <;> omega
          clear hneg
          go_wp2
          go_ret
          exact ⟨-1, rfl, ⟨.inl rfl, by omega, fun h => by omega⟩, B3.out⟩
        · have hpos : 0 ≤ z3 := by omega
          clear hneg
          go_wp2
          go_roundw
          case rel => exact ⟨j + 1, z3, by omega, by go_num, rfl, hpos, by have := HTS.out; have := HZ1.out; have := HZ3.out.2.2 hpos; simp only [ChunkM.vs] at *; omega, B3.out⟩
          case measure => simp [intOf]; omega
      · obtain rfl : j = r.length := by omega
        have HBW := hidH hB
        have HZ1 := hidH hz1
        clear hB hlt hj hz1
        go_wp2
        go_ret
        exact ⟨z, rfl, ⟨.inr hz0, by have := HZ1.out; omega, fun _ => by have := HZ1.out; omega⟩, HBW.out⟩
theorem info_Chunk : (Tryz.prog.info? 25).map (fun i => (i.zero, i.size, i.bytes)) = some (some (.agg #[.int .i64 0, .int .i64 0, .slice none 0 0]), 3, 40) := by kernel_rfl
set_option maxRecDepth 100000 in
set_option maxHeartbeats 2000000 in
theorem toS_Chunk (r : List ChunkM) (v : Value) (w : World) (hv : Rd w (st_Chunk r) v) (hm : tot (st_Chunk r) ≤ 1048576) :
    Calls Tryz.prog 41 #[v] w (ResV w (st_Chunk r)) := by
  obtain ⟨A, c, rfl⟩ := st_Chunk_sh hv
  have HT := hidH hm
  have hnn : r.length ≤ 1048576 := by rw [st_Chunk, ← tRow_all] at hm; omega
  have hnI : (r.length : Int) ≤ 1048576 := by omega
  obtain ⟨i0, hi, hz0, hz1, hz2⟩ := info_parts info_Chunk
  have HI := hidH (And.intro hi (And.intro hz0 (And.intro hz1 hz2)))
  have HV := hidH (fun (u : World) (h3 : Below w.heap.size w u) => Rd.below h3 _ hv)
  clear hi hz0 hz1 hz2 hv hm
  go_enter Tryz.func41, Tryz.ntmps41
  go_wp2_with (refine wpList_make_full _ rfl _ _ _ rfl w.heap.size 25 i0 _ 3 Tryz.underlying63 HI.out.1 HI.out.2.1 HI.out.2.2.1 .i64 .i64 _ _ r.length rfl rfl rfl rfl (by rw [HI.out.2.2.2]; omega) (by unfold maxLen; omega) (Nat.le_refl _) ?_)
  intro w1 o1 g1
  have F0 := hidH (fillL0 o1 ((Below.refl w.heap.size w).grown g1 (Nat.le_refl _) (fun k hk => by cases hk)) (Nat.le_refl _))
  clear o1 g1
  go_wp2
  go_loopw [4] (fun i wr => ∃ j : Nat, j ≤ r.length ∧ i = .int .i64 j ∧ FillL w w.heap.size (r.length * 3) ((r.take j).flatMap ChunkM.vs) wr) (fun i _ => r.length - (intOf i).toNat)
  case atStart => exact ⟨0, by omega, rfl, F0.out⟩
  case round =>
    obtain ⟨j, hj, rfl, hF⟩ := hrel
    by_cases hlt : j < r.length
    · have hj0 : (0 : Int) ≤ (j : Int) := by omega
      have hj1 : (j : Int) < (r.length : Int) := by omega
      obtain ⟨g, o, ca, ea, hg, RA⟩ := Rd.row (f := ChunkM.vs) (W := 3) (fun _ => rfl) (HV.out _ hF.old) hlt
      injection ea with ea1 ea2 ea3
      subst ea1 ea3
      obtain ⟨pu0, p0, pt0⟩ := RA 0 (.int r[j].Kind) rfl
      have pe0 := pt0.int_out
      subst pe0
      rw [Nat.add_zero] at p0
      obtain ⟨pu1, p1, pt1⟩ := RA 1 (.int r[j].Flags) rfl
      have pe1 := pt1.int_out
      subst pe1
      obtain ⟨pu2, p2, pt2⟩ := RA 2 (.bs r[j].Body) rfl
      obtain ⟨A2, An2, pe2⟩ := pt2.bs_sh
      subst pe2
      have HS := hidH (to_Chunk r[j].Kind r[j].Flags r[j].Body _ wr pt2 (Nat.le_trans (row_tot ChunkM.vs r j hlt) HT.out))
      have hp : ((r.take j).flatMap ChunkM.vs).length = j * 3 := take_len (f := ChunkM.vs) (fun _ => rfl) r j (by omega)
      have HP := hidH hp
      have HE := hidH (flat_take ChunkM.vs r j hlt)
      have HF := hidH hF
      clear RA hF hp pt0 pt1 pt2
      go_wp2_with fail
      refine HS.out.mono ?_
      rintro e w3 ⟨vs, rfl, O3, b3⟩
      obtain ⟨E2, e2, rfl⟩ := shape_Chunk O3.rd
      have hgl := HF.out.lt
      obtain ⟨m0, n0⟩ := HF.out.room (j * 3) (by omega)
      replace n0 := (b3.cell (p := ⟨w.heap.size, _, none⟩) hgl).trans n0
      have f0 := (b3.frozen (p := ⟨w.heap.size, j * 3, none⟩) hgl).trans (HF.out.fz _)
      obtain ⟨m1, n1⟩ := HF.out.room (j * 3 + 1) (by omega)
      replace n1 := (b3.cell (p := ⟨w.heap.size, _, none⟩) hgl).trans n1
      have f1 := (b3.frozen (p := ⟨w.heap.size, j * 3 + 1, none⟩) hgl).trans (HF.out.fz _)
      obtain ⟨m2, n2⟩ := HF.out.room (j * 3 + 2) (by omega)
      replace n2 := (b3.cell (p := ⟨w.heap.size, _, none⟩) hgl).trans n2
      have f2 := (b3.frozen (p := ⟨w.heap.size, j * 3 + 2, none⟩) hgl).trans (HF.out.fz _)
      have ST := hidH (HF.out.step b3 O3 (by rw [HP.out]; simp only [List.length_cons, List.length_nil]; omega) rfl (j * 3) HP.out.symm)
      clear HS O3 b3 HF hgl p0 p1 p2
      go_wp2
      go_roundw
      case rel => exact ⟨j + 1, by omega, by go_num, by rw [HE.out]; exact ST.out⟩
      case measure => simp [intOf]; omega
    · obtain rfl : j = r.length := by omega
      rw [List.take_length] at hF
      have HD := hidH (FillL.done (n := r.length) hF (Caps.same (by omega)))
      have HO := hidH hF.old
      clear hF hlt hj
      go_wp2
      go_ret
      exact ⟨_, rfl, HD.out, HO.out⟩
theorem ccS_Chunk (r : List ChunkM) : cc.ccL (r.flatMap ChunkM.vs) ≤ 4 * (r.length + tot.totL (r.flatMap ChunkM.vs)) := by
  induction r with
  | nil => simp [cc.ccL]
  | cons x xs ih =>
    rw [List.flatMap_cons, ccL_append, totL_append, List.length_cons]
    have : cc.ccL (ChunkM.vs x) ≤ 4 * (1 + tot.totL (ChunkM.vs x)) := by
      simp only [ChunkM.vs, cc.ccL, cc, tot.totL, tot]
      omega
    omega
section
variable {H : Type} {enc : TypeId × Value → H} {w : World} {base : Nat} {spare : Nat → Bool} {held : Bool}
theorem openS_Chunk {n : Nat} {v : Value} {x : DataW H × List MemPlace} (h : DataW.trod enc Tryz.prog w base spare held n 78 [v] = some x) : ∃ r : List ChunkM, Rd w (st_Chunk r) v ∧ WfV (st_Chunk r) :=
  open_st (f := ChunkM.vs) (W := 3) (fun _ => rfl) (by decide) Tryz.underlying78 (by kernel_rfl) (fun _ _ _ h => open_Chunk h) h
end
structure ChunksResultM where
  Code : Int
  Chunks : List ChunkM
def ChunksResultM.vs (x : ChunksResultM) : List V := [.int x.Code, st_Chunk x.Chunks]
theorem shape_ChunksResult {w : World} {n0 : Int} {r1 : List ChunkM} {vs : List Value} (h : RdA w [.int n0, st_Chunk r1] vs) : ∃ (A1 : Option Addr) (c1 : Nat), vs = [.int .i64 n0, .slice A1 r1.length c1] := by
  obtain ⟨q0, e0, t0⟩ := h.int_out
  subst e0
  obtain ⟨v1, q1, e1, h1, t1⟩ := t0.any_out
  obtain ⟨A1, c1, a1⟩ := st_Chunk_sh h1
  subst e1 a1
  have z := t1.nil_out
  subst z
  exact ⟨A1, c1, rfl⟩
theorem cnt_ChunksResult (y : ChunksResultM) (h : tot.totL y.vs ≤ 1048576) : vcA y.vs ≤ 1000000000 := by
  have cChunk := ccS_Chunk
  simp only [ChunksResultM.vs, vcA, vc, tot.totL, tot, cc, st_Chunk] at *
  have d1 := cChunk y.Chunks
  omega
theorem mem_ChunksResult {w : World} {g o : Nat} {y : ChunksResultM} (h : RdL w y.vs g o) : ∃ (A1 : Option Addr) (c1 : Nat), w.cell? ⟨g, o, none⟩ = some (.int .i64 y.Code) ∧ w.cell? ⟨g, o + 1, none⟩ = some (.slice A1 y.Chunks.length c1) ∧ Rd w (st_Chunk y.Chunks) (.slice A1 y.Chunks.length c1) := by
  obtain ⟨u0, p0, t0⟩ := h.get? 0 (.int y.Code) rfl
  have e0 := t0.int_out
  subst e0
  obtain ⟨u1, p1, t1⟩ := h.get? 1 (st_Chunk y.Chunks) rfl
  obtain ⟨A1, c1, e1⟩ := st_Chunk_sh t1
  subst e1
  rw [Nat.add_zero] at p0
  exact ⟨A1, c1, p0, p1, t1⟩
structure AuthResultM where
  Code : Int
  KeyId : Int
  From : Int
def AuthResultM.vs (x : AuthResultM) : List V := [.int x.Code, .int x.KeyId, .int x.From]
theorem shape_AuthResult {w : World} {n0 : Int} {n1 : Int} {n2 : Int} {vs : List Value} (h : RdA w [.int n0, .int n1, .int n2] vs) : vs = [.int .i64 n0, .int .i64 n1, .int .i64 n2] := by
  obtain ⟨q0, e0, t0⟩ := h.int_out
  subst e0
  obtain ⟨q1, e1, t1⟩ := t0.int_out
  subst e1
  obtain ⟨q2, e2, t2⟩ := t1.int_out
  subst e2
  have z := t2.nil_out
  subst z
  exact rfl
set_option maxRecDepth 100000 in
set_option maxHeartbeats 1000000 in
theorem eq_AuthResult (n0 : Int) (n1 : Int) (n2 : Int) (w : World)   :
    Calls Tryz.prog 42 #[.agg #[.int .i64 n0, .int .i64 n1, .int .i64 n2], .agg #[.int .i64 n0, .int .i64 n1, .int .i64 n2]] w (EqR w) := by
  go_enter Tryz.func42, Tryz.ntmps42
  go_wp2
  go_ret
  exact ⟨rfl, bal (bal (Below.refl _ _) _) _⟩
theorem eqA_AuthResult (y : AuthResultM) {vs us : List Value} {w : World} (h : RdA w y.vs vs) (k : RdA w y.vs us) : Calls Tryz.prog 42 #[.agg vs.toArray, .agg us.toArray] w (EqR w) := by
  obtain rfl := shape_AuthResult (h)
  obtain rfl := shape_AuthResult (k)
  exact eq_AuthResult y.Code y.KeyId y.From  w  
theorem mem_AuthResult {w : World} {g o : Nat} {y : AuthResultM} (h : RdL w y.vs g o) : w.cell? ⟨g, o, none⟩ = some (.int .i64 y.Code) ∧ w.cell? ⟨g, o + 1, none⟩ = some (.int .i64 y.KeyId) ∧ w.cell? ⟨g, o + 2, none⟩ = some (.int .i64 y.From) := by
  obtain ⟨u0, p0, t0⟩ := h.get? 0 (.int y.Code) rfl
  have e0 := t0.int_out
  subst e0
  obtain ⟨u1, p1, t1⟩ := h.get? 1 (.int y.KeyId) rfl
  have e1 := t1.int_out
  subst e1
  obtain ⟨u2, p2, t2⟩ := h.get? 2 (.int y.From) rfl
  have e2 := t2.int_out
  subst e2
  rw [Nat.add_zero] at p0
  exact ⟨p0, p1, p2⟩
end Go.Proofs.YtacdnednkglobaaGreatDoor
