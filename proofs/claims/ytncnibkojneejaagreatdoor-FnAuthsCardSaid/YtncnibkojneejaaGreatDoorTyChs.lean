/- Chunks, ChunksResult, AuthResult (WRITTEN BY tools/kinds.py) -/
import Derived.Test.YtncnibkojneejaaGreatDoorJa2
namespace Go.Proofs.YtncnibkojneejaaGreatDoor
open Go.RowKit Go.Deep Go.ChangeShapes Go.WideShapes Go.ChangeAt

def st_Chunk (r : List ChunkM) : V := .st r.length (r.flatMap ChunkM.vs)
theorem st_Chunk_sh {w : World} {r : List ChunkM} {v : Value} (h : Rd w (st_Chunk r) v) : ∃ A c, v = .slice A r.length c := Rd.st_sh h
theorem ccS_Chunk (r : List ChunkM) : cc.ccL (r.flatMap ChunkM.vs) ≤ 4 * (r.length + tot.totL (r.flatMap ChunkM.vs)) := by
  induction r with
  | nil => simp [cc.ccL]
  | cons x xs ih =>
    rw [List.flatMap_cons, ccL_append, totL_append, List.length_cons]
    have : cc.ccL (ChunkM.vs x) ≤ 4 * (1 + tot.totL (ChunkM.vs x)) := by
      simp only [ChunkM.vs, cc.ccL, cc, tot.totL, tot]
      omega
    omega
structure ChunksResultM where
  Code : Int
  Chunks : List ChunkM
def ChunksResultM.vs (x : ChunksResultM) : List V := [.int x.Code, st_Chunk x.Chunks]
theorem shape_ChunksResult {w : World} {n0 : Int} {r1 : List ChunkM} {vs : List Value} (h : RdA w [.int n0, st_Chunk r1] vs) : ∃ (A1 : Option Addr) (c1 : Nat), vs = [.int .i64 n0, .slice A1 r1.length c1] := by
  obtain ⟨q0, e0, t0⟩ := h.int_out
  subst e0
  obtain ⟨v1, q1, e1, h1, t1⟩ := t0.any_out
  obtain ⟨A1, c1, a1⟩ := st_Chunk_sh h1
  subst e1 a1
  have z := t1.nil_out
  subst z
  exact ⟨A1, c1, rfl⟩
theorem cnt_ChunksResult (y : ChunksResultM) (h : tot.totL y.vs ≤ 1048576) : vcA y.vs ≤ 1000000000 := by
  have cChunk := ccS_Chunk
  simp only [ChunksResultM.vs, vcA, vc, tot.totL, tot, cc, st_Chunk] at *
  have d1 := cChunk y.Chunks
  omega
theorem mem_ChunksResult {w : World} {g o : Nat} {y : ChunksResultM} (h : RdL w y.vs g o) : ∃ (A1 : Option Addr) (c1 : Nat), w.cell? ⟨g, o, none⟩ = some (.int .i64 y.Code) ∧ w.cell? ⟨g, o + 1, none⟩ = some (.slice A1 y.Chunks.length c1) ∧ Rd w (st_Chunk y.Chunks) (.slice A1 y.Chunks.length c1) := by
  obtain ⟨u0, p0, t0⟩ := h.get? 0 (.int y.Code) rfl
  have e0 := t0.int_out
  subst e0
  obtain ⟨u1, p1, t1⟩ := h.get? 1 (st_Chunk y.Chunks) rfl
  obtain ⟨A1, c1, e1⟩ := st_Chunk_sh t1
  subst e1
  rw [Nat.add_zero] at p0
  exact ⟨A1, c1, p0, p1, t1⟩
structure AuthResultM where
  Code : Int
  KeyId : Int
  From : Int
def AuthResultM.vs (x : AuthResultM) : List V := [.int x.Code, .int x.KeyId, .int x.From]
theorem shape_AuthResult {w : World} {n0 : Int} {n1 : Int} {n2 : Int} {vs : List Value} (h : RdA w [.int n0, .int n1, .int n2] vs) : vs = [.int .i64 n0, .int .i64 n1, .int .i64 n2] := by
  obtain ⟨q0, e0, t0⟩ := h.int_out
  subst e0
  obtain ⟨q1, e1, t1⟩ := t0.int_out
  subst e1
  obtain ⟨q2, e2, t2⟩ := t1.int_out
  subst e2
  have z := t2.nil_out
  subst z
  exact rfl
theorem mem_AuthResult {w : World} {g o : Nat} {y : AuthResultM} (h : RdL w y.vs g o) : w.cell? ⟨g, o, none⟩ = some (.int .i64 y.Code) ∧ w.cell? ⟨g, o + 1, none⟩ = some (.int .i64 y.KeyId) ∧ w.cell? ⟨g, o + 2, none⟩ = some (.int .i64 y.From) := by
  obtain ⟨u0, p0, t0⟩ := h.get? 0 (.int y.Code) rfl
  have e0 := t0.int_out
  subst e0
  obtain ⟨u1, p1, t1⟩ := h.get? 1 (.int y.KeyId) rfl
  have e1 := t1.int_out
  subst e1
  obtain ⟨u2, p2, t2⟩ := h.get? 2 (.int y.From) rfl
  have e2 := t2.int_out
  subst e2
  rw [Nat.add_zero] at p0
  exact ⟨p0, p1, p2⟩
end Go.Proofs.YtncnibkojneejaaGreatDoor
