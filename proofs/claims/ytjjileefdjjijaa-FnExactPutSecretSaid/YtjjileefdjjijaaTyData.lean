/- Chunk, Data and their results (WRITTEN BY tools/kinds.py) -/
import Derived.Test.YtjjileefdjjijaaUniO
namespace Go.Proofs.Ytjjileefdjjijaa
open Go.RowKit Go.Deep Go.ChangeShapes Go.WideShapes Go.ChangeAt

structure ChunkM where
  Kind : Int
  Flags : Int
  Body : List Int
def ChunkM.vs (x : ChunkM) : List V := [.int x.Kind, .int x.Flags, .bs x.Body]
theorem shape_Chunk {w : World} {n0 : Int} {n1 : Int} {l2 : List Int} {vs : List Value} (h : RdA w [.int n0, .int n1, .bs l2] vs) : ∃ (A2 : Option Addr) (c2 : Nat), vs = [.int .i64 n0, .int .i64 n1, .slice A2 l2.length c2] := by
  obtain ⟨q0, e0, t0⟩ := h.int_out
  subst e0
  obtain ⟨q1, e1, t1⟩ := t0.int_out
  subst e1
  obtain ⟨v2, q2, e2, h2, t2⟩ := t1.any_out
  obtain ⟨A2, c2, a2⟩ := h2.bs_sh
  subst e2 a2
  have z := t2.nil_out
  subst z
  exact ⟨A2, c2, rfl⟩
theorem cnt_Chunk (y : ChunkM) (h : tot.totL y.vs ≤ 1048576) : vcA y.vs ≤ 1000000000 := by
  simp only [ChunkM.vs, vcA, vc, tot.totL, tot, cc] at *
  omega
theorem mem_Chunk {w : World} {g o : Nat} {y : ChunkM} (h : RdL w y.vs g o) : ∃ (A2 : Option Addr) (c2 : Nat), w.cell? ⟨g, o, none⟩ = some (.int .i64 y.Kind) ∧ w.cell? ⟨g, o + 1, none⟩ = some (.int .i64 y.Flags) ∧ w.cell? ⟨g, o + 2, none⟩ = some (.slice A2 y.Body.length c2) ∧ Rd w (.bs y.Body) (.slice A2 y.Body.length c2) := by
  obtain ⟨u0, p0, t0⟩ := h.get? 0 (.int y.Kind) rfl
  have e0 := t0.int_out
  subst e0
  obtain ⟨u1, p1, t1⟩ := h.get? 1 (.int y.Flags) rfl
  have e1 := t1.int_out
  subst e1
  obtain ⟨u2, p2, t2⟩ := h.get? 2 (.bs y.Body) rfl
  obtain ⟨A2, c2, e2⟩ := t2.bs_sh
  subst e2
  rw [Nat.add_zero] at p0
  exact ⟨A2, c2, p0, p1, p2, t2⟩
structure ChunkResultM where
  Code : Int
  Chunk_Kind : Int
  Chunk_Flags : Int
  Chunk_Body : List Int
def ChunkResultM.vs (x : ChunkResultM) : List V := [.int x.Code, .int x.Chunk_Kind, .int x.Chunk_Flags, .bs x.Chunk_Body]
theorem shape_ChunkResult {w : World} {n0 : Int} {n1 : Int} {n2 : Int} {l3 : List Int} {vs : List Value} (h : RdA w [.int n0, .int n1, .int n2, .bs l3] vs) : ∃ (A3 : Option Addr) (c3 : Nat), vs = [.int .i64 n0, .int .i64 n1, .int .i64 n2, .slice A3 l3.length c3] := by
  obtain ⟨q0, e0, t0⟩ := h.int_out
  subst e0
  obtain ⟨q1, e1, t1⟩ := t0.int_out
  subst e1
  obtain ⟨q2, e2, t2⟩ := t1.int_out
  subst e2
  obtain ⟨v3, q3, e3, h3, t3⟩ := t2.any_out
  obtain ⟨A3, c3, a3⟩ := h3.bs_sh
  subst e3 a3
  have z := t3.nil_out
  subst z
  exact ⟨A3, c3, rfl⟩
theorem cnt_ChunkResult (y : ChunkResultM) (h : tot.totL y.vs ≤ 1048576) : vcA y.vs ≤ 1000000000 := by
  simp only [ChunkResultM.vs, vcA, vc, tot.totL, tot, cc] at *
  omega
theorem mem_ChunkResult {w : World} {g o : Nat} {y : ChunkResultM} (h : RdL w y.vs g o) : ∃ (A3 : Option Addr) (c3 : Nat), w.cell? ⟨g, o, none⟩ = some (.int .i64 y.Code) ∧ w.cell? ⟨g, o + 1, none⟩ = some (.int .i64 y.Chunk_Kind) ∧ w.cell? ⟨g, o + 2, none⟩ = some (.int .i64 y.Chunk_Flags) ∧ w.cell? ⟨g, o + 3, none⟩ = some (.slice A3 y.Chunk_Body.length c3) ∧ Rd w (.bs y.Chunk_Body) (.slice A3 y.Chunk_Body.length c3) := by
  obtain ⟨u0, p0, t0⟩ := h.get? 0 (.int y.Code) rfl
  have e0 := t0.int_out
  subst e0
  obtain ⟨u1, p1, t1⟩ := h.get? 1 (.int y.Chunk_Kind) rfl
  have e1 := t1.int_out
  subst e1
  obtain ⟨u2, p2, t2⟩ := h.get? 2 (.int y.Chunk_Flags) rfl
  have e2 := t2.int_out
  subst e2
  obtain ⟨u3, p3, t3⟩ := h.get? 3 (.bs y.Chunk_Body) rfl
  obtain ⟨A3, c3, e3⟩ := t3.bs_sh
  subst e3
  rw [Nat.add_zero] at p0
  exact ⟨A3, c3, p0, p1, p2, p3, t3⟩
structure DataM where
  Tsn : Int
  Stream : Int
  Seq : Int
  First : Bool
  Last : Bool
  Unordered : Bool
  Piece : List Int
def DataM.vs (x : DataM) : List V := [.int x.Tsn, .int x.Stream, .int x.Seq, .bool x.First, .bool x.Last, .bool x.Unordered, .bs x.Piece]
theorem shape_Data {w : World} {n0 : Int} {n1 : Int} {n2 : Int} {b3 : Bool} {b4 : Bool} {b5 : Bool} {l6 : List Int} {vs : List Value} (h : RdA w [.int n0, .int n1, .int n2, .bool b3, .bool b4, .bool b5, .bs l6] vs) : ∃ (A6 : Option Addr) (c6 : Nat), vs = [.int .i64 n0, .int .i64 n1, .int .i64 n2, .bool b3, .bool b4, .bool b5, .slice A6 l6.length c6] := by
  obtain ⟨q0, e0, t0⟩ := h.int_out
  subst e0
  obtain ⟨q1, e1, t1⟩ := t0.int_out
  subst e1
  obtain ⟨q2, e2, t2⟩ := t1.int_out
  subst e2
  obtain ⟨q3, e3, t3⟩ := t2.bool_out
  subst e3
  obtain ⟨q4, e4, t4⟩ := t3.bool_out
  subst e4
  obtain ⟨q5, e5, t5⟩ := t4.bool_out
  subst e5
  obtain ⟨v6, q6, e6, h6, t6⟩ := t5.any_out
  obtain ⟨A6, c6, a6⟩ := h6.bs_sh
  subst e6 a6
  have z := t6.nil_out
  subst z
  exact ⟨A6, c6, rfl⟩
theorem cnt_Data (y : DataM) (h : tot.totL y.vs ≤ 1048576) : vcA y.vs ≤ 1000000000 := by
  simp only [DataM.vs, vcA, vc, tot.totL, tot, cc] at *
  omega
theorem mem_Data {w : World} {g o : Nat} {y : DataM} (h : RdL w y.vs g o) : ∃ (A6 : Option Addr) (c6 : Nat), w.cell? ⟨g, o, none⟩ = some (.int .i64 y.Tsn) ∧ w.cell? ⟨g, o + 1, none⟩ = some (.int .i64 y.Stream) ∧ w.cell? ⟨g, o + 2, none⟩ = some (.int .i64 y.Seq) ∧ w.cell? ⟨g, o + 3, none⟩ = some (.bool y.First) ∧ w.cell? ⟨g, o + 4, none⟩ = some (.bool y.Last) ∧ w.cell? ⟨g, o + 5, none⟩ = some (.bool y.Unordered) ∧ w.cell? ⟨g, o + 6, none⟩ = some (.slice A6 y.Piece.length c6) ∧ Rd w (.bs y.Piece) (.slice A6 y.Piece.length c6) := by
  obtain ⟨u0, p0, t0⟩ := h.get? 0 (.int y.Tsn) rfl
  have e0 := t0.int_out
  subst e0
  obtain ⟨u1, p1, t1⟩ := h.get? 1 (.int y.Stream) rfl
  have e1 := t1.int_out
  subst e1
  obtain ⟨u2, p2, t2⟩ := h.get? 2 (.int y.Seq) rfl
  have e2 := t2.int_out
  subst e2
  obtain ⟨u3, p3, t3⟩ := h.get? 3 (.bool y.First) rfl
  have e3 := t3.bool_out
  subst e3
  obtain ⟨u4, p4, t4⟩ := h.get? 4 (.bool y.Last) rfl
  have e4 := t4.bool_out
  subst e4
  obtain ⟨u5, p5, t5⟩ := h.get? 5 (.bool y.Unordered) rfl
  have e5 := t5.bool_out
  subst e5
  obtain ⟨u6, p6, t6⟩ := h.get? 6 (.bs y.Piece) rfl
  obtain ⟨A6, c6, e6⟩ := t6.bs_sh
  subst e6
  rw [Nat.add_zero] at p0
  exact ⟨A6, c6, p0, p1, p2, p3, p4, p5, p6, t6⟩
structure DataResultM where
  Code : Int
  Data_Tsn : Int
  Data_Stream : Int
  Data_Seq : Int
  Data_First : Bool
  Data_Last : Bool
  Data_Unordered : Bool
  Data_Piece : List Int
def DataResultM.vs (x : DataResultM) : List V := [.int x.Code, .int x.Data_Tsn, .int x.Data_Stream, .int x.Data_Seq, .bool x.Data_First, .bool x.Data_Last, .bool x.Data_Unordered, .bs x.Data_Piece]
theorem shape_DataResult {w : World} {n0 : Int} {n1 : Int} {n2 : Int} {n3 : Int} {b4 : Bool} {b5 : Bool} {b6 : Bool} {l7 : List Int} {vs : List Value} (h : RdA w [.int n0, .int n1, .int n2, .int n3, .bool b4, .bool b5, .bool b6, .bs l7] vs) : ∃ (A7 : Option Addr) (c7 : Nat), vs = [.int .i64 n0, .int .i64 n1, .int .i64 n2, .int .i64 n3, .bool b4, .bool b5, .bool b6, .slice A7 l7.length c7] := by
  obtain ⟨q0, e0, t0⟩ := h.int_out
  subst e0
  obtain ⟨q1, e1, t1⟩ := t0.int_out
  subst e1
  obtain ⟨q2, e2, t2⟩ := t1.int_out
  subst e2
  obtain ⟨q3, e3, t3⟩ := t2.int_out
  subst e3
  obtain ⟨q4, e4, t4⟩ := t3.bool_out
  subst e4
  obtain ⟨q5, e5, t5⟩ := t4.bool_out
  subst e5
  obtain ⟨q6, e6, t6⟩ := t5.bool_out
  subst e6
  obtain ⟨v7, q7, e7, h7, t7⟩ := t6.any_out
  obtain ⟨A7, c7, a7⟩ := h7.bs_sh
  subst e7 a7
  have z := t7.nil_out
  subst z
  exact ⟨A7, c7, rfl⟩
theorem cnt_DataResult (y : DataResultM) (h : tot.totL y.vs ≤ 1048576) : vcA y.vs ≤ 1000000000 := by
  simp only [DataResultM.vs, vcA, vc, tot.totL, tot, cc] at *
  omega
theorem mem_DataResult {w : World} {g o : Nat} {y : DataResultM} (h : RdL w y.vs g o) : ∃ (A7 : Option Addr) (c7 : Nat), w.cell? ⟨g, o, none⟩ = some (.int .i64 y.Code) ∧ w.cell? ⟨g, o + 1, none⟩ = some (.int .i64 y.Data_Tsn) ∧ w.cell? ⟨g, o + 2, none⟩ = some (.int .i64 y.Data_Stream) ∧ w.cell? ⟨g, o + 3, none⟩ = some (.int .i64 y.Data_Seq) ∧ w.cell? ⟨g, o + 4, none⟩ = some (.bool y.Data_First) ∧ w.cell? ⟨g, o + 5, none⟩ = some (.bool y.Data_Last) ∧ w.cell? ⟨g, o + 6, none⟩ = some (.bool y.Data_Unordered) ∧ w.cell? ⟨g, o + 7, none⟩ = some (.slice A7 y.Data_Piece.length c7) ∧ Rd w (.bs y.Data_Piece) (.slice A7 y.Data_Piece.length c7) := by
  obtain ⟨u0, p0, t0⟩ := h.get? 0 (.int y.Code) rfl
  have e0 := t0.int_out
  subst e0
  obtain ⟨u1, p1, t1⟩ := h.get? 1 (.int y.Data_Tsn) rfl
  have e1 := t1.int_out
  subst e1
  obtain ⟨u2, p2, t2⟩ := h.get? 2 (.int y.Data_Stream) rfl
  have e2 := t2.int_out
  subst e2
  obtain ⟨u3, p3, t3⟩ := h.get? 3 (.int y.Data_Seq) rfl
  have e3 := t3.int_out
  subst e3
  obtain ⟨u4, p4, t4⟩ := h.get? 4 (.bool y.Data_First) rfl
  have e4 := t4.bool_out
  subst e4
  obtain ⟨u5, p5, t5⟩ := h.get? 5 (.bool y.Data_Last) rfl
  have e5 := t5.bool_out
  subst e5
  obtain ⟨u6, p6, t6⟩ := h.get? 6 (.bool y.Data_Unordered) rfl
  have e6 := t6.bool_out
  subst e6
  obtain ⟨u7, p7, t7⟩ := h.get? 7 (.bs y.Data_Piece) rfl
  obtain ⟨A7, c7, e7⟩ := t7.bs_sh
  subst e7
  rw [Nat.add_zero] at p0
  exact ⟨A7, c7, p0, p1, p2, p3, p4, p5, p6, p7, t7⟩
end Go.Proofs.Ytjjileefdjjijaa
