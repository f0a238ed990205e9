import Derived.Test.YtacdnednkglobaaMa2
import Derived.Test.YtacdnednkglobaaMa5
import Derived.Test.YtacdnednkglobaaMa4
import Derived.Test.YtacdnednkglobaaTyData
import Derived.Test.YtacdnednkglobaaMa1
import Derived.Deep.LoopGhost

/- Init, Answer and their results (WRITTEN BY tools/kinds.py) -/
namespace Go.Proofs.Ytacdnednkglobaa
open Go.RowKit Go.Deep Go.ChangeShapes Go.WideShapes Go.ChangeAt

structure InitM where
  Tag : Int
  Tsn : Int
  Random : List Int
  Addrs : List Int
  Cookie : List Int
def InitM.vs (x : InitM) : List V := [.int x.Tag, .int x.Tsn, .bs x.Random, .is x.Addrs, .bs x.Cookie]
theorem shape_Init {w : World} {n0 : Int} {n1 : Int} {l2 : List Int} {l3 : List Int} {l4 : List Int} {vs : List Value} (h : RdA w [.int n0, .int n1, .bs l2, .is l3, .bs l4] vs) : ∃ (A2 : Option Addr) (c2 : Nat) (A3 : Option Addr) (c3 : Nat) (A4 : Option Addr) (c4 : Nat), vs = [.int .i64 n0, .int .i64 n1, .slice A2 l2.length c2, .slice A3 l3.length c3, .slice A4 l4.length c4] := by
  obtain ⟨q0, e0, t0⟩ := h.int_out
  subst e0
  obtain ⟨q1, e1, t1⟩ := t0.int_out
  subst e1
  obtain ⟨v2, q2, e2, h2, t2⟩ := t1.any_out
  obtain ⟨A2, c2, a2⟩ := h2.bs_sh
  subst e2 a2
  obtain ⟨v3, q3, e3, h3, t3⟩ := t2.any_out
  obtain ⟨A3, c3, a3⟩ := h3.is_sh
  subst e3 a3
  obtain ⟨v4, q4, e4, h4, t4⟩ := t3.any_out
  obtain ⟨A4, c4, a4⟩ := h4.bs_sh
  subst e4 a4
  have z := t4.nil_out
  subst z
  exact ⟨A2, c2, A3, c3, A4, c4, rfl⟩
theorem cnt_Init (y : InitM) (h : tot.totL y.vs ≤ 1048576) : vcA y.vs ≤ 1000000000 := by
  simp only [InitM.vs, vcA, vc, tot.totL, tot, cc] at *
  omega
theorem mem_Init {w : World} {g o : Nat} {y : InitM} (h : RdL w y.vs g o) : ∃ (A2 : Option Addr) (c2 : Nat) (A3 : Option Addr) (c3 : Nat) (A4 : Option Addr) (c4 : Nat), w.cell? ⟨g, o, none⟩ = some (.int .i64 y.Tag) ∧ w.cell? ⟨g, o + 1, none⟩ = some (.int .i64 y.Tsn) ∧ w.cell? ⟨g, o + 2, none⟩ = some (.slice A2 y.Random.length c2) ∧ w.cell? ⟨g, o + 3, none⟩ = some (.slice A3 y.Addrs.length c3) ∧ w.cell? ⟨g, o + 4, none⟩ = some (.slice A4 y.Cookie.length c4) ∧ Rd w (.bs y.Random) (.slice A2 y.Random.length c2) ∧ Rd w (.is y.Addrs) (.slice A3 y.Addrs.length c3) ∧ Rd w (.bs y.Cookie) (.slice A4 y.Cookie.length c4) := by
  obtain ⟨u0, p0, t0⟩ := h.get? 0 (.int y.Tag) rfl
  have e0 := t0.int_out
  subst e0
  obtain ⟨u1, p1, t1⟩ := h.get? 1 (.int y.Tsn) rfl
  have e1 := t1.int_out
  subst e1
  obtain ⟨u2, p2, t2⟩ := h.get? 2 (.bs y.Random) rfl
  obtain ⟨A2, c2, e2⟩ := t2.bs_sh
  subst e2
  obtain ⟨u3, p3, t3⟩ := h.get? 3 (.is y.Addrs) rfl
  obtain ⟨A3, c3, e3⟩ := t3.is_sh
  subst e3
  obtain ⟨u4, p4, t4⟩ := h.get? 4 (.bs y.Cookie) rfl
  obtain ⟨A4, c4, e4⟩ := t4.bs_sh
  subst e4
  rw [Nat.add_zero] at p0
  exact ⟨A2, c2, A3, c3, A4, c4, p0, p1, p2, p3, p4, t2, t3, t4⟩
structure InitResultM where
  Code : Int
  Init_Tag : Int
  Init_Tsn : Int
  Init_Random : List Int
  Init_Addrs : List Int
  Init_Cookie : List Int
def InitResultM.vs (x : InitResultM) : List V := [.int x.Code, .int x.Init_Tag, .int x.Init_Tsn, .bs x.Init_Random, .is x.Init_Addrs, .bs x.Init_Cookie]
theorem shape_InitResult {w : World} {n0 : Int} {n1 : Int} {n2 : Int} {l3 : List Int} {l4 : List Int} {l5 : List Int} {vs : List Value} (h : RdA w [.int n0, .int n1, .int n2, .bs l3, .is l4, .bs l5] vs) : ∃ (A3 : Option Addr) (c3 : Nat) (A4 : Option Addr) (c4 : Nat) (A5 : Option Addr) (c5 : Nat), vs = [.int .i64 n0, .int .i64 n1, .int .i64 n2, .slice A3 l3.length c3, .slice A4 l4.length c4, .slice A5 l5.length c5] := by
  obtain ⟨q0, e0, t0⟩ := h.int_out
  subst e0
  obtain ⟨q1, e1, t1⟩ := t0.int_out
  subst e1
  obtain ⟨q2, e2, t2⟩ := t1.int_out
  subst e2
  obtain ⟨v3, q3, e3, h3, t3⟩ := t2.any_out
  obtain ⟨A3, c3, a3⟩ := h3.bs_sh
  subst e3 a3
  obtain ⟨v4, q4, e4, h4, t4⟩ := t3.any_out
  obtain ⟨A4, c4, a4⟩ := h4.is_sh
  subst e4 a4
  obtain ⟨v5, q5, e5, h5, t5⟩ := t4.any_out
  obtain ⟨A5, c5, a5⟩ := h5.bs_sh
  subst e5 a5
  have z := t5.nil_out
  subst z
  exact ⟨A3, c3, A4, c4, A5, c5, rfl⟩
theorem cnt_InitResult (y : InitResultM) (h : tot.totL y.vs ≤ 1048576) : vcA y.vs ≤ 1000000000 := by
  simp only [InitResultM.vs, vcA, vc, tot.totL, tot, cc] at *
  omega
theorem mem_InitResult {w : World} {g o : Nat} {y : InitResultM} (h : RdL w y.vs g o) : ∃ (A3 : Option Addr) (c3 : Nat) (A4 : Option Addr) (c4 : Nat) (A5 : Option Addr) (c5 : Nat), w.cell? ⟨g, o, none⟩ = some (.int .i64 y.Code) ∧ w.cell? ⟨g, o + 1, none⟩ = some (.int .i64 y.Init_Tag) ∧ w.cell? ⟨g, o + 2, none⟩ = some (.int .i64 y.Init_Tsn) ∧ w.cell? ⟨g, o + 3, none⟩ = some (.slice A3 y.Init_Random.length c3) ∧ w.cell? ⟨g, o + 4, none⟩ = some (.slice A4 y.Init_Addrs.length c4) ∧ w.cell? ⟨g, o + 5, none⟩ = some (.slice A5 y.Init_Cookie.length c5) ∧ Rd w (.bs y.Init_Random) (.slice A3 y.Init_Random.length c3) ∧ Rd w (.is y.Init_Addrs) (.slice A4 y.Init_Addrs.length c4) ∧ Rd w (.bs y.Init_Cookie) (.slice A5 y.Init_Cookie.length c5) := by
  obtain ⟨u0, p0, t0⟩ := h.get? 0 (.int y.Code) rfl
  have e0 := t0.int_out
  subst e0
  obtain ⟨u1, p1, t1⟩ := h.get? 1 (.int y.Init_Tag) rfl
  have e1 := t1.int_out
  subst e1
  obtain ⟨u2, p2, t2⟩ := h.get? 2 (.int y.Init_Tsn) rfl
  have e2 := t2.int_out
  subst e2
  obtain ⟨u3, p3, t3⟩ := h.get? 3 (.bs y.Init_Random) rfl
  obtain ⟨A3, c3, e3⟩ := t3.bs_sh
  subst e3
  obtain ⟨u4, p4, t4⟩ := h.get? 4 (.is y.Init_Addrs) rfl
  obtain ⟨A4, c4, e4⟩ := t4.is_sh
  subst e4
  obtain ⟨u5, p5, t5⟩ := h.get? 5 (.bs y.Init_Cookie) rfl
  obtain ⟨A5, c5, e5⟩ := t5.bs_sh
  subst e5
  rw [Nat.add_zero] at p0
  exact ⟨A3, c3, A4, c4, A5, c5, p0, p1, p2, p3, p4, p5, t3, t4, t5⟩
structure AnswerM where
  Serial : Int
  Codes : List Int
def AnswerM.vs (x : AnswerM) : List V := [.int x.Serial, .is x.Codes]
theorem shape_Answer {w : World} {n0 : Int} {l1 : List Int} {vs : List Value} (h : RdA w [.int n0, .is l1] vs) : ∃ (A1 : Option Addr) (c1 : Nat), vs = [.int .i64 n0, .slice A1 l1.length c1] := by
  obtain ⟨q0, e0, t0⟩ := h.int_out
  subst e0
  obtain ⟨v1, q1, e1, h1, t1⟩ := t0.any_out
  obtain ⟨A1, c1, a1⟩ := h1.is_sh
  subst e1 a1
  have z := t1.nil_out
  subst z
  exact ⟨A1, c1, rfl⟩
theorem cnt_Answer (y : AnswerM) (h : tot.totL y.vs ≤ 1048576) : vcA y.vs ≤ 1000000000 := by
  simp only [AnswerM.vs, vcA, vc, tot.totL, tot, cc] at *
  omega
theorem mem_Answer {w : World} {g o : Nat} {y : AnswerM} (h : RdL w y.vs g o) : ∃ (A1 : Option Addr) (c1 : Nat), w.cell? ⟨g, o, none⟩ = some (.int .i64 y.Serial) ∧ w.cell? ⟨g, o + 1, none⟩ = some (.slice A1 y.Codes.length c1) ∧ Rd w (.is y.Codes) (.slice A1 y.Codes.length c1) := by
  obtain ⟨u0, p0, t0⟩ := h.get? 0 (.int y.Serial) rfl
  have e0 := t0.int_out
  subst e0
  obtain ⟨u1, p1, t1⟩ := h.get? 1 (.is y.Codes) rfl
  obtain ⟨A1, c1, e1⟩ := t1.is_sh
  subst e1
  rw [Nat.add_zero] at p0
  exact ⟨A1, c1, p0, p1, t1⟩
structure AnswerResultM where
  Code : Int
  Answer_Serial : Int
  Answer_Codes : List Int
def AnswerResultM.vs (x : AnswerResultM) : List V := [.int x.Code, .int x.Answer_Serial, .is x.Answer_Codes]
theorem shape_AnswerResult {w : World} {n0 : Int} {n1 : Int} {l2 : List Int} {vs : List Value} (h : RdA w [.int n0, .int n1, .is l2] vs) : ∃ (A2 : Option Addr) (c2 : Nat), vs = [.int .i64 n0, .int .i64 n1, .slice A2 l2.length c2] := by
  obtain ⟨q0, e0, t0⟩ := h.int_out
  subst e0
  obtain ⟨q1, e1, t1⟩ := t0.int_out
  subst e1
  obtain ⟨v2, q2, e2, h2, t2⟩ := t1.any_out
  obtain ⟨A2, c2, a2⟩ := h2.is_sh
  subst e2 a2
  have z := t2.nil_out
  subst z
  exact ⟨A2, c2, rfl⟩
theorem cnt_AnswerResult (y : AnswerResultM) (h : tot.totL y.vs ≤ 1048576) : vcA y.vs ≤ 1000000000 := by
  simp only [AnswerResultM.vs, vcA, vc, tot.totL, tot, cc] at *
  omega
theorem mem_AnswerResult {w : World} {g o : Nat} {y : AnswerResultM} (h : RdL w y.vs g o) : ∃ (A2 : Option Addr) (c2 : Nat), w.cell? ⟨g, o, none⟩ = some (.int .i64 y.Code) ∧ w.cell? ⟨g, o + 1, none⟩ = some (.int .i64 y.Answer_Serial) ∧ w.cell? ⟨g, o + 2, none⟩ = some (.slice A2 y.Answer_Codes.length c2) ∧ Rd w (.is y.Answer_Codes) (.slice A2 y.Answer_Codes.length c2) := by
  obtain ⟨u0, p0, t0⟩ := h.get? 0 (.int y.Code) rfl
  have e0 := t0.int_out
  subst e0
  obtain ⟨u1, p1, t1⟩ := h.get? 1 (.int y.Answer_Serial) rfl
  have e1 := t1.int_out
  subst e1
  obtain ⟨u2, p2, t2⟩ := h.get? 2 (.is y.Answer_Codes) rfl
  obtain ⟨A2, c2, e2⟩ := t2.is_sh
  subst e2
  rw [Nat.add_zero] at p0
  exact ⟨A2, c2, p0, p1, p2, t2⟩
end Go.Proofs.Ytacdnednkglobaa

/- The model's chunks: l1Pair, l1PairAt, ChunkFault. -/
namespace Go.Proofs.Ytacdnednkglobaa
open Go.RowKit Go.Deep

theorem own_below0 {w w' : World} {B : Nat} {e : TypeId} {s n : Nat} {v : Value} {xs : List Value} (h : w.ownsRow B e s v n xs) (hb : Below w.heap.size w w') : w'.ownsRow B e s v n xs := by
  obtain ⟨h1, h2 | ⟨g, cap, cur, h3, h4, h5, h6⟩⟩ := h
  · exact ⟨h1, .inl h2⟩
  · exact ⟨h1, .inr ⟨g, cap, cur, h3, h4, (hb.block g (Array.getElem?_eq_some_iff.1 h5).1).trans h5, h6⟩⟩
theorem lit_bs2 {w : World} {g : Nat} {t : TypeId} {x y : Int} (h : Blk w g t #[.int .u8 x, .int .u8 y]) : Bs w (some ⟨g, 0, none⟩) [x, y] :=
  .inr ⟨g, 0, rfl, h.lt, fun j hj => by
    rw [Nat.zero_add, h.cell]
    match j, hj with
    | 0, _ => rfl
    | 1, _ => rfl⟩
theorem win_set (w : World) (g o : Nat) (u : Value) : Win g (g + 1) w (w.setCell ⟨g, o, none⟩ u) :=
  ⟨rfl, rfl, rfl, by simp [World.setCell], fun k _ ho => Below.heap_setCell _ _ _ _ (by show k ≠ g; omega), fun _ _ => World.frozen?_setCell _ _ _ _⟩
/-- A chunk's value. -/
def ckV (k f : Int) (A : Option Addr) (n c : Nat) : Value := .agg #[.int .i64 k, .int .i64 f, .slice A n c]
def chF (k f : Int) (b : List Int) : Int := if inB k 0 255 && inB f 0 255 then (if b.length ≤ 160 then 0 else 2) else 3
/-- A chunk's bytes: its head, its body, noughts to whole words. -/
def chPad (n : Nat) : Nat := (4 - n % 4) % 4
def chL (k f : Int) (b : List Int) : List Int := [k, f, ((b.length : Int) + 4) / 256, ((b.length : Int) + 4) % 256] ++ b ++ List.replicate (chPad b.length) 0
theorem chL_len (k f : Int) (b : List Int) : (chL k f b).length = 4 + b.length + chPad b.length := by simp [chL]; omega
set_option maxHeartbeats 400000 in
theorem pair_any (n : Int) (w : World) (h0 : 0 ≤ n) (h1 : n < 65536) :
    Calls Try.prog 52 #[.int .i64 n] w fun e w' => e = .returned (.slice (some ⟨w.heap.size, 0, none⟩) 2 2) ∧ w.alloc (.cells #[.int .u8 (n / 256), .int .u8 (n % 256)] 5) = w' := by
  go_enter Try.func52, Try.ntmps52
  go_wp2
  go_ret
  exact ⟨rfl, rfl⟩
set_option maxHeartbeats 1000000 in
theorem chFault_spec (k f : Int) (A : Option Addr) (b : List Int) (c : Nat) (w : World) (hm : (b.length : Int) ≤ 9223372036854775807) :
    Calls Try.prog 41 #[ckV k f A b.length c] w fun e w' => e = .returned (.int .i64 (chF k f b)) ∧ Below w.heap.size w w' := by
  unfold ckV
  by_cases h1 : inB k 0 255 = true
  · by_cases h2 : inB f 0 255 = true
    · by_cases h3 : b.length ≤ 160
      · have e : chF k f b = 0 := by simp [chF, h1, h2, h3]
        have h4 : (b.length : Int) ≤ 160 := by omega
        rw [e]
        clear e h3
        go_enter Try.func41, Try.ntmps41
        go_wp2_with (go_at_call 26; refine (in_any _ _ _ _).mono ?_; rintro e w' ⟨rfl, rfl⟩)
        go_ret
        exact ⟨rfl, bal (Below.refl _ _) _⟩
      · have e : chF k f b = 2 := by simp [chF, h1, h2, h3]
        have h4 : (160 : Int) < (b.length : Int) := by omega
        rw [e]
        clear e h3
        go_enter Try.func41, Try.ntmps41
        go_wp2_with (go_at_call 26; refine (in_any _ _ _ _).mono ?_; rintro e w' ⟨rfl, rfl⟩)
        go_ret
        exact ⟨rfl, bal (Below.refl _ _) _⟩
    · have h2 : inB f 0 255 = false := by simpa using h2
      have e : chF k f b = 3 := by simp [chF, h1, h2]
      rw [e]
      clear e
      go_enter Try.func41, Try.ntmps41
      go_wp2_with (go_at_call 26; refine (in_any _ _ _ _).mono ?_; rintro e w' ⟨rfl, rfl⟩)
      go_ret
      exact ⟨rfl, bal (Below.refl _ _) _⟩
  · have h1 : inB k 0 255 = false := by simpa using h1
    have e : chF k f b = 3 := by simp [chF, h1]
    rw [e]
    clear e
    go_enter Try.func41, Try.ntmps41
    go_wp2_with (go_at_call 26; refine (in_any _ _ _ _).mono ?_; rintro e w' ⟨rfl, rfl⟩)
    go_ret
    exact ⟨rfl, bal (Below.refl _ _) _⟩
end Go.Proofs.Ytacdnednkglobaa

/- Chapter 5 on numbers: data. -/
namespace Go.Proofs.Ytacdnednkglobaa
open Go.RowKit Go.Deep

theorem bsOf {w : World} {l : List Int} {A : Option Addr} {n c : Nat} (h : Rd w (.bs l) (.slice A n c)) : Bs w A l := by
  obtain ⟨A', c', e, _, hb⟩ := h.bs_out
  injection e with e1 e2 e3
  subst e1
  exact hb
def pairL (n : Int) : List Int := [n / 256, n % 256]
def bitN (b : Bool) (k : Int) : Int := if b then k else 0
/-- The fault of a data, its chunk, PackData's answer. -/
def pdF (y : DataM) : Int := if wB y.Tsn && inB y.Stream 0 9 && inB y.Seq 0 65535 then (if 1 ≤ y.Piece.length ∧ y.Piece.length ≤ 100 then (if y.Unordered = true ∧ y.Seq ≠ 0 then 1 else 0) else 2) else 3
def pdC (y : DataM) : ChunkM := ⟨0, bitN y.Last 1 + bitN y.First 2 + bitN y.Unordered 4, pk y.Tsn ++ pairL y.Stream ++ pairL y.Seq ++ y.Piece⟩
def crOf (f : Int) (c : ChunkM) : ChunkResultM := if f = 0 then ⟨0, c.Kind, c.Flags, c.Body⟩ else ⟨f, 0, 0, []⟩
def pdR (y : DataM) : ChunkResultM := crOf (pdF y) (pdC y)
theorem pdF_zero {y : DataM} (h : pdF y = 0) : (0 ≤ y.Tsn ∧ y.Tsn ≤ 4294967295) ∧ (0 ≤ y.Stream ∧ y.Stream ≤ 9) ∧ (0 ≤ y.Seq ∧ y.Seq ≤ 65535) ∧ 1 ≤ y.Piece.length ∧ y.Piece.length ≤ 100 := by
  unfold pdF wB inB at h
  split at h
  · next h1 =>
    simp at h1
    split at h
    · next h2 => exact ⟨h1.1.1, h1.1.2, h1.2, h2.1, h2.2⟩
    · cases h
  · cases h
/-- A chunk is just the one that was made. -/
def isM (x : ChunkM) (z : ChunkResultM) : Bool := z.Code == 0 && x.Kind == z.Chunk_Kind && x.Flags == z.Chunk_Flags && x.Body == z.Chunk_Body
theorem pdR_len (y : DataM) (_ : WfA y.vs) (h : tot.totL y.vs ≤ 1048576) : vcA (pdR y).vs ≤ 1000000000 := by
  simp only [DataM.vs, tot.totL, tot] at h
  unfold pdR crOf
  split
  · simp [ChunkResultM.vs, vcA, vc, cc, pdC, pk, pairL]; omega
  · simp [ChunkResultM.vs, vcA, vc, cc]
end Go.Proofs.Ytacdnednkglobaa

/- Chapter 5 on numbers: answers; the model's l5AnswerFault, l5Bytes. -/
namespace Go.Proofs.Ytacdnednkglobaa
open Go.RowKit Go.Deep

def okCs (l : List Int) : Prop := ∀ j, j < l.length → inB (l.getD j 0) 0 20 = true
instance (l : List Int) : Decidable (okCs l) := by unfold okCs; exact Nat.decidableBallLT l.length (fun j _ => inB (l.getD j 0) 0 20 = true)
def paF (y : AnswerM) : Int := if wB y.Serial then (if 1 ≤ y.Codes.length ∧ y.Codes.length ≤ 4 then (if okCs y.Codes then 0 else 3) else 2) else 3
def paC (y : AnswerM) : ChunkM := ⟨128, 0, pk y.Serial ++ ((y.Codes.length : Int) :: y.Codes)⟩
def paR (y : AnswerM) : ChunkResultM := crOf (paF y) (paC y)
theorem paR_len (y : AnswerM) (_ : WfA y.vs) (h : tot.totL y.vs ≤ 1048576) : vcA (paR y).vs ≤ 1000000000 := by
  simp only [AnswerM.vs, tot.totL, tot] at h
  unfold paR crOf
  split
  · simp [ChunkResultM.vs, vcA, vc, cc, paC, pk]; omega
  · simp [ChunkResultM.vs, vcA, vc, cc]
theorem paF_zero {y : AnswerM} (h : paF y = 0) : (0 ≤ y.Serial ∧ y.Serial ≤ 4294967295) ∧ (1 ≤ y.Codes.length ∧ y.Codes.length ≤ 4) ∧ okCs y.Codes := by
  unfold paF wB inB at h
  split at h
  · next h1 =>
    simp at h1
    split at h
    · next h2 =>
      split at h
      · next h3 => exact ⟨h1, h2, h3⟩
      · cases h
    · cases h
  · cases h
theorem isOf {w : World} {l : List Int} {A : Option Addr} {n c : Nat} (h : Rd w (.is l) (.slice A n c)) : Is w A l := by
  obtain ⟨A', c', e, _, hb⟩ := h.is_out
  injection e with e1 e2 e3
  subst e1
  exact hb
end Go.Proofs.Ytacdnednkglobaa

/- Sack, Asconf and their results (WRITTEN BY tools/kinds.py) -/
namespace Go.Proofs.Ytacdnednkglobaa
open Go.RowKit Go.Deep Go.ChangeShapes Go.WideShapes Go.ChangeAt

structure GapM where
  From : Int
  To : Int
def GapM.vs (x : GapM) : List V := [.int x.From, .int x.To]
theorem shape_Gap {w : World} {n0 : Int} {n1 : Int} {vs : List Value} (h : RdA w [.int n0, .int n1] vs) : vs = [.int .i64 n0, .int .i64 n1] := by
  obtain ⟨q0, e0, t0⟩ := h.int_out
  subst e0
  obtain ⟨q1, e1, t1⟩ := t0.int_out
  subst e1
  have z := t1.nil_out
  subst z
  exact rfl
theorem mem_Gap {w : World} {g o : Nat} {y : GapM} (h : RdL w y.vs g o) : w.cell? ⟨g, o, none⟩ = some (.int .i64 y.From) ∧ w.cell? ⟨g, o + 1, none⟩ = some (.int .i64 y.To) := by
  obtain ⟨u0, p0, t0⟩ := h.get? 0 (.int y.From) rfl
  have e0 := t0.int_out
  subst e0
  obtain ⟨u1, p1, t1⟩ := h.get? 1 (.int y.To) rfl
  have e1 := t1.int_out
  subst e1
  rw [Nat.add_zero] at p0
  exact ⟨p0, p1⟩
def st_Gap (r : List GapM) : V := .st r.length (r.flatMap GapM.vs)
theorem st_Gap_sh {w : World} {r : List GapM} {v : Value} (h : Rd w (st_Gap r) v) : ∃ A c, v = .slice A r.length c := Rd.st_sh h
theorem ccS_Gap (r : List GapM) : cc.ccL (r.flatMap GapM.vs) ≤ 3 * (r.length + tot.totL (r.flatMap GapM.vs)) := by
  induction r with
  | nil => simp [cc.ccL]
  | cons x xs ih =>
    rw [List.flatMap_cons, ccL_append, totL_append, List.length_cons]
    have : cc.ccL (GapM.vs x) ≤ 3 * (1 + tot.totL (GapM.vs x)) := by
      simp only [GapM.vs, cc.ccL, cc, tot.totL, tot]
      omega
    omega
structure SackM where
  Cum : Int
  Gaps : List GapM
def SackM.vs (x : SackM) : List V := [.int x.Cum, st_Gap x.Gaps]
theorem shape_Sack {w : World} {n0 : Int} {r1 : List GapM} {vs : List Value} (h : RdA w [.int n0, st_Gap r1] vs) : ∃ (A1 : Option Addr) (c1 : Nat), vs = [.int .i64 n0, .slice A1 r1.length c1] := by
  obtain ⟨q0, e0, t0⟩ := h.int_out
  subst e0
  obtain ⟨v1, q1, e1, h1, t1⟩ := t0.any_out
  obtain ⟨A1, c1, a1⟩ := st_Gap_sh h1
  subst e1 a1
  have z := t1.nil_out
  subst z
  exact ⟨A1, c1, rfl⟩
theorem cnt_Sack (y : SackM) (h : tot.totL y.vs ≤ 1048576) : vcA y.vs ≤ 1000000000 := by
  have cGap := ccS_Gap
  simp only [SackM.vs, vcA, vc, tot.totL, tot, cc, st_Gap] at *
  have d1 := cGap y.Gaps
  omega
theorem mem_Sack {w : World} {g o : Nat} {y : SackM} (h : RdL w y.vs g o) : ∃ (A1 : Option Addr) (c1 : Nat), w.cell? ⟨g, o, none⟩ = some (.int .i64 y.Cum) ∧ w.cell? ⟨g, o + 1, none⟩ = some (.slice A1 y.Gaps.length c1) ∧ Rd w (st_Gap y.Gaps) (.slice A1 y.Gaps.length c1) := by
  obtain ⟨u0, p0, t0⟩ := h.get? 0 (.int y.Cum) rfl
  have e0 := t0.int_out
  subst e0
  obtain ⟨u1, p1, t1⟩ := h.get? 1 (st_Gap y.Gaps) rfl
  obtain ⟨A1, c1, e1⟩ := st_Gap_sh t1
  subst e1
  rw [Nat.add_zero] at p0
  exact ⟨A1, c1, p0, p1, t1⟩
structure SackResultM where
  Code : Int
  Sack_Cum : Int
  Sack_Gaps : List GapM
def SackResultM.vs (x : SackResultM) : List V := [.int x.Code, .int x.Sack_Cum, st_Gap x.Sack_Gaps]
theorem shape_SackResult {w : World} {n0 : Int} {n1 : Int} {r2 : List GapM} {vs : List Value} (h : RdA w [.int n0, .int n1, st_Gap r2] vs) : ∃ (A2 : Option Addr) (c2 : Nat), vs = [.int .i64 n0, .int .i64 n1, .slice A2 r2.length c2] := by
  obtain ⟨q0, e0, t0⟩ := h.int_out
  subst e0
  obtain ⟨q1, e1, t1⟩ := t0.int_out
  subst e1
  obtain ⟨v2, q2, e2, h2, t2⟩ := t1.any_out
  obtain ⟨A2, c2, a2⟩ := st_Gap_sh h2
  subst e2 a2
  have z := t2.nil_out
  subst z
  exact ⟨A2, c2, rfl⟩
theorem cnt_SackResult (y : SackResultM) (h : tot.totL y.vs ≤ 1048576) : vcA y.vs ≤ 1000000000 := by
  have cGap := ccS_Gap
  simp only [SackResultM.vs, vcA, vc, tot.totL, tot, cc, st_Gap] at *
  have d2 := cGap y.Sack_Gaps
  omega
theorem mem_SackResult {w : World} {g o : Nat} {y : SackResultM} (h : RdL w y.vs g o) : ∃ (A2 : Option Addr) (c2 : Nat), w.cell? ⟨g, o, none⟩ = some (.int .i64 y.Code) ∧ w.cell? ⟨g, o + 1, none⟩ = some (.int .i64 y.Sack_Cum) ∧ w.cell? ⟨g, o + 2, none⟩ = some (.slice A2 y.Sack_Gaps.length c2) ∧ Rd w (st_Gap y.Sack_Gaps) (.slice A2 y.Sack_Gaps.length c2) := by
  obtain ⟨u0, p0, t0⟩ := h.get? 0 (.int y.Code) rfl
  have e0 := t0.int_out
  subst e0
  obtain ⟨u1, p1, t1⟩ := h.get? 1 (.int y.Sack_Cum) rfl
  have e1 := t1.int_out
  subst e1
  obtain ⟨u2, p2, t2⟩ := h.get? 2 (st_Gap y.Sack_Gaps) rfl
  obtain ⟨A2, c2, e2⟩ := st_Gap_sh t2
  subst e2
  rw [Nat.add_zero] at p0
  exact ⟨A2, c2, p0, p1, p2, t2⟩
structure AddrOpM where
  Kind : Int
  Addr : Int
def AddrOpM.vs (x : AddrOpM) : List V := [.int x.Kind, .int x.Addr]
theorem shape_AddrOp {w : World} {n0 : Int} {n1 : Int} {vs : List Value} (h : RdA w [.int n0, .int n1] vs) : vs = [.int .i64 n0, .int .i64 n1] := by
  obtain ⟨q0, e0, t0⟩ := h.int_out
  subst e0
  obtain ⟨q1, e1, t1⟩ := t0.int_out
  subst e1
  have z := t1.nil_out
  subst z
  exact rfl
theorem mem_AddrOp {w : World} {g o : Nat} {y : AddrOpM} (h : RdL w y.vs g o) : w.cell? ⟨g, o, none⟩ = some (.int .i64 y.Kind) ∧ w.cell? ⟨g, o + 1, none⟩ = some (.int .i64 y.Addr) := by
  obtain ⟨u0, p0, t0⟩ := h.get? 0 (.int y.Kind) rfl
  have e0 := t0.int_out
  subst e0
  obtain ⟨u1, p1, t1⟩ := h.get? 1 (.int y.Addr) rfl
  have e1 := t1.int_out
  subst e1
  rw [Nat.add_zero] at p0
  exact ⟨p0, p1⟩
def st_AddrOp (r : List AddrOpM) : V := .st r.length (r.flatMap AddrOpM.vs)
theorem st_AddrOp_sh {w : World} {r : List AddrOpM} {v : Value} (h : Rd w (st_AddrOp r) v) : ∃ A c, v = .slice A r.length c := Rd.st_sh h
theorem ccS_AddrOp (r : List AddrOpM) : cc.ccL (r.flatMap AddrOpM.vs) ≤ 3 * (r.length + tot.totL (r.flatMap AddrOpM.vs)) := by
  induction r with
  | nil => simp [cc.ccL]
  | cons x xs ih =>
    rw [List.flatMap_cons, ccL_append, totL_append, List.length_cons]
    have : cc.ccL (AddrOpM.vs x) ≤ 3 * (1 + tot.totL (AddrOpM.vs x)) := by
      simp only [AddrOpM.vs, cc.ccL, cc, tot.totL, tot]
      omega
    omega
structure AsconfM where
  Serial : Int
  Ops : List AddrOpM
def AsconfM.vs (x : AsconfM) : List V := [.int x.Serial, st_AddrOp x.Ops]
theorem shape_Asconf {w : World} {n0 : Int} {r1 : List AddrOpM} {vs : List Value} (h : RdA w [.int n0, st_AddrOp r1] vs) : ∃ (A1 : Option Addr) (c1 : Nat), vs = [.int .i64 n0, .slice A1 r1.length c1] := by
  obtain ⟨q0, e0, t0⟩ := h.int_out
  subst e0
  obtain ⟨v1, q1, e1, h1, t1⟩ := t0.any_out
  obtain ⟨A1, c1, a1⟩ := st_AddrOp_sh h1
  subst e1 a1
  have z := t1.nil_out
  subst z
  exact ⟨A1, c1, rfl⟩
theorem cnt_Asconf (y : AsconfM) (h : tot.totL y.vs ≤ 1048576) : vcA y.vs ≤ 1000000000 := by
  have cAddrOp := ccS_AddrOp
  simp only [AsconfM.vs, vcA, vc, tot.totL, tot, cc, st_AddrOp] at *
  have d1 := cAddrOp y.Ops
  omega
theorem mem_Asconf {w : World} {g o : Nat} {y : AsconfM} (h : RdL w y.vs g o) : ∃ (A1 : Option Addr) (c1 : Nat), w.cell? ⟨g, o, none⟩ = some (.int .i64 y.Serial) ∧ w.cell? ⟨g, o + 1, none⟩ = some (.slice A1 y.Ops.length c1) ∧ Rd w (st_AddrOp y.Ops) (.slice A1 y.Ops.length c1) := by
  obtain ⟨u0, p0, t0⟩ := h.get? 0 (.int y.Serial) rfl
  have e0 := t0.int_out
  subst e0
  obtain ⟨u1, p1, t1⟩ := h.get? 1 (st_AddrOp y.Ops) rfl
  obtain ⟨A1, c1, e1⟩ := st_AddrOp_sh t1
  subst e1
  rw [Nat.add_zero] at p0
  exact ⟨A1, c1, p0, p1, t1⟩
structure AsconfResultM where
  Code : Int
  Asconf_Serial : Int
  Asconf_Ops : List AddrOpM
def AsconfResultM.vs (x : AsconfResultM) : List V := [.int x.Code, .int x.Asconf_Serial, st_AddrOp x.Asconf_Ops]
theorem shape_AsconfResult {w : World} {n0 : Int} {n1 : Int} {r2 : List AddrOpM} {vs : List Value} (h : RdA w [.int n0, .int n1, st_AddrOp r2] vs) : ∃ (A2 : Option Addr) (c2 : Nat), vs = [.int .i64 n0, .int .i64 n1, .slice A2 r2.length c2] := by
  obtain ⟨q0, e0, t0⟩ := h.int_out
  subst e0
  obtain ⟨q1, e1, t1⟩ := t0.int_out
  subst e1
  obtain ⟨v2, q2, e2, h2, t2⟩ := t1.any_out
  obtain ⟨A2, c2, a2⟩ := st_AddrOp_sh h2
  subst e2 a2
  have z := t2.nil_out
  subst z
  exact ⟨A2, c2, rfl⟩
theorem cnt_AsconfResult (y : AsconfResultM) (h : tot.totL y.vs ≤ 1048576) : vcA y.vs ≤ 1000000000 := by
  have cAddrOp := ccS_AddrOp
  simp only [AsconfResultM.vs, vcA, vc, tot.totL, tot, cc, st_AddrOp] at *
  have d2 := cAddrOp y.Asconf_Ops
  omega
theorem mem_AsconfResult {w : World} {g o : Nat} {y : AsconfResultM} (h : RdL w y.vs g o) : ∃ (A2 : Option Addr) (c2 : Nat), w.cell? ⟨g, o, none⟩ = some (.int .i64 y.Code) ∧ w.cell? ⟨g, o + 1, none⟩ = some (.int .i64 y.Asconf_Serial) ∧ w.cell? ⟨g, o + 2, none⟩ = some (.slice A2 y.Asconf_Ops.length c2) ∧ Rd w (st_AddrOp y.Asconf_Ops) (.slice A2 y.Asconf_Ops.length c2) := by
  obtain ⟨u0, p0, t0⟩ := h.get? 0 (.int y.Code) rfl
  have e0 := t0.int_out
  subst e0
  obtain ⟨u1, p1, t1⟩ := h.get? 1 (.int y.Asconf_Serial) rfl
  have e1 := t1.int_out
  subst e1
  obtain ⟨u2, p2, t2⟩ := h.get? 2 (st_AddrOp y.Asconf_Ops) rfl
  obtain ⟨A2, c2, e2⟩ := st_AddrOp_sh t2
  subst e2
  rw [Nat.add_zero] at p0
  exact ⟨A2, c2, p0, p1, p2, t2⟩
end Go.Proofs.Ytacdnednkglobaa

/- Chapter 5 on numbers: requests and acknowledgements; the model's l5Addr, l5AsconfFault, l5SackFault. -/
namespace Go.Proofs.Ytacdnednkglobaa
open Go.RowKit Go.Deep

def okOp (x : AddrOpM) : Bool := inB x.Kind 1 3 && inB x.Addr 1 255
def qaF (y : AsconfM) : Int := if wB y.Serial then (if 1 ≤ y.Ops.length ∧ y.Ops.length ≤ 4 then (if y.Ops.all okOp then 0 else 3) else 2) else 3
def opL (x : AddrOpM) : List Int := [x.Kind, x.Addr]
def qaC (y : AsconfM) : ChunkM := ⟨193, 0, pk y.Serial ++ ((y.Ops.length : Int) :: y.Ops.flatMap opL)⟩
def qaR (y : AsconfM) : ChunkResultM := crOf (qaF y) (qaC y)
/-- The gaps behind a number, each one behind the other with a number between. -/
def okGaps : Int → List GapM → Bool
  | _, [] => true
  | a, x :: r => inB x.From 2 x.To && inB x.To 2 65535 && decide (a + 1 < x.From) && okGaps x.To r
theorem okGaps_cons (a : Int) (x : GapM) (r : List GapM) : okGaps a (x :: r) = (inB x.From 2 x.To && inB x.To 2 65535 && decide (a + 1 < x.From) && okGaps x.To r) := rfl
def ksF (y : SackM) : Int := if wB y.Cum then (if y.Gaps.length ≤ 20 then (if okGaps 0 y.Gaps then 0 else 1) else 2) else 3
def gapL (x : GapM) : List Int := pairL x.From ++ pairL x.To
def ksC (y : SackM) : ChunkM := ⟨3, 0, pk y.Cum ++ ((y.Gaps.length : Int) :: y.Gaps.flatMap gapL)⟩
def ksR (y : SackM) : ChunkResultM := crOf (ksF y) (ksC y)
theorem qaF_zero {y : AsconfM} (h : qaF y = 0) : (0 ≤ y.Serial ∧ y.Serial ≤ 4294967295) ∧ (1 ≤ y.Ops.length ∧ y.Ops.length ≤ 4) ∧ y.Ops.all okOp = true := by
  unfold qaF wB inB at h
  split at h
  · next h1 =>
    simp only [Bool.and_eq_true, decide_eq_true_eq] at h1
    split at h
    · next h2 =>
      split at h
      · next h3 => exact ⟨h1, h2, h3⟩
      · cases h
    · cases h
  · cases h
theorem ksF_zero {y : SackM} (h : ksF y = 0) : (0 ≤ y.Cum ∧ y.Cum ≤ 4294967295) ∧ y.Gaps.length ≤ 20 ∧ okGaps 0 y.Gaps = true := by
  unfold ksF wB inB at h
  split at h
  · next h1 =>
    simp only [Bool.and_eq_true, decide_eq_true_eq] at h1
    split at h
    · next h2 =>
      split at h
      · next h3 => exact ⟨h1, h2, h3⟩
      · cases h
    · cases h
  · cases h
theorem all_take {α : Type} {f : α → Bool} {l : List α} {j : Nat} (hj : j < l.length) (h : (l.take j).all f = true) (k : f l[j] = true) : (l.take (j + 1)).all f = true := by
  rw [List.take_add_one, List.getElem?_eq_getElem hj, Option.toList_some, List.all_append, h]
  simp [k]
theorem all_not {α : Type} {f : α → Bool} {l : List α} {j : Nat} (hj : j < l.length) (k : f l[j] = false) : ¬ l.all f = true := by
  intro h
  rw [List.all_eq_true] at h
  have := h _ (List.getElem_mem hj)
  rw [k] at this
  cases this
end Go.Proofs.Ytacdnednkglobaa
