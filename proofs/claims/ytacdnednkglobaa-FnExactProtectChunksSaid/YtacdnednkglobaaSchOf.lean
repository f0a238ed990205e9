/- The program's numbersOf, ScheduleOf. -/
import Derived.Test.YtacdnednkglobaaSchedI
import Derived.Test.YtacdnednkglobaaMa5
import Derived.Deep.MidRow
namespace Go.Proofs.Ytacdnednkglobaa
open Go.RowKit Go.Deep

/-- A whole block of numbers that are words. -/
def Nrow (w : World) (g : Nat) (ws : List Nat) : Prop := Blk w g 2 (ws.map wv).toArray
theorem Nrow.cell {w : World} {g : Nat} {ws : List Nat} (h : Nrow w g ws) (j : Nat) (hj : j < ws.length) : w.cell? ⟨g, j, none⟩ = some (.int .i64 ((ws.getD j 0 : Nat) : Int)) := by
  rw [Blk.cell h j]; simp [hj, wv]
theorem Nrow.set {w : World} {g : Nat} {ws : List Nat} (h : Nrow w g ws) (j x : Nat) : Nrow (w.setCell ⟨g, j, none⟩ (.int .i64 (x : Int))) g (ws.set j x) := by
  have := heap_setCell_same w g j _ _ (.int .i64 (x : Int)) h
  unfold Nrow Blk
  rw [this]
  simp [wv, List.map_set]
theorem Nrow.of_own {w : World} {B e g n : Nat} {xs : List Value} {ws : List Nat} (h : w.ownsRow B e 1 (.slice (some ⟨g, 0, none⟩) n n) n xs) (he : e = 2) (hx : xs = ws.map wv) : Nrow w g ws := by
  rcases h.2 with ⟨h', _⟩ | ⟨g', cap', cur, h', hb, hg, hnc, hcm, hcs, htake⟩
  · simp at h'
  · simp only [Value.slice.injEq, Option.some.injEq, Addr.mk.injEq, and_true, true_and] at h'
    obtain ⟨rfl, rfl⟩ := h'
    have : cur.toList = xs := by rw [← htake, List.take_of_length_le (by simp; omega)]
    unfold Nrow Blk
    rw [hg, he, ← hx, ← this]
theorem Nrow.own {w : World} {g B : Nat} {ws : List Nat} (h : Nrow w g ws) (hB : B ≤ g) (hm : ws.length ≤ 100000) : w.ownsRow B 2 1 (.slice (some ⟨g, 0, none⟩) ws.length ws.length) ws.length (ws.map wv) :=
  ⟨by simp, .inr ⟨g, ws.length, _, rfl, hB, h, Nat.le_refl _, by unfold maxLen; omega, by simp, by rw [List.take_of_length_le (by simp)]⟩⟩
theorem made_i64 (N : Nat) : (madeCells (Value.int .i64 0).cells (N * 1)).toList = (List.replicate N (0 : Nat)).map wv := by
  rw [Nat.mul_one, show (Value.int IntKind.i64 0).cells = #[Value.int IntKind.i64 0] from rfl, toList_madeCells_one]
  simp [wv]
def partW (ws : List Nat) (k : Nat) : List Nat := ws.take k ++ List.replicate (ws.length - k) 0
theorem partW_len (ws : List Nat) (k : Nat) (h : k ≤ ws.length) : (partW ws k).length = ws.length := by simp [partW]; omega
theorem partW_succ (ws : List Nat) (k : Nat) (h : k < ws.length) : (partW ws k).set k (ws.getD k 0) = partW ws (k + 1) := by
  rw [partW, List.set_append_right _ _ (by simp; omega), partW, List.take_succ_eq_append_getElem h]
  simp only [List.length_take, Nat.min_eq_left (Nat.le_of_lt h), Nat.sub_self]
  rw [show ws.length - k = (ws.length - (k + 1)) + 1 from by omega, List.replicate_succ, List.set_cons_zero]
  rw [List.append_assoc, List.singleton_append, List.getD_eq_getElem?_getD, List.getElem?_eq_getElem h, Option.getD_some]
theorem arr84 (A : Option Addr) (n c : Nat) (hn : 64 ≤ n) (u : World) : (Instr.arrayAt 85 (.slice A n c)).run Try.prog u = .ok (.pointer A) u := run_arrayAt u 85 5 64 _ _ _ Try.underlying85 hn
theorem slice91 (u : World) (b : Nat) : (Instr.sliceAt 109 (.pointer (some ⟨b, 0, none⟩)) none none none).run Try.prog u = .ok (.slice (some ⟨b, 0, none⟩) 64 64) u := by
  have hal : Try.prog.arrayLen 109 = 64 := by kernel_rfl
  have hel : Try.prog.elem 109 = 94 := by kernel_rfl
  have hs : (sizeOf 94).run Try.prog u = .ok 1 u := by
    have h1 : (Try.prog.info? 94).map (·.size) = some 1 := by kernel_rfl
    cases hq : Try.prog.info? 94 with
    | none => simp [hq] at h1
    | some i => simp [hq] at h1; simp [sizeOf, typeInfo, hq, h1]
  rw [run_sliceAt_array_all u 109 ⟨b, 0, none⟩ (by rw [hal, hel]; kernel_rfl), hel, hs, hal]
  simp only [Result.andThen, slicedAt]
  rw [if_neg (by omega)]
  simp [Addr.add]
theorem bs_range {w : World} {b off : Nat} {l : List Int} (hc : ∀ j, j < l.length → w.cell? ⟨b, off + j, none⟩ = some (.int .u8 (l.getD j 0))) : w.rangeAt b off (l.map (Value.int .u8)) := by
  intro j v hv
  have hj : j < l.length := by
    rcases Nat.lt_or_ge j l.length with h | h
    · exact h
    · rw [List.getElem?_eq_none (by simpa using h)] at hv; cases hv
  rw [hc j hj, ← hv]
  simp [hj]
end Go.Proofs.Ytacdnednkglobaa
