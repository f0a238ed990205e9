/- Chapter 7: the rest of a list of chunks, chunks[i:]. -/
import Derived.Test.YtacdnednkglobaaGreatDoorTyChs
import Derived.Laws.Slices
namespace Go.Proofs.YtacdnednkglobaaGreatDoor
open Go.RowKit Go.Deep

theorem RdL.rest {w : World} : ∀ {xs ys : List V} {g o : Nat}, RdL w (xs ++ ys) g o → RdL w ys g (o + xs.length)
  | [], _, _, _, h => by simpa using h
  | x :: xs, ys, g, o, h => by
    rw [List.cons_append] at h
    unfold RdL at h
    have := RdL.rest h.2
    rw [List.length_cons]
    rwa [show o + (xs.length + 1) = o + 1 + xs.length by omega]
/-- The address behind i chunks. -/
def cutC (A : Option Addr) (i c : Nat) : Option Addr := if c = i then A else A.map (·.add (i * 3))
theorem cutC_rd {w : World} {A : Option Addr} {r : List ChunkM} {c i : Nat} (h : Rd w (st_Chunk r) (.slice A r.length c)) (hi : i ≤ r.length) : Rd w (st_Chunk (r.drop i)) (.slice (cutC A i c) (r.length - i) (c - i)) := by
  unfold st_Chunk Rd at h
  obtain ⟨A', c', e, ⟨hc, hm⟩, h⟩ := h
  injection e with e1 _ e3
  subst e1 e3
  unfold st_Chunk Rd
  have hl : (r.drop i).length = r.length - i := List.length_drop
  refine ⟨cutC A i c, c - i, by rw [hl], ⟨by rw [hl]; omega, by omega⟩, ?_⟩
  by_cases he : i = r.length
  · left
    have : r.drop i = [] := List.drop_eq_nil_of_le (by omega)
    rw [this]
    exact ⟨rfl, rfl⟩
  · right
    rcases h with ⟨h0, _⟩ | ⟨g, o, rfl, hg, h⟩
    · omega
    · refine ⟨g, o + i * 3, ?_, hg, ?_⟩
      · unfold cutC
        rw [if_neg (by omega)]
        simp only [Option.map_some]
        congr 1
        unfold Addr.add
        split <;> simp_all
      · have hs : r.flatMap ChunkM.vs = (r.take i).flatMap ChunkM.vs ++ (r.drop i).flatMap ChunkM.vs := by rw [← List.flatMap_append, List.take_append_drop]
        rw [hs] at h
        have := h.rest
        rwa [take_len (f := ChunkM.vs) (W := 3) (fun _ => rfl) r i hi] at this
theorem wf_drop {r : List ChunkM} (h : WfV (st_Chunk r)) (i : Nat) : WfV (st_Chunk (r.drop i)) := by
  have key : ∀ (r : List ChunkM), WfV.WfA (r.flatMap ChunkM.vs) → ∀ i, WfV.WfA ((r.drop i).flatMap ChunkM.vs) := by
    intro r
    induction r with
    | nil => intro _ i; simp; trivial
    | cons y r ih =>
      intro h i
      cases i with
      | zero => exact h
      | succ i =>
        rw [List.drop_succ_cons]
        rw [List.flatMap_cons] at h
        obtain ⟨_, _, _, h2⟩ := h
        exact ih h2 i
  exact key r h i
theorem tot_drop (r : List ChunkM) (i : Nat) : tot (st_Chunk (r.drop i)) ≤ tot (st_Chunk r) := by
  have hs : r.flatMap ChunkM.vs = (r.take i).flatMap ChunkM.vs ++ (r.drop i).flatMap ChunkM.vs := by rw [← List.flatMap_append, List.take_append_drop]
  show (r.drop i).length + tot.totL ((r.drop i).flatMap ChunkM.vs) ≤ r.length + tot.totL (r.flatMap ChunkM.vs)
  rw [hs, totL_append, List.length_drop]
  omega
theorem infoCk7 : (Tryz.prog.info? 25).map (fun i => (i.zero, i.size, i.bytes)) = some (some (.agg #[.int .i64 0, .int .i64 0, .slice none 0 0]), 3, 40) := by kernel_rfl
theorem sizeCk7 (u : World) : (sizeOf (Tryz.prog.elem 63)).run Tryz.prog u = .ok 3 u := by
  obtain ⟨i0, hi, hzz⟩ := Option.map_eq_some_iff.1 infoCk7
  simp only [Prod.mk.injEq] at hzz
  have he : Tryz.prog.elem 63 = 25 := by kernel_rfl
  rw [he]
  simp [sizeOf, typeInfo, hi, hzz.2.1]
theorem undCk7 : Tryz.prog.underlying 63 = some (.slice (Tryz.prog.elem 63)) := by kernel_rfl
theorem cutC_l (A : Option Addr) (z c i : Nat) (H : Int) (hH : H = (i : Int)) (hz : i ≤ z) (u : World) :
    (Instr.slice 63 (.slice A z c) (some (.int .i64 H)) none none).run Tryz.prog u = .ok (.slice (cutC A i c) (z - i) (c - i)) u := by
  subst hH
  rw [run_slice_l (w := u) 63 A z c undCk7 .i64 (i : Int) (by omega) (by omega)]
  simp only [sizeCk7, Result.andThen, sliced]
  rw [Int.toNat_natCast]
  rfl
end Go.Proofs.YtacdnednkglobaaGreatDoor
