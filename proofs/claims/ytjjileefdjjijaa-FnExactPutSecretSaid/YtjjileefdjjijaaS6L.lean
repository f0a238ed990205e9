/- Chapter 6: the keys of the program's map of secrets, sorted (the shelf's contracts laid at this program). -/
import Derived.Test.YtjjileefdjjijaaS6O
import Derived.Shelf.SlIterI.Nil
import Derived.Shelf.SortM.Plain
import Derived.Shelf.SortM.SortNone
import Derived.Ground.GgzProg
import Derived.Ground.SlgmProg
namespace Go.Proofs.Ytjjileefdjjijaa
open Go.RowKit Go.Maps Go.Sort Go.Shelf Go.Proofs

shelf_lay_g SlLaysZI.n7 Ggz 7 at Try 76 as Try.keysA
shelf_lay_g SlLaysZI.n6 Ggz 6 at Try 75 as Try.sortedA
shelf_lay_g SlLaysM.n5 Slgm 5 at Try 82 as Try.sortA

theorem keys_any (b : Nat) (w : World) : Calls Try.prog 76 #[.map (some b)] w fun e w' => e = .returned (.func (.func 83) #[] #[.pointer (some ⟨w.heap.size, 0, none⟩)]) ∧ w' = w.alloc (.cells #[.map (some b)] 86) :=
  callsIn_wide.1 (AnyZI.keys_in Try.keysA Fence.wide 5 trivial rfl (some b) w)
theorem sorts_any (m : Nat) : AnyZI.SortsIn Try.prog Try.sortedA_ren Fence.wide m :=
  ⟨fun blk off cap ss W hH hblk hsz => callsIn_wide.2 (AnyM.slices_Sort_int Try.sortA blk off cap ss W hH hblk hsz),
   fun p cap W => callsIn_wide.2 (AnyM.slices_Sort_int_none Try.sortA p cap W)⟩
theorem sorted_any {H : Type} (Bm b nn : Nat) (D0 : DataW H) (R : Value → Option (DataW H × List MemPlace)) (w : World) (hBm : Bm < w.heap.size) (hm : w.cell? ⟨Bm, 0, none⟩ = some (.map (some b))) (hown : w.ownsMap Try.prog 2 R b nn D0) (hN : Maps.size D0 ≤ 1000) :
    Calls Try.prog 75 #[.func (.func 83) #[] #[.pointer (some ⟨Bm, 0, none⟩)]] w fun e w' => ∃ (v : Value) (ss : List Int), e = .returned v ∧ ss.Perm (intKeys D0) ∧ w'.ownsRow w.heap.size 2 1 v ss.length ((ss.mergeSort (fun x y => decide (x ≤ y))).map encZ) ∧ (v = .slice none 0 0 ↔ ss = []) ∧ Below w.heap.size w w' := by
  have hseq : SeqGives Fence.wide 2 Try.prog 83 #[.pointer (some ⟨Bm, 0, none⟩)] encZ (fun ss => ss.Perm (intKeys D0)) (Maps.size D0) w :=
    AnyZI.keys_gives (ρ := Try.keysA_ren) { Try.keysA with } Fence.wide _ trivial rfl (by omega) Bm b nn D0 w hBm hm hown
  have cS := AnyZI.sorted_in Try.sortedA Fence.wide 5 trivial trivial trivial trivial rfl (by omega) (sorts_any _) (enters_of Try.func82 (by kernel_rfl) rfl) 83 #[.pointer (some ⟨Bm, 0, none⟩)] trivial (enters_of Try.func83 (by kernel_rfl) rfl) _ _ (by unfold maxLen; omega) (by omega) _ hseq
  exact callsIn_wide.1 cS
theorem keys_perm {w : World} {b N : Nat} {q : List KE} {D : DataW Value} (h1 : w.ownsMap Try.prog 2 heldR b N D) (h2 : KD D q) (hp : q.Pairwise (fun x y => x.id ≠ y.id)) : (q.map KE.id).Perm (intKeys D) := by
  refine CollectedI.perm (left := fun _ => false) ⟨?_, fun x => ?_⟩ h1 key_law und_i64 (fun _ => rfl)
  · rw [List.Nodup, List.pairwise_map]; exact hp
  · rw [List.mem_map]
    constructor
    · rintro ⟨y, hy, rfl⟩; exact ⟨(h2.has_iff _).2 ⟨y, hy, rfl⟩, rfl⟩
    · rintro ⟨h, _⟩; exact (h2.has_iff _).1 h
theorem ids_any (Bm b N : Nat) (q : List KE) (w : World) (hBm : Bm < w.heap.size) (hm : w.cell? ⟨Bm, 0, none⟩ = some (.map (some b))) (h : KMap w b N q) (hq : q.length ≤ 1000) :
    Calls Try.prog 75 #[.func (.func 83) #[] #[.pointer (some ⟨Bm, 0, none⟩)]] w fun e w' => ∃ (v : Value), e = .returned v ∧ w'.ownsRow w.heap.size 2 1 v q.length (((byId q).map KE.id).map (Value.int .i64)) ∧ Below w.heap.size w w' := by
  obtain ⟨⟨D, h1, h2, h3⟩, h4⟩ := h
  refine (sorted_any Bm b N D heldR w hBm hm h1 (by omega)).mono ?_
  rintro e w' ⟨v, ss, rfl, hs, ho, _, hb⟩
  have h5 := hs.trans (keys_perm h1 h2 (h4.2.imp (fun h => h.1))).symm
  have h6 : ss.length = q.length := by rw [h5.length_eq, List.length_map]
  rw [ids_sorted h5, h6] at ho
  exact ⟨v, rfl, ho, hb⟩
end Go.Proofs.Ytjjileefdjjijaa
