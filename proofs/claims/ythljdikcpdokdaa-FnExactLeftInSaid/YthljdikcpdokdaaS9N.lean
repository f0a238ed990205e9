/- Chapter 9: NewRecv, the model's and the program's. -/
import Derived.Test.YthljdikcpdokdaaM9
import Derived.Test.YthljdikcpdokdaaUniR
namespace Go.Proofs.Ythljdikcpdokdaa
open Go.RowKit Go.Deep

theorem OwN.nois9 {B C : Nat} {w : World} {xs : List V} {vs : List Value} (h : OwN B C w xs vs) : OwN B C w (.is [] :: xs) (.slice none 0 0 :: vs) :=
  ⟨h.1, by unfold OwA; exact ⟨fun _ _ => False, _, by unfold Ow; exact ⟨none, 0, rfl, ⟨Nat.le_refl _, by simp⟩, .inl rfl⟩, h.2, fun _ _ x => x.elim, Sub.refl _, fun _ _ x => x.elim⟩⟩
theorem OwN.nost9 {B C : Nat} {w : World} {xs : List V} {vs : List Value} (h : OwN B C w xs vs) : OwN B C w (.st 0 [] :: xs) (.slice none 0 0 :: vs) :=
  ⟨h.1, by unfold OwA; exact ⟨fun _ _ => False, _, by unfold Ow; exact ⟨none, 0, rfl, ⟨Nat.le_refl _, by simp⟩, .inl ⟨rfl, rfl⟩⟩, h.2, fun _ _ x => x.elim, Sub.refl _, fun _ _ x => x.elim⟩⟩
abbrev zs10 : List Int := [0, 0, 0, 0, 0, 0, 0, 0, 0, 0]
def nrR (c : Int) : RecvResultM := if wB c then ⟨0, c, [], [], zs10, false, []⟩ else ⟨3, 0, [], [], [], false, []⟩
theorem nrR_no {c : Int} (h : wB c = false) : (nrR c).vs = [.int 3, .int 0, .is [], .st 0 [], .is [], .bool false, .st 0 []] := by unfold nrR; rw [h]; rfl
theorem nrR_yes {c : Int} (h : wB c = true) : (nrR c).vs = [.int 0, .int c, .is [], .st 0 [], .is zs10, .bool false, .st 0 []] := by unfold nrR; rw [h]; rfl
abbrev Z10 : Array Value := #[.int .i64 0, .int .i64 0, .int .i64 0, .int .i64 0, .int .i64 0, .int .i64 0, .int .i64 0, .int .i64 0, .int .i64 0, .int .i64 0]
theorem mk10 (W : World) : (Instr.makeSlice 24 (.int .i64 10) (.int .i64 10)).run Try.prog W = .ok (.slice (some ⟨W.heap.size, 0, none⟩) 10 10) (W.alloc (.cells Z10 2)) := by kernel_rfl
theorem oi_blk {w : World} {g : Nat} (h : Blk w g 2 Z10) : Oi g (g + 1) w (some ⟨g, 0, none⟩) zs10 := by
  refine .inr ⟨g, 0, rfl, Nat.le_refl _, Nat.lt_succ_self _, h.lt, fun j hj => ?_⟩
  rw [Nat.zero_add]
  refine ⟨(h.cell j).trans ?_, h.frozen j⟩
  have hj : j < 10 := hj
  rcases (show j = 0 ∨ j = 1 ∨ j = 2 ∨ j = 3 ∨ j = 4 ∨ j = 5 ∨ j = 6 ∨ j = 7 ∨ j = 8 ∨ j = 9 by omega) with rfl | rfl | rfl | rfl | rfl | rfl | rfl | rfl | rfl | rfl <;> rfl
/-- The new receiver's values, its row of numbers in the block g. -/
theorem nr_own {w : World} {B g C : Nat} (c : Int) (h : Blk w g 2 Z10) (hC : g + 1 ≤ C) (hw : C ≤ w.heap.size) (hB : B ≤ g) :
    OwN B C w [.int 0, .int c, .is [], .st 0 [], .is zs10, .bool false, .st 0 []] [.int .i64 0, .int .i64 c, .slice none 0 0, .slice none 0 0, .slice (some ⟨g, 0, none⟩) 10 10, .bool false, .slice none 0 0] := by
  refine OwN.int _ (OwN.int _ (OwN.nois9 (OwN.nost9 ?_)))
  refine OwN.cons (C := C) (((oi_blk h).owv h.lt ⟨by simp, by simp⟩).mono hB hC hw) ?_ (by omega) (Nat.le_refl _)
  exact OwN.bool _ (OwN.nost9 (OwN.nil hw))
set_option maxRecDepth 100000 in
set_option maxHeartbeats 1000000 in
theorem l9New_any (c : Int) (w : World) : Calls Try.prog 183 #[.int .i64 c] w fun e w' => e = .returned (.agg #[.int .i64 c, .slice none 0 0, .slice none 0 0, .slice (some ⟨w.heap.size + 1, 0, none⟩) 10 10]) ∧
    ((w.alloc (.cells #[.int .i64 c, .slice none 0 0, .slice none 0 0, .slice (some ⟨w.heap.size + 1, 0, none⟩) 10 10] 27)).alloc (.cells Z10 2)) = w' := by
  have HM := mk10
  go_enter Try.func183, Try.ntmps183
  go_wp2
  exact bodyPost_ret (v := .agg #[.int .i64 c, .slice none 0 0, .slice none 0 0, .slice (some ⟨w.heap.size + 1, 0, none⟩) 10 10]) (by simp [results, Try.results183, go_sem]) rfl ⟨rfl, rfl⟩
theorem nrR_len (c : Int) (_ : WfV (.int c)) : vcA (nrR c).vs ≤ 1000000000 := by
  unfold nrR
  split
  · exact (show (10 : Nat) ≤ 1000000000 by omega)
  · exact (show (0 : Nat) ≤ 1000000000 by omega)
end Go.Proofs.Ythljdikcpdokdaa
