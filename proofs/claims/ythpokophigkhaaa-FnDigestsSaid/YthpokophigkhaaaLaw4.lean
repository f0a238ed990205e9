/- What the law FnDigests holds while it compares. -/
import Derived.Test.YthpokophigkhaaaLaw3
import Derived.Test.YthpokophigkhaaaShaI
import Derived.Test.YthpokophigkhaaaLwBytes
import Derived.Test.YthpokophigkhaaaPack
namespace Go.Proofs.Ythpokophigkhaaa
open Go.RowKit Go.Deep

structure DS (w0 : World) (gd gp : Nat) (c : Int) (Pd : Option Addr) (dl : List Int) (cd : Nat) (Pp : Option Addr) (pl : List Int) (cp : Nat) (D : Option Addr) (d : List Int) (w' : World) : Prop where
  bd : Blk w' gd 30 #[.int .i64 c, .slice Pd dl.length cd]
  bp : Blk w' gp 30 #[.int .i64 c, .slice Pp pl.length cp]
  dig : Bs w' Pd dl
  pad : Bs w' Pp pl
  data : Bs w' D d
  old : Below w0.heap.size w0 w'
section
variable {w0 : World} {gd gp : Nat} {c : Int} {Pd : Option Addr} {dl : List Int} {cd : Nat} {Pp : Option Addr} {pl : List Int} {cp : Nat} {D : Option Addr} {d : List Int} {a b : World}
theorem DS.below (h : DS w0 gd gp c Pd dl cd Pp pl cp D d a) (hb : Below a.heap.size a b) : DS w0 gd gp c Pd dl cd Pp pl cp D d b :=
  ⟨h.bd.below hb, h.bp.below hb, bs_below h.dig hb, bs_below h.pad hb, bs_below h.data hb, btr h.old hb⟩
theorem DS.drew (h : DS w0 gd gp c Pd dl cd Pp pl cp D d a) : DS w0 gd gp c Pd dl cd Pp pl cp D d a.drew := h.below (Below.refl _ _).drew
theorem DS.s (h : DS w0 gd gp c Pd dl cd Pp pl cp D d a) : a.cell? ⟨gd, 0, none⟩ = some (.int .i64 c) ∧ a.cell? ⟨gp, 0, none⟩ = some (.int .i64 c) ∧ DS w0 gd gp c Pd dl cd Pp pl cp D d a := ⟨h.bd.cell 0, h.bp.cell 0, h⟩
theorem DS.of_s (h : a.cell? ⟨gd, 0, none⟩ = some (.int .i64 c) ∧ a.cell? ⟨gp, 0, none⟩ = some (.int .i64 c) ∧ DS w0 gd gp c Pd dl cd Pp pl cp D d a) : DS w0 gd gp c Pd dl cd Pp pl cp D d a := h.2.2
end
theorem fldBC' (c : Int) (A : Option Addr) (n cp : Nat) (w : World) : (Instr.field 30 (.agg #[.int .i64 c, .slice A n cp]) 0).run Try.prog w = .ok (.int .i64 c) w := by kernel_rfl
theorem fldBB' (c : Int) (A : Option Addr) (n cp : Nat) (w : World) : (Instr.field 30 (.agg #[.int .i64 c, .slice A n cp]) 1).run Try.prog w = .ok (.slice A n cp) w := by kernel_rfl
theorem padL_get (d : List Int) (j : Nat) (h : j < d.length) : (padL d).getD j 0 = d.getD j 0 := by
  simp only [List.getD_eq_getElem?_getD, padL, padTo, List.append_assoc]
  rw [List.getElem?_append_left h]
theorem padL_mark (d : List Int) : (padL d).getD d.length 0 = 128 := by
  simp only [List.getD_eq_getElem?_getD, padL, padTo, List.append_assoc]
  rw [List.getElem?_append_right (Nat.le_refl _)]
  simp
theorem allB_ci {st : List Nat} (h : AllW st) (n : Nat) : allB (ci st) n = true := by
  unfold allB
  rw [List.all_eq_true]
  intro x hx
  have hx := List.mem_of_mem_take hx
  simp [ci] at hx
  obtain ⟨y, hy, rfl⟩ := hx
  have := h y hy
  simp [wB, inB]
  omega
theorem toW_of_ci (st : List Nat) : toW (ci st) = st := by
  unfold toW ci
  rw [List.map_map]
  conv => rhs; rw [← List.map_id st]
  apply List.map_congr_left
  intro x _
  simp
theorem comp_step (A B : Option Addr) (st : List Nat) (l : List Int) (c d : Nat) (w : World) (hA : Is w A (ci st)) (hst : AllW st) (h8 : st.length = 8) (hB : Bs w B l) (hl : Bytes l) (h64 : l.length = 64) :
    Calls Try.prog 31 #[.slice A (ci st).length c, .slice B l.length d] w (IRes w 0 (ci (compN st l))) := by
  have h := com_impl A B (ci st) l c d w hA hB hl
  have h1 : (ci st).length = 8 ∧ l.length = 64 := ⟨by rw [ci_len, h8], h64⟩
  rwa [comC, comM, if_pos h1, if_pos h1, if_pos (allB_ci hst 8), if_pos (allB_ci hst 8), toW_of_ci] at h
theorem pack_word (x : Nat) (w : World) (hx : x < 4294967296) : Calls Try.prog 17 #[.int .i64 (x : Int)] w (BRes w 0 (pk (x : Int))) := by
  have h := pack_impl (x : Int) w
  have hw : IsW (x : Int) := ⟨by omega, by omega⟩
  rwa [packC, packL, if_pos hw, if_pos hw] at h
theorem own_below {w w' : World} {B : Nat} {e : TypeId} {s n : Nat} {v : Value} {xs : List Value} (h : w.ownsRow B e s v n xs) (hb : Below w.heap.size w w') : w'.ownsRow B e s v n xs := by
  obtain ⟨h1, h2 | ⟨g, cap, cur, h3, h4, h5, h6⟩⟩ := h
  · exact ⟨h1, .inl h2⟩
  · exact ⟨h1, .inr ⟨g, cap, cur, h3, h4, (hb.block g (Array.getElem?_eq_some_iff.1 h5).1).trans h5, h6⟩⟩
end Go.Proofs.Ythpokophigkhaaa
