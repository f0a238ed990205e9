/- The program's packetSum. -/
import Derived.Test.YtepcikghhnfacaaDoorPkI
import Derived.Test.YtepcikghhnfacaaDoorSlB
import Derived.Test.YtepcikghhnfacaaDoorCrcI
import Derived.Test.YtepcikghhnfacaaDoorRdL
import Derived.Lib.SliceRun
import Derived.Lib.LazyBuf
import Derived.Laws.CopyRow
namespace Go.Proofs.YtepcikghhnfacaaDoor
open Go.RowKit Go.Deep

/-- A row of bytes of the call's own, opened. -/
theorem own_row {w : World} {B : Nat} {v : Value} {l : List Int} (h : w.ownsRow B 5 1 v l.length (l.map (Value.int .u8))) (hp : 0 < l.length) :
    ∃ g cap cur, v = .slice (some ⟨g, 0, none⟩) l.length cap ∧ B ≤ g ∧ g < w.heap.size ∧ Blk w g 5 cur ∧ l.length ≤ cap ∧ (cap : Int) ≤ 9223372036854775807 ∧ cur.size = cap ∧ cur.toList.take l.length = l.map (Value.int .u8) := by
  have hl := h.lt
  obtain ⟨_, ⟨rfl, hn⟩ | ⟨g, cap, cur, rfl, hg, hblk, hnc, hm, hs, ht⟩⟩ := h
  · omega
  · unfold maxLen at hm
    exact ⟨g, cap, cur, rfl, hg, (hl g rfl).2, hblk, hnc, by omega, by omega, by simpa using ht⟩
theorem row_cell {w : World} {g : Nat} {cur : Array Value} {l : List Int} (h : Blk w g 5 cur) (ht : cur.toList.take l.length = l.map (Value.int .u8)) (j : Nat) (hj : j < l.length) : w.cell? ⟨g, j, none⟩ = some (.int .u8 (l.getD j 0)) := by
  have e : cur[j]? = (cur.toList.take l.length)[j]? := by rw [List.getElem?_take_of_lt hj]; simp
  rw [h.cell, e, ht]
  simp [hj]
theorem blankL_at {d : List Int} (h : 8 ≤ d.length) (j : Nat) : (blankL d).getD j 0 = if 4 ≤ j ∧ j < 8 then 0 else d.getD j 0 := by
  obtain ⟨a, b, c, e, r, rfl⟩ : ∃ a b c e r, d = a :: b :: c :: e :: r := by
    rcases d with _ | ⟨a, _ | ⟨b, _ | ⟨c, _ | ⟨e, r⟩⟩⟩⟩ <;> simp at h
    exact ⟨a, b, c, e, r, rfl⟩
  obtain ⟨a', b', c', e', r', rfl⟩ : ∃ a b c e s, r = a :: b :: c :: e :: s := by
    rcases r with _ | ⟨a, _ | ⟨b, _ | ⟨c, _ | ⟨e, r⟩⟩⟩⟩ <;> simp at h
    exact ⟨a, b, c, e, r, rfl⟩
  rcases j with _ | _ | _ | _ | _ | _ | _ | _ | j <;> simp [blankL] <;> (intro hh; omega)
theorem zeroU8 : ∀ u : World, (zeroValue 5).run Tryd.prog u = .ok (.int .u8 0) u := by
  obtain ⟨i0, hi, hz0, hz1, hz2⟩ := info_parts infoU8
  intro u
  simp [zeroValue, typeInfo, hi, hz0]
/-- Four noughts in the checksum's place of a row. -/
theorem clear_row {w : World} {g cap : Nat} {cur : Array Value} {l : List Int} (h : Blk w g 5 cur) (hs : cur.size = cap) (hc : l.length ≤ cap) (h8 : 8 ≤ l.length) (ht : cur.toList.take l.length = l.map (Value.int .u8)) :
    (∀ ty, (Builtin.clear_ #[22] ty #[.slice (some ⟨g, 4, none⟩) 4 (cap - 4)]).run Tryd.prog w = .ok (.tuple #[]) (w.setCells g 4 (List.replicate 4 (.int .u8 0)))) ∧ Bs (w.setCells g 4 (List.replicate 4 (.int .u8 0))) (some ⟨g, 0, none⟩) (blankL l) ∧ Below g w (w.setCells g 4 (List.replicate 4 (.int .u8 0))) := by
  have hat : ∀ j, j < cap → ∃ v, w.cell? ⟨g, j, none⟩ = some v := fun j hj => ⟨cur[j]'(by omega), by rw [h.cell, Array.getElem?_eq_getElem]⟩
  have hb : Below g w (w.setCells g 4 (List.replicate 4 (.int .u8 0))) := below_setCells (Nat.le_refl _) _ _ _ (Below.refl _ _)
  refine ⟨fun ty => ?_, .inr ⟨g, 0, rfl, Nat.lt_of_lt_of_le h.lt hb.size, fun j hj => ?_⟩, hb⟩
  · exact Lib.run_clear_slice w 22 5 ty (.int .u8 0) Tryd.underlying22 zeroU8 rfl rfl g 4 4 (cap - 4) (by omega) (fun j hj => by obtain ⟨v, hv⟩ := hat (4 + j) (by omega); rw [hv]; rfl) (fun j _ => h.frozen _)
  · rw [blankL_len h8] at hj
    rw [blankL_at h8, Nat.zero_add]
    by_cases hin : 4 ≤ j ∧ j < 8
    · rw [if_pos hin]
      have := World.cell?_setCells_in g (List.replicate 4 (.int .u8 0)) 4 w (fun j hj => by simp at hj; obtain ⟨v, hv⟩ := hat (4 + j) (by omega); rw [hv]; rfl) (j - 4) (by simp; omega)
      rw [show 4 + (j - 4) = j by omega] at this
      rw [this, List.getElem_replicate]
    · rw [if_neg hin, World.cell?_setCells_out _ _ _ _ _ (by intro _ _; simp; omega)]
      exact row_cell h ht j hj
theorem fldI1 (c v : Int) (w : World) : (Instr.field 59 (.agg #[.int .i64 c, .int .i64 v]) 1).run Tryd.prog w = .ok (.int .i64 v) w := by kernel_rfl
set_option maxHeartbeats 1000000 in
theorem psum_any (A : Option Addr) (l : List Int) (c : Nat) (w : World) (hA : Bs w A l) (hl : Bytes l) (h8 : 8 ≤ l.length) (hm : l.length ≤ 700) :
    Calls Tryd.prog 29 #[.slice A l.length c] w fun e w' => e = .returned (.int .i64 (rdSum l)) ∧ Below w.heap.size w w' := by
  have HC := hidH (clone_any A l c w hA (by omega))
  have e : crcN (blankL l) = rdSum l := by rw [crcN, if_pos (by rw [blankL_len h8]; omega), rdSum]
  have HK := hidH (fun (u : World) (X : Option Addr) (cx : Nat) (h : Bs u X (blankL l)) => crc_impl X (blankL l) cx u h (blankL_bytes hl) (by rw [blankL_len h8]; omega))
  rw [blankL_len h8, e] at HK
  have HR := hidH (fun (u : World) (B : Nat) (v : Value) (h : u.ownsRow B 5 1 v l.length (l.map (Value.int .u8))) => own_row h (by omega))
  have HCL := hidH (fun (u : World) (g cap : Nat) (cur : Array Value) (h : Blk u g 5 cur) (hs : cur.size = cap) (hc : l.length ≤ cap) (ht : cur.toList.take l.length = l.map (Value.int .u8)) => clear_row h hs hc h8 ht)
  have h8I : (8 : Int) ≤ (l.length : Int) := by omega
  have hmI : (l.length : Int) ≤ 700 := by omega
  obtain ⟨s, hs⟩ : ∃ s, rdSum l = s := ⟨_, rfl⟩
  rw [hs] at HK ⊢
  obtain ⟨cc, hcc⟩ : ∃ s, crcC (blankL l) = s := ⟨_, rfl⟩
  rw [hcc] at HK
  clear hA hl e hs hcc h8 hm
  go_enter Tryd.func29, Tryd.ntmps29
  go_wp2_with fail
  refine HC.out.mono ?_
  rintro e w1 ⟨v, rfl, o1, b1⟩
  obtain ⟨g, cap, cur, rfl, hg, hgl, K1, hc, hcm, hsz, ht⟩ := HR.out _ _ _ o1
  obtain ⟨hcl, s2, bc⟩ := HCL.out _ _ _ _ K1 hsz hc ht
  have hcI : (8 : Int) ≤ (cap : Int) := by omega
  have S2 := hidH s2
  have B2 := hidH (b1.trans (bc.mono hg))
  obtain ⟨w2, hw2⟩ : ∃ w2, w1.setCells g 4 (List.replicate 4 (.int .u8 0)) = w2 := ⟨_, rfl⟩
  rw [hw2] at hcl S2 B2
  clear HC o1 K1 hsz ht HR HCL b1 bc hw2 s2
  go_wp2_with fail
  refine (HK.out w2 _ cap S2.out).mono ?_
  rintro e w3 ⟨rfl, b3⟩
  have B3 := hidH (btr B2.out b3)
  clear b3 HK hcl
  have f1 := fldI1 cc s
  go_wp2
  go_ret
  exact ⟨rfl, B3.out⟩
end Go.Proofs.YtepcikghhnfacaaDoor
