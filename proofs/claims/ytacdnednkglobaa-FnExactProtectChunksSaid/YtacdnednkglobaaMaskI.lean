/- The program's masked: a block of bytes, each turned by the same mask. -/
import Derived.Test.YtacdnednkglobaaSchedI
import Derived.Test.YtacdnednkglobaaMacS
namespace Go.Proofs.Ytacdnednkglobaa
open Go.RowKit Go.Deep

theorem zero63 : (Try.prog.info? 85).bind (·.zero) = some (.agg (Ub (List.replicate 64 0))) := by kernel_rfl
theorem size63 : (Try.prog.info? 85).map (·.size) = some 64 := by kernel_rfl
theorem Ub_len (l : List Int) : (Ub l).size = l.length := by simp [Ub]
theorem Ub_one (l : List Int) : (Ub l).all (·.oneCell') = true := by
  rw [Array.all_eq_true_iff_forall_mem]
  intro v hv
  simp [Ub] at hv
  obtain ⟨x, _, rfl⟩ := hv
  rfl
theorem ub_set {w : World} {g : Nat} {t : TypeId} {l : List Int} (h : Blk w g t (Ub l)) (j : Nat) (v : Int) : Blk (w.setCell ⟨g, j, none⟩ (.int .u8 v)) g t (Ub (l.set j v)) := by
  have := heap_setCell_same w g j _ _ (.int .u8 v) h
  unfold Blk
  rw [this]
  simp [Ub, List.map_set]
theorem ub_cell {w : World} {g : Nat} {t : TypeId} {l : List Int} (h : Blk w g t (Ub l)) (j : Nat) (v : Int) (hj : l[j]? = some v) : w.cell? ⟨g, j, none⟩ = some (.int .u8 v) := by
  rw [Blk.cell h j]; simp [Ub, hj]
set_option maxRecDepth 100000 in
set_option maxHeartbeats 1000000 in
theorem masked_any (l : List Int) (m : Int) (w : World) (hl : Bytes l) (h64 : l.length = 64) (hm0 : 0 ≤ m) (hm1 : m ≤ 255) :
    Calls Try.prog 66 #[.agg (Ub l), .int .u8 m] w fun e w' => e = .returned (.agg (Ub (l.map (byteX m.toNat)))) ∧ Below w.heap.size w w' := by
  obtain ⟨cs, hcs⟩ : ∃ cs, Ub l = cs := ⟨_, rfl⟩
  obtain ⟨zs, hzs⟩ : ∃ zs, Ub (List.replicate 64 0) = zs := ⟨_, rfl⟩
  have hz := zero63
  rw [hcs]
  rw [hzs] at hz
  have HZ := hidH hz
  clear hz
  go_enter Try.func66, Try.ntmps66
  go_wp2_with (first | refine wpList_allocRow rfl 85 rfl _ rfl zs HZ.out ?_ | refine wpList_boxRow rfl _ _ rfl _ rfl cs rfl ?_)
  have B0 := hidH (bal (bal (Below.refl w.heap.size w) (.cells cs 85)) (.cells zs 85))
  have D0 := hidH (show Blk _ w.heap.size 85 (Ub l) from hcs ▸ (Blk.new w 85 cs).alloc (.cells zs 85))
  have R0 := hidH (show Blk _ (w.heap.size + 1) 85 zs from by have := Blk.new (w.alloc (.cells cs 85)) 85 zs; simpa using this)
  have HCS := hidH hcs
  clear hcs
  go_loopw [6] (fun i wr => ∃ k : Nat, k ≤ 64 ∧ i = .int .i64 k ∧ Blk wr w.heap.size 85 (Ub (turnTo l m.toNat k)) ∧ Blk wr (w.heap.size + 1) 85 zs ∧ Below w.heap.size w wr) (fun i _ => 64 - (intOf i).toNat)
  case atStart => exact ⟨0, by omega, rfl, by rw [turnTo_zero, HCS.out]; exact HCS.out ▸ D0.out, R0.out, B0.out⟩
  case round =>
    obtain ⟨k, hk, rfl, hD, hR, hB⟩ := hrel
    by_cases hlt : k < 64
    · have hlt2 : (k : Int) < 64 := by omega
      have hlt0 : (0 : Int) ≤ (k : Int) := by omega
      have p0 := hl.get k
      have c0 := ub_cell hD k _ (turnTo_get l m.toNat k (by omega))
      have f0 := Blk.frozen hD k
      have hsz : w.heap.size < wr.heap.size := hD.lt
      have hx := u8_xor (l.getD k 0) m p0.1 p0.2 hm0 hm1
      have HS := hidH (turnTo_succ l m.toNat k (by omega))
      have HD := hidH hD
      have HR := hidH hR
      have HB := hidH hB
      clear hD hR hB
      generalize l.getD k 0 = x at *
      generalize byteX m.toNat x = y at *
      go_wp2
      go_roundw
      case rel =>
        refine ⟨k + 1, by omega, by go_num, ?_, blk_far HR.out (by simp) _, bst HB.out (Nat.le_refl _) _⟩
        rw [← HS.out, ← hx]
        exact ub_set HD.out k _
      case measure => simp [intOf]; omega
    · obtain rfl : k = 64 := by omega
      have e : turnTo l m.toNat 64 = l.map (byteX m.toNat) := by rw [← h64]; exact turnTo_all l _
      rw [e] at hD
      have hn : (l.map (byteX m.toNat)).length = 64 := by simp [h64]
      obtain ⟨y, hy⟩ : ∃ y, l.map (byteX m.toNat) = y := ⟨_, rfl⟩
      rw [hy] at hD hn
      have HY := hidH hy
      clear hy
      have HB := hidH hB
      have HS := hidH hD
      have HR := hidH hR
      have hz2 : zs.size = (Ub y).size := by rw [← hzs, Ub_len, Ub_len, hn]; simp
      have hsz : (Try.prog.info? 85).map (·.size) = some (Ub y).size := by rw [Ub_len, hn]; exact size63
      clear hD hB hR hlt hk e
      obtain ⟨os, hos⟩ : ∃ os, Ub y = os := ⟨_, rfl⟩
      have hO := Ub_one y
      rw [hos] at HS
      rw [hos] at hz2 hsz hO
      have HZ2 := hidH hz2
      have HSZ := hidH hsz
      have HO := hidH hO
      have HOS := hidH hos
      clear hz2 hsz hO hos hzs
      go_wp2_with (first | refine wpList_load_row rfl 85 _ rfl w.heap.size rfl 85 os (0, 0) (.array 64 5) HS.out (by kernel_rfl) rfl HSZ.out ?_ | refine wpList_store_rowTo rfl _ _ _ rfl rfl (w.heap.size + 1) os rfl rfl 85 _ HR.out HSZ.out HZ2.out HO.out ?_)
      exact bodyPost_ret (v := .agg os) (results_cell_row rfl _ _ (w.heap.size + 1) 85 _ (0, 0) (.array 64 5) rfl (setRow_heap _ _ _ _ _ _ HR.out) (by kernel_rfl) rfl HSZ.out) rfl ⟨by rw [HY.out, HOS.out], below_setRow HB.out (by omega) _⟩
end Go.Proofs.Ytacdnednkglobaa
