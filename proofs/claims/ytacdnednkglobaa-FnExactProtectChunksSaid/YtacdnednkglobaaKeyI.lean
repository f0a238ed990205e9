/- The program's keyBlock: a key as a block of 64 bytes. -/
import Derived.Test.YtacdnednkglobaaMaskI
import Derived.Test.YtacdnednkglobaaShaI
namespace Go.Proofs.Ytacdnednkglobaa
open Go.RowKit Go.Deep

theorem sizeU8 (u : World) : (sizeOf 5).run Try.prog u = .ok 1 u := by
  cases hq : Try.prog.info? 5 with
  | none => have := infoU8; simp [hq] at this
  | some i => have := infoU8; simp [hq] at this; simp [sizeOf, typeInfo, hq, this]
theorem slice63 (u : World) (b : Nat) : (Instr.sliceAt 85 (.pointer (some ⟨b, 0, none⟩)) none none none).run Try.prog u = .ok (.slice (some ⟨b, 0, none⟩) 64 64) u := by
  have hal : Try.prog.arrayLen 85 = 64 := by kernel_rfl
  have hel : Try.prog.elem 85 = 5 := by kernel_rfl
  rw [run_sliceAt_array_all u 85 ⟨b, 0, none⟩ (by rw [hal, hel]; kernel_rfl), hel, sizeU8, hal]
  simp only [Result.andThen, slicedAt]
  rw [if_neg (by omega)]
  simp [Addr.add]
theorem run_copy_t {w : World} {g N c T : Nat} {t : TypeId} {A : Option Addr} {l X : List Int} (hB : Blk w g t (Ub X)) (hN : X.length = N) (hl : l.length ≤ N) (hA : Bs w A l) :
    ∃ w', (Builtin.copy_ #[25, 25] T #[.slice (some ⟨g, 0, none⟩) N N, .slice A l.length c]).run Try.prog w = .ok (goInt l.length) w' ∧ Blk w' g t (Ub (l ++ X.drop l.length)) ∧ Below g w w' := by
  have hmin : Nat.min l.length N = l.length := Nat.min_eq_left hl
  rcases Nat.eq_zero_or_pos l.length with h0 | h0
  · have hl0 : l = [] := List.eq_nil_of_length_eq_zero h0
    subst hl0
    refine ⟨w, ?_, by simpa using hB, Below.refl _ _⟩
    exact run_copy_none (P := Try.prog) w 25 25 T 5 (some ⟨g, 0, none⟩) A N N 0 c (by kernel_rfl) (by kernel_rfl) (by simp)
  · obtain ⟨ad, rfl, hsrc⟩ := bs_src hA h0
    have := run_copy_row (P := Try.prog) w 25 25 T 5 g 0 N N ad l.length c _ _ (l.map (Value.int .u8)) (by kernel_rfl) (by kernel_rfl) hB (by simp [hmin]) hsrc (by simp [Ub]; omega) (by intro v hv; simp at hv; obtain ⟨x, _, rfl⟩ := hv; rfl)
    refine ⟨_, by simpa using this, ?_, below_setRow (Below.refl _ _) (Nat.le_refl _) _⟩
    unfold Blk
    rw [setRow_heap w g _ _ _ _ hB]
    simp [Ub]
theorem fldB1 (c : Int) (A : Option Addr) (n cp : Nat) (w : World) : (Instr.field 27 (.agg #[.int .i64 c, .slice A n cp]) 1).run Try.prog w = .ok (.slice A n cp) w := by kernel_rfl
set_option maxRecDepth 100000 in
set_option maxHeartbeats 1000000 in
theorem key_any (A : Option Addr) (l : List Int) (c : Nat) (w : World) (hA : Bs w A l) (hl : Bytes l) (hm : l.length ≤ 200) :
    Calls Try.prog 65 #[.slice A l.length c] w fun e w' => e = .returned (.agg (Ub (padZ (keyK l)))) ∧ Below w.heap.size w w' := by
  obtain ⟨zs, hzs⟩ : ∃ zs, Ub (List.replicate 64 0) = zs := ⟨_, rfl⟩
  have hz := zero63
  rw [hzs] at hz
  have HZ := hidH hz
  clear hz
  have hA2 := bs_below hA (bal (Below.refl _ w) (.cells zs 85))
  have hsha := sha_impl A l c _ hA2 hl (by omega)
  have R0 := Blk.new w 85 zs
  have B0 := bal (Below.refl w.heap.size w) (.cells zs 85)
  obtain ⟨w1, hw1⟩ : ∃ w1, w.alloc (.cells zs 85) = w1 := ⟨_, rfl⟩
  rw [hw1] at hA2 hsha R0 B0
  have HSHA := hidH hsha
  have HS := hidH hA2
  have HR := hidH R0
  have HB := hidH B0
  have HW1 := hidH hw1
  have hlt : w.heap.size < w1.heap.size := R0.lt
  clear hsha hA2 R0 B0 hw1 hA
  by_cases h : 64 < l.length
  case' pos =>
    have h1 : (64 : Int) < (l.length : Int) := by omega
    have e1 : shaM l = shaL l := by rw [shaM, if_pos (by omega)]
    have e2 : keyK l = shaL l := by rw [keyK, if_pos h]
    have e3 := shaL_len' l
    rw [e2]
    rw [e1] at HSHA
    obtain ⟨X, hX⟩ : ∃ X, shaL l = X := ⟨_, rfl⟩
    rw [hX] at HSHA e3 ⊢
    have hXl : X.length ≤ 64 := by omega
    clear e1 e2 e3 hX
    go_enter Try.func65, Try.ntmps65
    go_wp2_with (first | (refine wpList_allocRow rfl 85 rfl _ rfl zs HZ.out ?_; rw [HW1.out]))
    refine HSHA.out.mono ?_
    rintro e w1 ⟨A1, c1, rfl, P1, b1, hcp, hcm⟩
    replace HR := hidH (HR.out.below b1)
    replace HB := hidH (btr HB.out b1)
    replace HS := hidH P1.bs
    replace hlt : w.heap.size < w1.heap.size := HR.out.lt
    clear P1 b1 hcp hcm HSHA HW1
    have HW1 : Hid True := hidH trivial
  case' neg =>
    have h1 : (l.length : Int) ≤ 64 := by omega
    have e2 : keyK l = l := by rw [keyK, if_neg h]
    rw [e2]
    have hXl : l.length ≤ 64 := by omega
    clear e2 HSHA
    obtain ⟨X, hX⟩ : ∃ X, X = l := ⟨_, rfl⟩
    obtain ⟨A1, hA1⟩ : ∃ A1, A1 = A := ⟨_, rfl⟩
    obtain ⟨c1, hc1⟩ : ∃ c1, c1 = c := ⟨_, rfl⟩
    subst hX hA1 hc1
    go_enter Try.func65, Try.ntmps65
  all_goals
    have f1 := fldB1
    have K2 := Blk.new w1 85 zs
    have R2 := HR.out.alloc (.cells zs 85)
    have B2 := bal HB.out (.cells zs 85)
    have S2 := bs_below HS.out (bal (Below.refl _ w1) (.cells zs 85))
    obtain ⟨w2, hw2⟩ : ∃ w2, w1.alloc (.cells zs 85) = w2 := ⟨_, rfl⟩
    rw [hw2] at K2 R2 B2 S2
    rw [← hzs] at K2
    obtain ⟨w3, hr, K3, b3⟩ := run_copy_t (T := 3) (c := c1) K2 (N := 64) (by simp) hXl S2
    rw [List.drop_replicate] at K3
    have hn : (padZ X).length = 64 := by simp [padZ]; omega
    have hy : X ++ List.replicate (64 - X.length) 0 = padZ X := rfl
    rw [hy] at K3
    obtain ⟨os, hos⟩ : ∃ os, Ub (padZ X) = os := ⟨_, rfl⟩
    have HO := hidH (hos ▸ Ub_one (padZ X))
    have HSZ := hidH (show (Try.prog.info? 85).map (·.size) = some os.size by rw [← hos, Ub_len, hn]; exact size63)
    have HZ2 := hidH (show zs.size = os.size by rw [← hos, ← hzs, Ub_len, Ub_len, hn]; simp)
    rw [hos] at K3
    have HK3 := hidH K3
    have HR3 := hidH ((b3.block _ hlt).trans R2)
    have HB3 := hidH (B2.trans (b3.mono (by omega)))
    have HW2 := hidH hw2
    have HOS := hidH hos
    have hsl : ∀ u : World, (Instr.sliceAt 85 (.pointer (some ⟨w1.heap.size, 0, none⟩)) none none none).run Try.prog u = .ok (.slice (some ⟨w1.heap.size, 0, none⟩) 64 64) u := fun u => slice63 u w1.heap.size
    clear K2 R2 B2 S2 hw2 K3 b3 hy hn hos HS HR HB
    go_wp2_with (first | (refine wpList_allocRow rfl 85 rfl _ rfl zs HZ.out ?_; rw [HW1.out]) | (refine wpList_allocRow rfl 85 rfl _ rfl zs HZ.out ?_; rw [HW2.out]) | refine wpList_load_row rfl 85 _ rfl w1.heap.size rfl 85 os (0, 0) (.array 64 5) HK3.out (by kernel_rfl) rfl HSZ.out ?_ | refine wpList_store_rowTo rfl _ _ _ rfl rfl w.heap.size os rfl rfl 85 _ HR3.out HSZ.out HZ2.out HO.out ?_)
    exact bodyPost_ret (v := .agg os) (results_cell_row rfl _ _ w.heap.size 85 _ (0, 0) (.array 64 5) rfl (setRow_heap _ _ _ _ _ _ HR3.out) (by kernel_rfl) rfl HSZ.out) rfl ⟨by rw [HOS.out], below_setRow HB3.out (by omega) _⟩
end Go.Proofs.Ytacdnednkglobaa
