/- The program's innerDigest and outerDigest: a key's block ahead of bytes, digested. -/
import Derived.Test.YtacdnednkglobaaConI
namespace Go.Proofs.Ytacdnednkglobaa
open Go.RowKit Go.Deep

/-- Bytes of the call's own as a bare slice. -/
def SRes (w0 : World) (l : List Int) (e : Ending) (w : World) : Prop :=
  ∃ A cp, e = .returned (.slice A l.length cp) ∧ Ob w0.heap.size w.heap.size w A l ∧ Below w0.heap.size w0 w ∧ l.length ≤ cp ∧ (cp : Int) ≤ 9223372036854775807
theorem ub_bs {w : World} {g : Nat} {t : TypeId} {l : List Int} (h : Blk w g t (Ub l)) : Bs w (some ⟨g, 0, none⟩) l :=
  .inr ⟨g, 0, rfl, h.lt, fun j hj => by rw [Nat.zero_add]; exact ub_cell h j _ (by simp [hj])⟩
theorem sliceOut (u : World) (b : Nat) : (Instr.sliceAt 78 (.pointer (some ⟨b, 0, none⟩)) none none none).run Try.prog u = .ok (.slice (some ⟨b, 0, none⟩) 64 64) u := by
  have hal : Try.prog.arrayLen 78 = 64 := by kernel_rfl
  have hel : Try.prog.elem 78 = 5 := by kernel_rfl
  rw [run_sliceAt_array_all u 78 ⟨b, 0, none⟩ (by rw [hal, hel]; kernel_rfl), hel, sizeU8, hal]
  simp only [Result.andThen, slicedAt]
  rw [if_neg (by omega)]
  simp [Addr.add]
set_option maxRecDepth 100000 in
set_option maxHeartbeats 1000000 in
theorem outer_any (k d X : List Int) (B : Option Addr) (cb : Nat) (w : World) (hk : Bytes k) (hkl : k.length = 64) (hB : Bs w B d) (hd : Bytes d) (hdl : d.length ≤ 600) (hX : shaL (k ++ d) = X) :
    Calls Try.prog 59 #[.agg (Ub k), .slice B d.length cb] w (SRes w X) := by
  obtain ⟨cs, hcs⟩ : ∃ cs, Ub k = cs := ⟨_, rfl⟩
  have K1 : Blk (w.alloc (.cells cs 78)) w.heap.size 78 (Ub k) := hcs ▸ Blk.new w 78 cs
  have B1 := bal (Below.refl w.heap.size w) (.cells cs 78)
  have S1 := bs_below hB (bal (Below.refl _ w) (.cells cs 78))
  obtain ⟨w1, hw1⟩ : ∃ w1, w.alloc (.cells cs 78) = w1 := ⟨_, rfl⟩
  rw [hw1] at K1 B1 S1
  have hlt : w.heap.size < w1.heap.size := K1.lt
  have K2 := ub_bs (K1.alloc (.cells #[.slice (some ⟨w.heap.size, 0, none⟩) 64 64, .slice B d.length cb] 25))
  have B2 := bal B1 (.cells #[.slice (some ⟨w.heap.size, 0, none⟩) 64 64, .slice B d.length cb] 25)
  have S2 := bs_below S1 (bal (Below.refl _ w1) (.cells #[.slice (some ⟨w.heap.size, 0, none⟩) 64 64, .slice B d.length cb] 25))
  have G2 := Blk.new w1 25 #[.slice (some ⟨w.heap.size, 0, none⟩) 64 64, .slice B d.length cb]
  obtain ⟨w2, hw2⟩ : ∃ w2, w1.alloc (.cells #[.slice (some ⟨w.heap.size, 0, none⟩) 64 64, .slice B d.length cb] 25) = w2 := ⟨_, rfl⟩
  rw [hw2] at K2 B2 S2 G2
  have hcon := concat_any w1.heap.size (some ⟨w.heap.size, 0, none⟩) B k d 64 cb w2 (by rw [hkl]; exact G2) K2 S2 (by omega) (by omega)
  have hL : (k ++ d).length ≤ 700 := by rw [List.length_append]; omega
  have hb : Bytes (k ++ d) := bytes_app hk hd
  have hsha : ∀ (A : Option Addr) (c : Nat) (u : World), Bs u A (k ++ d) → Calls Try.prog 67 #[.slice A (k ++ d).length c] u (BRes u (padC (k ++ d)) X) := fun A c u hA => by
    have := sha_impl A (k ++ d) c u hA hb (by omega)
    rw [shaM, if_pos hL, hX] at this
    exact this
  generalize k ++ d = L at *
  have hsl : ∀ u : World, (Instr.sliceAt 78 (.pointer (some ⟨w.heap.size, 0, none⟩)) none none none).run Try.prog u = .ok (.slice (some ⟨w.heap.size, 0, none⟩) 64 64) u := fun u => sliceOut u w.heap.size
  have f1 := fldB1
  have HW1 := hidH hw1
  have HW2 := hidH hw2
  have HCON := hidH hcon
  have HSHA := hidH hsha
  have HB2 := hidH B2
  rw [hcs]
  clear hw1 hw2 hcon hsha B2 G2 S2 K2 K1 B1 S1 hB hX
  go_enter Try.func59, Try.ntmps59
  go_wp2_with (first | (refine wpList_boxRow rfl _ _ rfl _ rfl cs rfl ?_; rw [HW1.out]))
  rw [HW2.out]
  refine HCON.out.mono ?_
  rintro e w3 ⟨A3, c3, rfl, S3, b3⟩
  have HS3 := hidH S3
  have HB3 := hidH (btr HB2.out b3)
  clear S3 b3 HCON HB2 HW2
  go_wp2_with fail
  refine (HSHA.out A3 c3 w3 HS3.out).mono ?_
  rintro e w4 ⟨A4, c4, rfl, O4, b4, hc1, hc2⟩
  have HB4 := hidH (btr HB3.out b4)
  have HO4 := hidH (O4.mono HB3.out.size)
  have HC := hidH (And.intro hc1 hc2)
  clear O4 b4 hc1 hc2 HB3 HS3 HSHA
  go_wp2
  go_ret
  exact ⟨A4, c4, rfl, HO4.out, HB4.out, HC.out.1, HC.out.2⟩
theorem sliceIn (u : World) (b : Nat) : (Instr.sliceAt 77 (.pointer (some ⟨b, 0, none⟩)) none none none).run Try.prog u = .ok (.slice (some ⟨b, 0, none⟩) 64 64) u := by
  have hal : Try.prog.arrayLen 77 = 64 := by kernel_rfl
  have hel : Try.prog.elem 77 = 5 := by kernel_rfl
  rw [run_sliceAt_array_all u 77 ⟨b, 0, none⟩ (by rw [hal, hel]; kernel_rfl), hel, sizeU8, hal]
  simp only [Result.andThen, slicedAt]
  rw [if_neg (by omega)]
  simp [Addr.add]
set_option maxRecDepth 100000 in
set_option maxHeartbeats 1000000 in
theorem inner_any (k d X : List Int) (B : Option Addr) (cb : Nat) (w : World) (hk : Bytes k) (hkl : k.length = 64) (hB : Bs w B d) (hd : Bytes d) (hdl : d.length ≤ 600) (hX : shaL (k ++ d) = X) :
    Calls Try.prog 60 #[.agg (Ub k), .slice B d.length cb] w (SRes w X) := by
  obtain ⟨cs, hcs⟩ : ∃ cs, Ub k = cs := ⟨_, rfl⟩
  have K1 : Blk (w.alloc (.cells cs 77)) w.heap.size 77 (Ub k) := hcs ▸ Blk.new w 77 cs
  have B1 := bal (Below.refl w.heap.size w) (.cells cs 77)
  have S1 := bs_below hB (bal (Below.refl _ w) (.cells cs 77))
  obtain ⟨w1, hw1⟩ : ∃ w1, w.alloc (.cells cs 77) = w1 := ⟨_, rfl⟩
  rw [hw1] at K1 B1 S1
  have hlt : w.heap.size < w1.heap.size := K1.lt
  have K2 := ub_bs (K1.alloc (.cells #[.slice (some ⟨w.heap.size, 0, none⟩) 64 64, .slice B d.length cb] 25))
  have B2 := bal B1 (.cells #[.slice (some ⟨w.heap.size, 0, none⟩) 64 64, .slice B d.length cb] 25)
  have S2 := bs_below S1 (bal (Below.refl _ w1) (.cells #[.slice (some ⟨w.heap.size, 0, none⟩) 64 64, .slice B d.length cb] 25))
  have G2 := Blk.new w1 25 #[.slice (some ⟨w.heap.size, 0, none⟩) 64 64, .slice B d.length cb]
  obtain ⟨w2, hw2⟩ : ∃ w2, w1.alloc (.cells #[.slice (some ⟨w.heap.size, 0, none⟩) 64 64, .slice B d.length cb] 25) = w2 := ⟨_, rfl⟩
  rw [hw2] at K2 B2 S2 G2
  have hcon := concat_any w1.heap.size (some ⟨w.heap.size, 0, none⟩) B k d 64 cb w2 (by rw [hkl]; exact G2) K2 S2 (by omega) (by omega)
  have hL : (k ++ d).length ≤ 700 := by rw [List.length_append]; omega
  have hb : Bytes (k ++ d) := bytes_app hk hd
  have hsha : ∀ (A : Option Addr) (c : Nat) (u : World), Bs u A (k ++ d) → Calls Try.prog 67 #[.slice A (k ++ d).length c] u (BRes u (padC (k ++ d)) X) := fun A c u hA => by
    have := sha_impl A (k ++ d) c u hA hb (by omega)
    rw [shaM, if_pos hL, hX] at this
    exact this
  generalize k ++ d = L at *
  have hsl : ∀ u : World, (Instr.sliceAt 77 (.pointer (some ⟨w.heap.size, 0, none⟩)) none none none).run Try.prog u = .ok (.slice (some ⟨w.heap.size, 0, none⟩) 64 64) u := fun u => sliceIn u w.heap.size
  have f1 := fldB1
  have HW1 := hidH hw1
  have HW2 := hidH hw2
  have HCON := hidH hcon
  have HSHA := hidH hsha
  have HB2 := hidH B2
  rw [hcs]
  clear hw1 hw2 hcon hsha B2 G2 S2 K2 K1 B1 S1 hB hX
  go_enter Try.func60, Try.ntmps60
  go_wp2_with (first | (refine wpList_boxRow rfl _ _ rfl _ rfl cs rfl ?_; rw [HW1.out]))
  rw [HW2.out]
  refine HCON.out.mono ?_
  rintro e w3 ⟨A3, c3, rfl, S3, b3⟩
  have HS3 := hidH S3
  have HB3 := hidH (btr HB2.out b3)
  clear S3 b3 HCON HB2 HW2
  go_wp2_with fail
  refine (HSHA.out A3 c3 w3 HS3.out).mono ?_
  rintro e w4 ⟨A4, c4, rfl, O4, b4, hc1, hc2⟩
  have HB4 := hidH (btr HB3.out b4)
  have HO4 := hidH (O4.mono HB3.out.size)
  have HC := hidH (And.intro hc1 hc2)
  clear O4 b4 hc1 hc2 HB3 HS3 HSHA
  go_wp2
  go_ret
  exact ⟨A4, c4, rfl, HO4.out, HB4.out, HC.out.1, HC.out.2⟩
end Go.Proofs.Ytacdnednkglobaa
