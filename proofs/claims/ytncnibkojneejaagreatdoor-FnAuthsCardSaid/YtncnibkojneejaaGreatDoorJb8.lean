import Derived.Test.YtncnibkojneejaaGreatDoorJb7
import Derived.Test.YtncnibkojneejaaGreatDoorJa7
import Derived.Test.YtncnibkojneejaaGreatDoorJb6
import Derived.Test.YtncnibkojneejaaGreatDoorJa0
import Derived.Test.YtncnibkojneejaaGreatDoorJb4

/- The program's innerDigest and outerDigest: a key's block ahead of bytes, digested. -/
namespace Go.Proofs.YtncnibkojneejaaGreatDoor
open Go.RowKit Go.Deep

/-- Bytes of the call's own as a bare slice. -/
def SRes (w0 : World) (l : List Int) (e : Ending) (w : World) : Prop :=
  ∃ A cp, e = .returned (.slice A l.length cp) ∧ Ob w0.heap.size w.heap.size w A l ∧ Below w0.heap.size w0 w ∧ l.length ≤ cp ∧ (cp : Int) ≤ 9223372036854775807
theorem ub_bs {w : World} {g : Nat} {t : TypeId} {l : List Int} (h : Blk w g t (Ub l)) : Bs w (some ⟨g, 0, none⟩) l :=
  .inr ⟨g, 0, rfl, h.lt, fun j hj => by rw [Nat.zero_add]; exact ub_cell h j _ (by simp [hj])⟩
theorem sliceOut (u : World) (b : Nat) : (Instr.sliceAt 95 (.pointer (some ⟨b, 0, none⟩)) none none none).run Tryz.prog u = .ok (.slice (some ⟨b, 0, none⟩) 64 64) u := by
  have hal : Tryz.prog.arrayLen 95 = 64 := by kernel_rfl
  have hel : Tryz.prog.elem 95 = 5 := by kernel_rfl
  rw [run_sliceAt_array_all u 95 ⟨b, 0, none⟩ (by rw [hal, hel]; kernel_rfl), hel, sizeU8k, hal]
  simp only [Result.andThen, slicedAt]
  rw [if_neg (by omega)]
  simp [Addr.add]
set_option maxRecDepth 100000 in
set_option maxHeartbeats 1000000 in
theorem outer_any (k d X : List Int) (B : Option Addr) (cb : Nat) (w : World) (hk : Bytes k) (hkl : k.length = 64) (hB : Bs w B d) (hd : Bytes d) (hdl : d.length ≤ 600) (hX : shaL (k ++ d) = X) :
    Calls Tryz.prog 60 #[.agg (Ub k), .slice B d.length cb] w (SRes w X) := by
  obtain ⟨cs, hcs⟩ : ∃ cs, Ub k = cs := ⟨_, rfl⟩
  have K1 : Blk (w.alloc (.cells cs 95)) w.heap.size 95 (Ub k) := hcs ▸ Blk.new w 95 cs
  have B1 := bal (Below.refl w.heap.size w) (.cells cs 95)
  have S1 := bs_below hB (bal (Below.refl _ w) (.cells cs 95))
  obtain ⟨w1, hw1⟩ : ∃ w1, w.alloc (.cells cs 95) = w1 := ⟨_, rfl⟩
  rw [hw1] at K1 B1 S1
  have hlt : w.heap.size < w1.heap.size := K1.lt
  have K2 := ub_bs (K1.alloc (.cells #[.slice (some ⟨w.heap.size, 0, none⟩) 64 64, .slice B d.length cb] 22))
  have B2 := bal B1 (.cells #[.slice (some ⟨w.heap.size, 0, none⟩) 64 64, .slice B d.length cb] 22)
  have S2 := bs_below S1 (bal (Below.refl _ w1) (.cells #[.slice (some ⟨w.heap.size, 0, none⟩) 64 64, .slice B d.length cb] 22))
  have G2 := Blk.new w1 22 #[.slice (some ⟨w.heap.size, 0, none⟩) 64 64, .slice B d.length cb]
  obtain ⟨w2, hw2⟩ : ∃ w2, w1.alloc (.cells #[.slice (some ⟨w.heap.size, 0, none⟩) 64 64, .slice B d.length cb] 22) = w2 := ⟨_, rfl⟩
  rw [hw2] at K2 B2 S2 G2
  have hcon := concat_any w1.heap.size (some ⟨w.heap.size, 0, none⟩) B k d 64 cb w2 (by rw [hkl]; exact G2) K2 S2 (by omega) (by omega)
  have hL : (k ++ d).length ≤ 700 := by rw [List.length_append]; omega
  have hb : Bytes (k ++ d) := bytes_app hk hd
  have hsha : ∀ (A : Option Addr) (c : Nat) (u : World), Bs u A (k ++ d) → Calls Tryz.prog 79 #[.slice A (k ++ d).length c] u (BRes u (padC (k ++ d)) X) := fun A c u hA => by
    have := sha_impl A (k ++ d) c u hA hb (by omega)
    rw [shaM, if_pos hL, hX] at this
    exact this
  generalize k ++ d = L at *
  have hsl : ∀ u : World, (Instr.sliceAt 95 (.pointer (some ⟨w.heap.size, 0, none⟩)) none none none).run Tryz.prog u = .ok (.slice (some ⟨w.heap.size, 0, none⟩) 64 64) u := fun u => sliceOut u w.heap.size
  have f1 := fldB1
  have HW1 := hidH hw1
  have HW2 := hidH hw2
  have HCON := hidH hcon
  have HSHA := hidH hsha
  have HB2 := hidH B2
  rw [hcs]
  clear hw1 hw2 hcon hsha B2 G2 S2 K2 K1 B1 S1 hB hX
  go_enter Tryz.func60, Tryz.ntmps60
  go_wp2_with (first | (refine wpList_boxRow rfl _ _ rfl _ rfl cs rfl ?_; rw [HW1.out]))
  rw [HW2.out]
  refine HCON.out.mono ?_
  rintro e w3 ⟨A3, c3, rfl, S3, b3⟩
  have HS3 := hidH S3
  have HB3 := hidH (btr HB2.out b3)
  clear S3 b3 HCON HB2 HW2
  go_wp2_with fail
  refine (HSHA.out A3 c3 w3 HS3.out).mono ?_
  rintro e w4 ⟨A4, c4, rfl, O4, b4, hc1, hc2⟩
  have HB4 := hidH (btr HB3.out b4)
  have HO4 := hidH (O4.mono HB3.out.size)
  have HC := hidH (And.intro hc1 hc2)
  clear O4 b4 hc1 hc2 HB3 HS3 HSHA
  go_wp2
  go_ret
  exact ⟨A4, c4, rfl, HO4.out, HB4.out, HC.out.1, HC.out.2⟩
theorem sliceIn (u : World) (b : Nat) : (Instr.sliceAt 94 (.pointer (some ⟨b, 0, none⟩)) none none none).run Tryz.prog u = .ok (.slice (some ⟨b, 0, none⟩) 64 64) u := by
  have hal : Tryz.prog.arrayLen 94 = 64 := by kernel_rfl
  have hel : Tryz.prog.elem 94 = 5 := by kernel_rfl
  rw [run_sliceAt_array_all u 94 ⟨b, 0, none⟩ (by rw [hal, hel]; kernel_rfl), hel, sizeU8k, hal]
  simp only [Result.andThen, slicedAt]
  rw [if_neg (by omega)]
  simp [Addr.add]
set_option maxRecDepth 100000 in
set_option maxHeartbeats 1000000 in
theorem inner_any (k d X : List Int) (B : Option Addr) (cb : Nat) (w : World) (hk : Bytes k) (hkl : k.length = 64) (hB : Bs w B d) (hd : Bytes d) (hdl : d.length ≤ 600) (hX : shaL (k ++ d) = X) :
    Calls Tryz.prog 61 #[.agg (Ub k), .slice B d.length cb] w (SRes w X) := by
  obtain ⟨cs, hcs⟩ : ∃ cs, Ub k = cs := ⟨_, rfl⟩
  have K1 : Blk (w.alloc (.cells cs 94)) w.heap.size 94 (Ub k) := hcs ▸ Blk.new w 94 cs
  have B1 := bal (Below.refl w.heap.size w) (.cells cs 94)
  have S1 := bs_below hB (bal (Below.refl _ w) (.cells cs 94))
  obtain ⟨w1, hw1⟩ : ∃ w1, w.alloc (.cells cs 94) = w1 := ⟨_, rfl⟩
  rw [hw1] at K1 B1 S1
  have hlt : w.heap.size < w1.heap.size := K1.lt
  have K2 := ub_bs (K1.alloc (.cells #[.slice (some ⟨w.heap.size, 0, none⟩) 64 64, .slice B d.length cb] 22))
  have B2 := bal B1 (.cells #[.slice (some ⟨w.heap.size, 0, none⟩) 64 64, .slice B d.length cb] 22)
  have S2 := bs_below S1 (bal (Below.refl _ w1) (.cells #[.slice (some ⟨w.heap.size, 0, none⟩) 64 64, .slice B d.length cb] 22))
  have G2 := Blk.new w1 22 #[.slice (some ⟨w.heap.size, 0, none⟩) 64 64, .slice B d.length cb]
  obtain ⟨w2, hw2⟩ : ∃ w2, w1.alloc (.cells #[.slice (some ⟨w.heap.size, 0, none⟩) 64 64, .slice B d.length cb] 22) = w2 := ⟨_, rfl⟩
  rw [hw2] at K2 B2 S2 G2
  have hcon := concat_any w1.heap.size (some ⟨w.heap.size, 0, none⟩) B k d 64 cb w2 (by rw [hkl]; exact G2) K2 S2 (by omega) (by omega)
  have hL : (k ++ d).length ≤ 700 := by rw [List.length_append]; omega
  have hb : Bytes (k ++ d) := bytes_app hk hd
  have hsha : ∀ (A : Option Addr) (c : Nat) (u : World), Bs u A (k ++ d) → Calls Tryz.prog 79 #[.slice A (k ++ d).length c] u (BRes u (padC (k ++ d)) X) := fun A c u hA => by
    have := sha_impl A (k ++ d) c u hA hb (by omega)
    rw [shaM, if_pos hL, hX] at this
    exact this
  generalize k ++ d = L at *
  have hsl : ∀ u : World, (Instr.sliceAt 94 (.pointer (some ⟨w.heap.size, 0, none⟩)) none none none).run Tryz.prog u = .ok (.slice (some ⟨w.heap.size, 0, none⟩) 64 64) u := fun u => sliceIn u w.heap.size
  have f1 := fldB1
  have HW1 := hidH hw1
  have HW2 := hidH hw2
  have HCON := hidH hcon
  have HSHA := hidH hsha
  have HB2 := hidH B2
  rw [hcs]
  clear hw1 hw2 hcon hsha B2 G2 S2 K2 K1 B1 S1 hB hX
  go_enter Tryz.func61, Tryz.ntmps61
  go_wp2_with (first | (refine wpList_boxRow rfl _ _ rfl _ rfl cs rfl ?_; rw [HW1.out]))
  rw [HW2.out]
  refine HCON.out.mono ?_
  rintro e w3 ⟨A3, c3, rfl, S3, b3⟩
  have HS3 := hidH S3
  have HB3 := hidH (btr HB2.out b3)
  clear S3 b3 HCON HB2 HW2
  go_wp2_with fail
  refine (HSHA.out A3 c3 w3 HS3.out).mono ?_
  rintro e w4 ⟨A4, c4, rfl, O4, b4, hc1, hc2⟩
  have HB4 := hidH (btr HB3.out b4)
  have HO4 := hidH (O4.mono HB3.out.size)
  have HC := hidH (And.intro hc1 hc2)
  clear O4 b4 hc1 hc2 HB3 HS3 HSHA
  go_wp2
  go_ret
  exact ⟨A4, c4, rfl, HO4.out, HB4.out, HC.out.1, HC.out.2⟩
end Go.Proofs.YtncnibkojneejaaGreatDoor

/- The program's keysOf: both keys of one, by an invariant over its region that draws its order. -/
namespace Go.Proofs.YtncnibkojneejaaGreatDoor
open Go.RowKit Go.Deep

theorem wp_buildTo {P : Program} {o : Oper} {a : Act} {w : World} {K : Act → World → Prop} {Q : Exit → Act → World → Prop} (t : TypeId) (parts : Array (Nat × Operand)) (ho : o.op = .build t parts) (dst : Option Tmp) (hd : o.dst = dst)
    (cells : Array Value) (hf : P.built t (parts.map fun (i, x) => (i, a.eval x)).toList = some cells) (h : K (a.put dst (.agg cells)) w) : o.wp P a w K Q := by
  subst hd
  refine wp_build t parts ho (by rw [hf]; rfl) ?_
  rw [hf]
  exact h
theorem zero50 : (Tryz.prog.info? 97).bind (·.zero) = some (.agg (Ub (List.replicate 128 0))) := by kernel_rfl
theorem size50 : (Tryz.prog.info? 97).map (·.size) = some 128 := by kernel_rfl
theorem und50 : ∃ fs, Tryz.prog.underlying 97 = some (.struct fs) := by
  have h : (match Tryz.prog.underlying 97 with | some (.struct _) => true | _ => false) = true := by kernel_rfl
  split at h
  · next fs e => exact ⟨fs, e⟩
  · cases h
theorem built50 (x y : List Int) (hx : x.length = 64) (hy : y.length = 64) : Tryz.prog.built 97 [(0, .agg (Ub x)), (1, .agg (Ub y))] = some (Ub (x ++ y)) := by
  have h := Great.fill_whole (s := 64) (by omega) [.agg (Ub x), .agg (Ub y)] (Ub (List.replicate 128 0)) (by
    intro v hv
    simp only [List.mem_cons, List.not_mem_nil, or_false] at hv
    rcases hv with rfl | rfl
    · exact (Ub_len x).trans hx
    · exact (Ub_len y).trans hy) (by rw [Ub_len]; simp)
  have e : Tryz.prog.built 97 [(0, .agg (Ub x)), (1, .agg (Ub y))] = Instr.fill (fun i => some (i * 64, 64)) (Ub (List.replicate 128 0)) (([Value.agg (Ub x), Value.agg (Ub y)].zipIdx 0).map fun x => (x.2, x.1)) := by kernel_rfl
  rw [e, h]
  simp [Ub, Value.cells]
set_option maxRecDepth 100000 in
set_option maxHeartbeats 1000000 in
theorem keysOf_any (A : Option Addr) (l : List Int) (c : Nat) (w : World) (hA : Bs w A l) (hl : Bytes l) (hm : l.length ≤ 200) :
    Calls Tryz.prog 59 #[.slice A l.length c] w fun e w' => e = .returned (.agg (Ub (blockK l 54 ++ blockK l 92))) ∧ Below w.heap.size w w' := by
  obtain ⟨z2, hz2⟩ : ∃ z2, Ub (List.replicate 128 0) = z2 := ⟨_, rfl⟩
  obtain ⟨zs, hzs⟩ : ∃ zs, Ub (List.replicate 64 0) = zs := ⟨_, rfl⟩
  have hz := zero63
  have hy := zero50
  rw [hzs] at hz
  rw [hz2] at hy
  have HZ := hidH hz
  have HY := hidH hy
  clear hz hy
  have hA2 := bs_below hA (bal (Below.refl _ w) (.cells z2 97))
  have hkey := key_any A l c _ hA2 hl hm
  have R0 := Blk.new w 97 z2
  have B0 := bal (Below.refl w.heap.size w) (.cells z2 97)
  obtain ⟨w1, hw1⟩ : ∃ w1, w.alloc (.cells z2 97) = w1 := ⟨_, rfl⟩
  rw [hw1] at hA2 hkey R0 B0
  have kl : (padZ (keyK l)).length = 64 := by have := keyK_len l; simp [padZ]; omega
  have kb : Bytes (padZ (keyK l)) := by
    intro x hx
    rcases List.mem_append.1 hx with h | h
    · exact keyK_bytes hl x h
    · obtain ⟨_, rfl⟩ := List.mem_replicate.1 h; omega
  have m1 := fun w => masked_any (padZ (keyK l)) 54 w kb kl (by omega) (by omega)
  have m2 := fun w => masked_any (padZ (keyK l)) 92 w kb kl (by omega) (by omega)
  have hb := built50 (blockK l 54) (blockK l 92) (blockK_len _ _) (blockK_len _ _)
  have hs128 : (blockK l 54 ++ blockK l 92).length = 128 := by rw [List.length_append, blockK_len, blockK_len]
  rw [show (padZ (keyK l)).map (byteX (54 : Int).toNat) = blockK l 54 from rfl] at m1
  rw [show (padZ (keyK l)).map (byteX (92 : Int).toNat) = blockK l 92 from rfl] at m2
  have ho := Ub_one (blockK l 54 ++ blockK l 92)
  have hos := Ub_len (blockK l 54 ++ blockK l 92)
  rw [hs128] at hos
  have hks := Ub_len (padZ (keyK l))
  rw [kl] at hks
  have hko := Ub_one (padZ (keyK l))
  generalize Ub (blockK l 54 ++ blockK l 92) = os at *
  generalize Ub (padZ (keyK l)) = ks at *
  generalize Ub (blockK l 54) = i1 at *
  generalize Ub (blockK l 92) = i2 at *
  have HKEY := hidH hkey
  have HS := hidH hA2
  have HR := hidH R0
  have HB := hidH B0
  have HW1 := hidH hw1
  have hlt : w.heap.size < w1.heap.size := R0.lt
  have hzk : zs.size = ks.size := by rw [← hzs, Ub_len, hks]; simp
  have hsk : (Tryz.prog.info? 124).map (·.size) = some ks.size := by rw [hks]; exact size63
  have hz2o : z2.size = os.size := by rw [← hz2, Ub_len, hos]; simp
  have hso : (Tryz.prog.info? 97).map (·.size) = some os.size := by rw [hos]; exact size50
  have HF := hidH (And.intro hko (And.intro hzk (And.intro hsk (And.intro hz2o (And.intro hso (And.intro ho hb))))))
  have HM1 := hidH m1
  have HM2 := hidH m2
  clear hkey hA2 R0 B0 hw1 hA kl kb m1 m2 hb hs128 ho hos hks hko hzk hsk hz2o hso hz2 hzs
  go_enter Tryz.func59, Tryz.ntmps59
  go_wp2_with (first | (refine wpList_allocRow rfl 97 rfl _ rfl z2 HY.out ?_; rw [HW1.out]))
  refine HKEY.out.mono ?_
  rintro e w2 ⟨rfl, b2⟩
  have HR2 := HR.out.below b2
  have HB2 := btr HB.out b2
  have hlt2 : w.heap.size < w2.heap.size := HR2.lt
  have K3 := Blk.new w2 124 zs
  have R3 := HR2.alloc (.cells zs 124)
  have B3 := bal HB2 (.cells zs 124)
  have K4 : Blk ((w2.alloc (.cells zs 124)).setRow w2.heap.size ks) w2.heap.size 124 ks := setRow_heap _ _ _ _ _ _ K3
  have R4 : Blk ((w2.alloc (.cells zs 124)).setRow w2.heap.size ks) w.heap.size 97 z2 := (setRow_other (w2.alloc (.cells zs 124)) w2.heap.size w.heap.size ks (by omega)).trans R3
  have B4 := below_setRow B3 (g := w2.heap.size) (by omega) ks
  obtain ⟨w4, hw4⟩ : ∃ w4, (w2.alloc (.cells zs 124)).setRow w2.heap.size ks = w4 := ⟨_, rfl⟩
  rw [hw4] at K4 R4 B4
  have HK4 := hidH K4
  have HR4 := hidH R4
  have HB4 := hidH B4
  have HW4 := hidH hw4
  clear HR2 HB2 K3 R3 B3 K4 R4 B4 hw4 b2 HKEY HS HR HB hlt
  go_wp2_with (first | (refine wpList_allocRow rfl 124 rfl _ rfl zs HZ.out ?_) | (refine wpList_store_rowTo rfl _ _ _ rfl rfl w2.heap.size ks rfl rfl 124 _ (heap_alloc_last w2 _) HF.out.2.2.1 HF.out.2.1 HF.out.1 ?_; rw [HW4.out]))
  refine wp_region_any (by kernel_rfl) ?_
  refine region_inv 6 (fun i => [[], [0], [], [2], [1, 3], [0, 1, 2, 3, 4]].getD i [])
    (fun d a W => ∃ t6 t7 t8 t9 t10, a = { tmps := #[.slice A l.length c, undef, .pointer (some ⟨w.heap.size, 0, none⟩), .pointer (some ⟨w2.heap.size, 0, none⟩), .slice A l.length c, .agg ks, t6, t7, t8, t9, t10], defers := [] } ∧
      Blk W w2.heap.size 124 ks ∧ Below w.heap.size w W ∧ (d 5 = false → Blk W w.heap.size 97 z2) ∧ (d 5 = true → Blk W w.heap.size 97 os) ∧
      (d 0 = true → t6 = .agg ks) ∧ (d 1 = true → t7 = .agg i1) ∧ (d 2 = true → t8 = .agg ks) ∧ (d 3 = true → t9 = .agg i2) ∧ (d 4 = true → t10 = .agg os))
    rfl (by kernel_rfl) (by kernel_rfl) ?start ?step ?fin
  case start => exact ⟨undef, undef, undef, undef, undef, rfl, HK4.out.below (Below.refl _ _).drew, HB4.out.drew, fun _ => HR4.out.below (Below.refl _ _).drew, fun h => by simp at h, fun h => by simp at h, fun h => by simp at h, fun h => by simp at h, fun h => by simp at h, fun h => by simp at h⟩
  case step =>
    intro i hi d a W hJ hd hdep
    obtain ⟨t6, t7, t8, t9, t10, rfl, hK, hB, h5, h5', h0, h1, h2, h3, h4⟩ := hJ
    match i, hi with
    | 0, _ =>
      refine wpOp_plain (by rfl) rfl ?_
      refine wp_load_row 124 _ rfl w2.heap.size rfl 124 ks (0, 0) (.array 64 5) hK (by kernel_rfl) rfl HF.out.2.2.1 ?_
      exact ⟨_, t7, t8, t9, t10, rfl, hK, hB, h5, h5', fun _ => rfl, h1, h2, h3, h4⟩
    | 1, _ =>
      refine wpOp_plain (by rfl) rfl ?_
      obtain rfl := h0 (hdep 0 (by simp))
      refine wp_callOp 78 _ Tryz.func78 (by kernel_rfl) (by kernel_rfl) #[.agg ks, .int .u8 54] _ _ rfl (by simp [Act.eval]) _ rfl (.agg i1) _ (HM1.out W) (fun w' hb => ?_)
      exact ⟨_, _, t8, t9, t10, rfl, hK.below hb, btr hB hb, fun h => (h5 h).below hb, fun h => (h5' h).below hb, h0, fun _ => rfl, h2, h3, h4⟩
    | 2, _ =>
      refine wpOp_plain (by rfl) rfl ?_
      refine wp_load_row 124 _ rfl w2.heap.size rfl 124 ks (0, 0) (.array 64 5) hK (by kernel_rfl) rfl HF.out.2.2.1 ?_
      exact ⟨t6, t7, _, t9, t10, rfl, hK, hB, h5, h5', h0, h1, fun _ => rfl, h3, h4⟩
    | 3, _ =>
      refine wpOp_plain (by rfl) rfl ?_
      obtain rfl := h2 (hdep 2 (by simp))
      refine wp_callOp 78 _ Tryz.func78 (by kernel_rfl) (by kernel_rfl) #[.agg ks, .int .u8 92] _ _ rfl (by simp [Act.eval]) _ rfl (.agg i2) _ (HM2.out W) (fun w' hb => ?_)
      exact ⟨t6, t7, _, _, t10, rfl, hK.below hb, btr hB hb, fun h => (h5 h).below hb, fun h => (h5' h).below hb, h0, h1, h2, fun _ => rfl, h4⟩
    | 4, _ =>
      refine wpOp_plain (by rfl) rfl ?_
      obtain rfl := h1 (hdep 1 (by simp))
      obtain rfl := h3 (hdep 3 (by simp))
      refine wp_buildTo 97 _ rfl _ rfl os ((congrArg (Tryz.prog.built 97) (by simp [Act.eval])).trans HF.out.2.2.2.2.2.2) ?_
      exact ⟨t6, _, t8, _, _, rfl, hK, hB, h5, h5', h0, h1, h2, h3, fun _ => rfl⟩
    | 5, _ =>
      refine wpOp_plain (by rfl) rfl ?_
      obtain rfl := h4 (hdep 4 (by simp))
      refine wp_store_row 97 _ _ rfl w.heap.size os rfl rfl 97 z2 (h5 hd) HF.out.2.2.2.2.1 HF.out.2.2.2.1 HF.out.2.2.2.2.2.1 ?_
      exact ⟨t6, t7, t8, t9, _, rfl, (setRow_other W _ _ os (by omega)).trans hK, below_setRow hB (Nat.le_refl _) os, fun h => by simp at h, fun _ => setRow_heap _ _ _ _ _ _ (h5 hd), h0, h1, h2, h3, h4⟩
    | n + 6, h => omega
  case fin =>
    rintro d a W ⟨t6, t7, t8, t9, t10, rfl, hK, hB, h5, h5', h0, h1, h2, h3, h4⟩ hall
    have hR := h5' (hall 5 (by omega))
    obtain ⟨fs, hfs⟩ := und50
    go_wp2
    exact bodyPost_ret (v := .agg os) (results_cell_row rfl _ _ w.heap.size 97 _ (0, 0) (.struct fs) rfl hR hfs rfl HF.out.2.2.2.2.1) rfl ⟨rfl, hB⟩
end Go.Proofs.YtncnibkojneejaaGreatDoor

/- Copies whose address is left open, for the exact laws. -/
namespace Go.Proofs.YtncnibkojneejaaGreatDoor
open Go.RowKit Go.Deep

theorem padM_le (l : List Int) : ((padM l).length : Int) ≤ 100000 := by
  unfold padM; split
  · rw [padL_len]; unfold zerosN; omega
  · simp
theorem schM_le (l : List Int) : ((schM l).length : Int) ≤ 100000 := by
  unfold schM; split
  · rw [ci_len, schedN, schedTo_len]; omega
  · simp
theorem comM_le (s l : List Int) : ((comM s l).length : Int) ≤ 100000 := by
  unfold comM; split
  · split
    · rw [ci_len]; simp [compN]
    · simp
  · simp
end Go.Proofs.YtncnibkojneejaaGreatDoor

/- The program's HmacSha, by an invariant over its region that draws its order. -/
namespace Go.Proofs.YtncnibkojneejaaGreatDoor
open Go.RowKit Go.Deep

theorem und27 : ∃ fs, Tryz.prog.underlying 48 = some (.struct fs) := by
  have h : (match Tryz.prog.underlying 48 with | some (.struct _) => true | _ => false) = true := by kernel_rfl
  split at h
  · next fs e => exact ⟨fs, e⟩
  · cases h
theorem size27 : (Tryz.prog.info? 48).map (·.size) = some 2 := by kernel_rfl
theorem built27 (A : Option Addr) (n c : Nat) : Tryz.prog.built 48 [(1, .slice A n c)] = some #[.int .i64 0, .slice A n c] := by kernel_rfl
theorem fat1 (u : World) (b : Nat) : (Instr.fieldAt 97 (.pointer (some ⟨b, 0, none⟩)) 1).run Tryz.prog u = .ok (.pointer (some ⟨b, 64, none⟩)) u := by kernel_rfl
theorem fat0 (u : World) (b : Nat) : (Instr.fieldAt 97 (.pointer (some ⟨b, 0, none⟩)) 0).run Tryz.prog u = .ok (.pointer (some ⟨b, 0, none⟩)) u := by kernel_rfl
theorem sizeOK : (Tryz.prog.info? 95).map (·.size) = some 64 := by kernel_rfl
theorem sizeIK : (Tryz.prog.info? 94).map (·.size) = some 64 := by kernel_rfl
theorem Ob.row {B : Nat} {w : World} {A : Option Addr} {l : List Int} (h : Ob B w.heap.size w A l) (g : Nat) (hg : g < B) (cs : Array Value) : Ob B (w.setRow g cs).heap.size (w.setRow g cs) A l := by
  have hs : (w.setRow g cs).heap.size = w.heap.size := by simp [World.setRow]
  rw [hs]
  rcases h with h | ⟨b, off, h1, h2, h3, h4, h5⟩
  · exact .inl h
  · have e := setRow_other w g b cs (by omega)
    refine .inr ⟨b, off, h1, h2, h3, by rw [hs]; exact h4, fun j hj => ⟨(World.cell?_of_block (a := ⟨b, off + j, none⟩) e).trans (h5 j hj).1, ?_⟩⟩
    have := (h5 j hj).2
    simp only [World.frozen?] at this ⊢
    rw [e]; exact this
def SVal (w0 : World) (l : List Int) (v : Value) (w : World) : Prop :=
  ∃ A cp, v = .slice A l.length cp ∧ Ob w0.heap.size w.heap.size w A l ∧ Below w0.heap.size w0 w ∧ l.length ≤ cp ∧ (cp : Int) ≤ 9223372036854775807
theorem SRes.val {w0 : World} {l : List Int} {e : Ending} {w : World} (h : SRes w0 l e w) : ∃ v, e = .returned v ∧ SVal w0 l v w := by
  obtain ⟨A, cp, rfl, h1, h2, h3, h4⟩ := h
  exact ⟨_, rfl, A, cp, rfl, h1, h2, h3, h4⟩
theorem ub_range0 {w : World} {g : Nat} {t : TypeId} {x y : List Int} (h : Blk w g t (Ub (x ++ y))) : w.rangeAt g 0 (x.map (Value.int .u8)) := by
  intro j v hv
  rw [Nat.zero_add, h.cell j, Ub, List.map_append]
  simp only [List.getElem?_toArray]
  rw [List.getElem?_append_left]
  · exact hv
  · rcases Nat.lt_or_ge j (x.map (Value.int .u8)).length with h | h
    · exact h
    · rw [List.getElem?_eq_none h] at hv; cases hv
theorem ub_range1 {w : World} {g n : Nat} {t : TypeId} {x y : List Int} (h : Blk w g t (Ub (x ++ y))) (hx : x.length = n) : w.rangeAt g n (y.map (Value.int .u8)) := by
  intro j v hv
  rw [h.cell, Ub, List.map_append]
  simp only [List.getElem?_toArray]
  rw [List.getElem?_append_right (by simp; omega)]
  simp only [List.length_map, hx, Nat.add_sub_cancel_left]
  exact hv
set_option maxRecDepth 100000 in
set_option maxHeartbeats 1000000 in
theorem hmac_yes (A B : Option Addr) (l d : List Int) (c1 c2 : Nat) (w : World) (hA : Bs w A l) (hB : Bs w B d) (hl : Bytes l) (hd : Bytes d) (hm : l.length ≤ 200) (hn : d.length ≤ 600) :
    Calls Tryz.prog 40 #[.slice A l.length c1, .slice B d.length c2] w (BRes w 0 (hmL l d)) := by
  obtain ⟨x, hx⟩ : ∃ x, blockK l 54 = x := ⟨_, rfl⟩
  obtain ⟨y, hy⟩ : ∃ y, blockK l 92 = y := ⟨_, rfl⟩
  obtain ⟨Y, hY⟩ : ∃ Y, shaL (x ++ d) = Y := ⟨_, rfl⟩
  obtain ⟨X, hX⟩ : ∃ X, hmL l d = X := ⟨_, rfl⟩
  have hX2 : shaL (y ++ Y) = X := by rw [← hX, hmL, hx, hy, hY]
  rw [hX]
  have xl : x.length = 64 := hx ▸ blockK_len l 54
  have yl : y.length = 64 := hy ▸ blockK_len l 92
  have xb : Bytes x := hx ▸ blockK_bytes hl (by omega)
  have yb : Bytes y := hy ▸ blockK_bytes hl (by omega)
  have Yl : Y.length = 32 := hY ▸ shaL_len' _
  have Yb : Bytes Y := hY ▸ shaL_bytes _
  have hinn := fun (u : World) (hu : Bs u B d) => (inner_any x d Y B c2 u xb xl hu hd hn hY).mono fun _ _ => SRes.val
  have hout := fun (u : World) (A' : Option Addr) (c' : Nat) (hu : Bs u A' Y) => (outer_any y Y X A' c' u yb yl hu Yb (by omega) hX2).mono fun _ _ => SRes.val
  have hkeys := keysOf_any A l c1 (w.alloc (.cells #[.int .i64 0, .slice none 0 0] 48)) (bs_below hA (bal (Below.refl _ w) _)) hl hm
  rw [hx, hy] at hkeys
  have hos := Ub_len (x ++ y)
  rw [show (x ++ y).length = 128 by rw [List.length_append, xl, yl]] at hos
  have ho := Ub_one (x ++ y)
  have hr0 := fun (u : World) (g : Nat) (t : TypeId) (h : Blk u g t (Ub (x ++ y))) => ub_range0 h
  have hr1 := fun (u : World) (g : Nat) (t : TypeId) (h : Blk u g t (Ub (x ++ y))) => ub_range1 h xl
  have hx2 := Ub_len x
  have hy2 := Ub_len y
  have hxe : Ub x = (x.map (Value.int .u8)).toArray := rfl
  have hye : Ub y = (y.map (Value.int .u8)).toArray := rfl
  generalize Ub (x ++ y) = os at *
  obtain ⟨z2, hz2⟩ : ∃ z2, Ub (List.replicate 128 0) = z2 := ⟨_, rfl⟩
  have hz := zero50
  rw [hz2] at hz
  have hzo : z2.size = os.size := by rw [← hz2, Ub_len, hos]; simp
  have hso : (Tryz.prog.info? 97).map (·.size) = some os.size := by rw [hos]; exact size50
  have HZ := hidH hz
  have HF := hidH (And.intro hso (And.intro hzo ho))
  have HXL := hidH xl
  have HYL := hidH yl
  have HI := hidH hinn
  have HO := hidH hout
  have HK := hidH hkeys
  have HR := hidH (And.intro hr0 hr1)
  have HE := hidH (And.intro hxe hye)
  have HB := hidH hB
  have hm1 : (l.length : Int) ≤ 200 := by omega
  have hn1 : (d.length : Int) ≤ 600 := by omega
  clear hx hy hY hX hX2 xb yb Yl Yb hinn hout hkeys hos ho hr0 hr1 hz hzo hso hz2 hA hB hl hd xl yl hx2 hy2 hxe hye
  go_enter Tryz.func40, Tryz.ntmps40
  go_wp2_with fail
  refine HK.out.mono ?_
  rintro e w2 ⟨rfl, b2⟩
  have R0 := Blk.new w 48 #[.int .i64 0, .slice none 0 0]
  have R2 := R0.below b2
  have B2 := btr (bal (Below.refl w.heap.size w) (.cells #[.int .i64 0, .slice none 0 0] 48)) b2
  have hlt2 : w.heap.size < w2.heap.size := R2.lt
  have R3 := R2.alloc (.cells z2 97)
  have B3 := bal B2 (.cells z2 97)
  have K4 : Blk ((w2.alloc (.cells z2 97)).setRow w2.heap.size os) w2.heap.size 97 os := setRow_heap _ _ _ _ _ _ (Blk.new w2 97 z2)
  have R4 : Blk ((w2.alloc (.cells z2 97)).setRow w2.heap.size os) w.heap.size 48 #[.int .i64 0, .slice none 0 0] := (setRow_other (w2.alloc (.cells z2 97)) w2.heap.size w.heap.size os (by omega)).trans R3
  have B4 := below_setRow B3 (g := w2.heap.size) (by omega) os
  obtain ⟨w4, hw4⟩ : ∃ w4, (w2.alloc (.cells z2 97)).setRow w2.heap.size os = w4 := ⟨_, rfl⟩
  rw [hw4] at K4 R4 B4
  have HK4 := hidH K4
  have HR4 := hidH R4
  have HB4 := hidH B4
  have HW4 := hidH hw4
  clear R0 R2 B2 R3 B3 K4 R4 B4 hw4 b2 HK
  go_wp2_with (first | (refine wpList_allocRow rfl 97 rfl _ rfl z2 HZ.out ?_) | (refine wpList_store_rowTo rfl _ _ _ rfl rfl w2.heap.size os rfl rfl 97 _ (heap_alloc_last w2 _) HF.out.1 HF.out.2.1 HF.out.2.2 ?_; rw [HW4.out]))
  refine wp_region_any (by kernel_rfl) ?_
  refine region_inv 9 (fun i => [[], [0], [], [2], [], [3, 4], [1, 5], [6], [0, 1, 2, 3, 4, 5, 6, 7]].getD i [])
    (fun dn a W => ∃ t17 t18 t19 t20 t21 t22 t23 t24, a = { tmps := #[.slice A l.length c1, .slice B d.length c2, undef, undef, .pointer (some ⟨w.heap.size, 0, none⟩), .pointer (some ⟨w2.heap.size, 0, none⟩), .slice A l.length c1, .int .i64 l.length, .bool (decide ((200 : Int) < l.length)), .bool (decide ((200 : Int) < l.length)), .slice B d.length c2, .int .i64 d.length, .bool (decide ((600 : Int) < d.length)), .bool (decide ((200 : Int) < l.length) || decide ((600 : Int) < d.length)), undef, .slice A l.length c1, .agg os, t17, t18, t19, t20, t21, t22, t23, t24], defers := [] } ∧
      Blk W w2.heap.size 97 os ∧ Below w.heap.size w W ∧ Bs W B d ∧ (dn 8 = false → Blk W w.heap.size 48 #[.int .i64 0, .slice none 0 0]) ∧
      (dn 8 = true → ∃ A' c', Blk W w.heap.size 48 #[.int .i64 0, .slice A' X.length c'] ∧ Ob (w.heap.size + 1) W.heap.size W A' X ∧ X.length ≤ c' ∧ (c' : Int) ≤ 9223372036854775807) ∧
      (dn 0 = true → t17 = .pointer (some ⟨w2.heap.size, 64, none⟩)) ∧ (dn 1 = true → t18 = .agg (Ub y)) ∧ (dn 2 = true → t19 = .pointer (some ⟨w2.heap.size, 0, none⟩)) ∧ (dn 3 = true → t20 = .agg (Ub x)) ∧ (dn 4 = true → t21 = .slice B d.length c2) ∧
      (dn 5 = true → ∃ A' c', t22 = .slice A' Y.length c' ∧ Ob (w.heap.size + 1) W.heap.size W A' Y) ∧
      (dn 6 = true → ∃ A' c', t23 = .slice A' X.length c' ∧ Ob (w.heap.size + 1) W.heap.size W A' X ∧ X.length ≤ c' ∧ (c' : Int) ≤ 9223372036854775807) ∧
      (dn 7 = true → ∃ A' c', t24 = .agg #[.int .i64 0, .slice A' X.length c'] ∧ Ob (w.heap.size + 1) W.heap.size W A' X ∧ X.length ≤ c' ∧ (c' : Int) ≤ 9223372036854775807))
    rfl (by kernel_rfl) (by kernel_rfl) ?start ?step ?fin
  case start => exact ⟨undef, undef, undef, undef, undef, undef, undef, undef, rfl, HK4.out.below (Below.refl _ _).drew, HB4.out.drew, bs_below HB.out (HB4.out.drew.mono (by exact Nat.le_refl _)), fun _ => HR4.out.below (Below.refl _ _).drew, fun h => by simp at h, fun h => by simp at h, fun h => by simp at h, fun h => by simp at h, fun h => by simp at h, fun h => by simp at h, fun h => by simp at h, fun h => by simp at h, fun h => by simp at h⟩
  case step =>
    intro i hi dn a W hJ hdn hdep
    obtain ⟨t17, t18, t19, t20, t21, t22, t23, t24, rfl, hK, hB, hD, h8, h8', h0, h1, h2, h3, h4, h5, h6, h7⟩ := hJ
    match i, hi with
    | 0, _ =>
      refine wpOp_plain (by rfl) rfl ?_
      refine wp_fieldAddr 97 _ 1 rfl _ rfl (.pointer (some ⟨w2.heap.size, 64, none⟩)) _ rfl (fat1 W w2.heap.size) ?_
      exact ⟨_, t18, t19, t20, t21, t22, t23, t24, rfl, hK, hB, hD, h8, h8', fun _ => rfl, h1, h2, h3, h4, h5, h6, h7⟩
    | 1, _ =>
      refine wpOp_plain (by rfl) rfl ?_
      obtain rfl := h0 (hdep 0 (by simp))
      refine wp_load_mid 95 _ rfl w2.heap.size 64 rfl (y.map (Value.int .u8)) (.array 64 5) (HR.out.2 _ _ _ hK) (by kernel_rfl) rfl (by rw [List.length_map, HYL.out]; exact sizeOK) ?_
      exact ⟨_, _, t19, t20, t21, t22, t23, t24, rfl, hK, hB, hD, h8, h8', h0, fun _ => rfl, h2, h3, h4, h5, h6, h7⟩
    | 2, _ =>
      refine wpOp_plain (by rfl) rfl ?_
      refine wp_fieldAddr 97 _ 0 rfl _ rfl (.pointer (some ⟨w2.heap.size, 0, none⟩)) _ rfl (fat0 W w2.heap.size) ?_
      exact ⟨t17, t18, _, t20, t21, t22, t23, t24, rfl, hK, hB, hD, h8, h8', h0, h1, fun _ => rfl, h3, h4, h5, h6, h7⟩
    | 3, _ =>
      refine wpOp_plain (by rfl) rfl ?_
      obtain rfl := h2 (hdep 2 (by simp))
      refine wp_load_mid 94 _ rfl w2.heap.size 0 rfl (x.map (Value.int .u8)) (.array 64 5) (HR.out.1 _ _ _ hK) (by kernel_rfl) rfl (by rw [List.length_map, HXL.out]; exact sizeIK) ?_
      exact ⟨t17, t18, _, _, t21, t22, t23, t24, rfl, hK, hB, hD, h8, h8', h0, h1, h2, fun _ => rfl, h4, h5, h6, h7⟩
    | 4, _ =>
      refine wpOp_plain (by rfl) rfl ?_
      refine wp_moveOp _ rfl _ rfl (.slice B d.length c2) rfl ?_
      exact ⟨t17, t18, t19, t20, _, t22, t23, t24, rfl, hK, hB, hD, h8, h8', h0, h1, h2, h3, fun _ => rfl, h5, h6, h7⟩
    | 5, _ =>
      refine wpOp_plain (by rfl) rfl ?_
      obtain rfl := h3 (hdep 3 (by simp))
      obtain rfl := h4 (hdep 4 (by simp))
      refine wp_callAny 61 _ Tryz.func61 (by kernel_rfl) (by kernel_rfl) #[.agg (Ub x), .slice B d.length c2] _ _ rfl (by simp [Act.eval]) _ rfl _ (HI.out W hD) ?_
      rintro v w' ⟨A', c', rfl, o, hb, _, _⟩
      exact ⟨t17, t18, t19, _, _, _, t23, t24, rfl, hK.below hb, btr hB hb, bs_below hD hb, fun h => (h8 h).below hb, fun h => by obtain ⟨A', c', p, q, r, s⟩ := h8' h; exact ⟨A', c', p.below hb, (Ob.below q hb).upto hb.size (Nat.le_refl _), r, s⟩,
        h0, h1, h2, h3, h4, fun _ => ⟨A', c', rfl, o.mono (by have := hK.lt; omega)⟩, fun h => by obtain ⟨A', c', p, q, r, s⟩ := h6 h; exact ⟨A', c', p, (Ob.below q hb).upto hb.size (Nat.le_refl _), r, s⟩, fun h => by obtain ⟨A', c', p, q, r, s⟩ := h7 h; exact ⟨A', c', p, (Ob.below q hb).upto hb.size (Nat.le_refl _), r, s⟩⟩
    | 6, _ =>
      refine wpOp_plain (by rfl) rfl ?_
      obtain rfl := h1 (hdep 1 (by simp))
      obtain ⟨A5, c5, rfl, s5⟩ := h5 (hdep 5 (by simp))
      refine wp_callAny 60 _ Tryz.func60 (by kernel_rfl) (by kernel_rfl) #[.agg (Ub y), .slice A5 Y.length c5] _ _ rfl (by simp [Act.eval]) _ rfl _ (HO.out W A5 c5 s5.bs) ?_
      rintro v w' ⟨A', c', rfl, o, hb, k1, k2⟩
      have hsz := hB.size
      exact ⟨t17, _, t19, t20, t21, _, _, t24, rfl, hK.below hb, btr hB hb, bs_below hD hb, fun h => (h8 h).below hb, fun h => by obtain ⟨A', c', p, q, r, s⟩ := h8' h; exact ⟨A', c', p.below hb, (Ob.below q hb).upto hb.size (Nat.le_refl _), r, s⟩,
        h0, h1, h2, h3, h4, fun _ => ⟨A5, c5, rfl, (Ob.below s5 hb).upto hb.size (Nat.le_refl _)⟩, fun _ => ⟨A', c', rfl, o.mono (by have := hK.lt; omega), k1, k2⟩, fun h => by obtain ⟨A', c', p, q, r, s⟩ := h7 h; exact ⟨A', c', p, (Ob.below q hb).upto hb.size (Nat.le_refl _), r, s⟩⟩
    | 7, _ =>
      refine wpOp_plain (by rfl) rfl ?_
      obtain ⟨A6, c6, rfl, o6, k1, k2⟩ := h6 (hdep 6 (by simp))
      refine wp_buildTo 48 _ rfl _ rfl #[.int .i64 0, .slice A6 X.length c6] ((congrArg (Tryz.prog.built 48) (by simp [Act.eval])).trans (built27 A6 X.length c6)) ?_
      exact ⟨t17, t18, t19, t20, t21, t22, _, _, rfl, hK, hB, hD, h8, h8', h0, h1, h2, h3, h4, h5, h6, fun _ => ⟨A6, c6, rfl, o6, k1, k2⟩⟩
    | 8, _ =>
      refine wpOp_plain (by rfl) rfl ?_
      obtain ⟨A6, c6, rfl, o6, k1, k2⟩ := h7 (hdep 7 (by simp))
      refine wp_store_row 48 _ _ rfl w.heap.size #[.int .i64 0, .slice A6 X.length c6] rfl rfl 48 _ (h8 hdn) size27 rfl (by simp [Value.oneCell']) ?_
      have hBn := below_setRow hB (Nat.le_refl _) #[.int .i64 0, .slice A6 X.length c6]
      refine ⟨t17, t18, t19, t20, t21, t22, t23, _, rfl, (setRow_other W _ _ _ (by omega)).trans hK, hBn, bs_below HB.out hBn, fun h => by simp at h, fun _ => ⟨A6, c6, setRow_heap _ _ _ _ _ _ (h8 hdn), Ob.row o6 _ (Nat.lt_succ_self _) _, k1, k2⟩,
        h0, h1, h2, h3, h4, fun h => by obtain ⟨A', c', p, q⟩ := h5 h; exact ⟨A', c', p, Ob.row q _ (Nat.lt_succ_self _) _⟩, fun h => by obtain ⟨A', c', p, q, r, s⟩ := h6 h; exact ⟨A', c', p, Ob.row q _ (Nat.lt_succ_self _) _, r, s⟩, fun _ => ⟨A6, c6, rfl, Ob.row o6 _ (Nat.lt_succ_self _) _, k1, k2⟩⟩
    | n + 9, h => omega
  case fin =>
    rintro dn a W ⟨t17, t18, t19, t20, t21, t22, t23, t24, rfl, hK, hB, hD, h8, h8', h0, h1, h2, h3, h4, h5, h6, h7⟩ hall
    obtain ⟨A6, c6, hR, o6, k1, k2⟩ := h8' (hall 8 (by omega))
    obtain ⟨fs, hfs⟩ := und27
    go_wp2
    exact bodyPost_ret (v := .agg #[.int .i64 0, .slice A6 X.length c6]) (results_cell_row rfl _ _ w.heap.size 48 _ (0, 0) (.struct fs) rfl hR hfs rfl size27) rfl ⟨A6, c6, rfl, o6.mono (Nat.le_succ _), hB, k1, k2⟩
set_option maxHeartbeats 400000 in
theorem hmac_impl (A B : Option Addr) (l d : List Int) (c1 c2 : Nat) (w : World) (hA : Bs w A l) (hB : Bs w B d) (hl : Bytes l) (hd : Bytes d) (hm : (l.length : Int) ≤ 9223372036854775807) (hn : (d.length : Int) ≤ 9223372036854775807) :
    Calls Tryz.prog 40 #[.slice A l.length c1, .slice B d.length c2] w (BRes w (hmC l d) (hmM l d)) := by
  by_cases h : l.length ≤ 200 ∧ d.length ≤ 600
  · rw [hmC, hmM, if_pos h, if_pos h]
    exact hmac_yes A B l d c1 c2 w hA hB hl hd h.1 h.2
  · rw [hmC, hmM, if_neg h, if_neg h]
    have h1 : (200 : Int) < (l.length : Int) ∨ (600 : Int) < (d.length : Int) := by omega
    clear h hA hB hl hd
    by_cases h2 : (200 : Int) < (l.length : Int)
    · clear h1
      go_enter Tryz.func40, Tryz.ntmps40
      go_wp2
      exact bodyPost_ret (v := .agg #[.int .i64 2, .slice none 0 0]) (by simp [results, Tryz.results40, go_sem]) rfl ⟨_, _, rfl, .inl rfl, bal (Below.refl _ _) _, Nat.le_refl _, by omega⟩
    · have h3 : (600 : Int) < (d.length : Int) := by omega
      clear h1
      go_enter Tryz.func40, Tryz.ntmps40
      go_wp2
      exact bodyPost_ret (v := .agg #[.int .i64 2, .slice none 0 0]) (by simp [results, Tryz.results40, go_sem]) rfl ⟨_, _, rfl, .inl rfl, bal (Below.refl _ _) _, Nat.le_refl _, by omega⟩
end Go.Proofs.YtncnibkojneejaaGreatDoor

/- Chapter 7: the program's digestOf. -/
namespace Go.Proofs.YtncnibkojneejaaGreatDoor
open Go.RowKit Go.Deep

def dgL (id : Int) (key : List Int) (r : List ChunkM) : List Int := if mtF id r = 0 then hmL key (txtL id r) else []
def DgR (id : Int) (key : List Int) (r : List ChunkM) (w : World) (e : Ending) (w' : World) : Prop :=
  ∃ (A : Option Addr) (c : Nat), e = .returned (.agg #[.int .i64 (mtF id r), .slice A (dgL id key r).length c]) ∧ Bs w' A (dgL id key r) ∧ Below w.heap.size w w'
set_option maxRecDepth 100000 in
set_option maxHeartbeats 4000000 in
theorem digestOf_any (id : Int) (key : List Int) (vk : Value) (r : List ChunkM) (v : Value) (u : World) (hw : WfV (.int id)) (hk : Rd u (.bs key) vk) (hkb : Bytes key) (h200 : key.length ≤ 200) (h : Rd u (st_Chunk r) v) (hcb : WfV (st_Chunk r)) (ht : tot (st_Chunk r) ≤ 1048576) :
    Calls Tryz.prog 20 #[.int .i64 id, vk, v] u (DgR id key r u) := by
  have R0 := Blk.new u 48 #[.int .i64 0, .slice none 0 0]
  have b0 := bal (Below.refl u.heap.size u) (.cells #[.int .i64 0, .slice none 0 0] 48)
  obtain ⟨w0, hw0⟩ : ∃ w0, u.alloc (.cells #[.int .i64 0, .slice none 0 0] 48) = w0 := ⟨_, rfl⟩
  rw [hw0] at R0 b0
  have HK := hidH (fun (w : World) (hb : Below u.heap.size u w) => Rd.below hb _ hk)
  have HW := hidH hw0
  have HR := hidH R0
  have HB := hidH b0
  have HKB := hidH (And.intro hkb h200)
  have HCB := hidH (st_Chunk_bytes hcb)
  have HMT := hidH (mt_impl id r v w0 hw (Rd.below b0 _ h) hcb ht)
  obtain ⟨PK, ck, rfl⟩ := hk.bs_sh
  clear hw0 R0 b0 h hk hkb hcb ht hw h200
  by_cases hz : mtF id r = 0
  · rw [mtR_ok hz] at HMT
    have hd : dgL id key r = hmL key (txtL id r) := by rw [dgL, if_pos hz]
    have HT5 := hidH (mtF_zero hz).2.2
    have HTB := hidH (txtTo_bytes (mtF_zero hz).1.1 (by have := (mtF_zero hz).1.2; omega) (cmsF_ok (csF_zero (mtF_zero hz).2.1).2) HCB.out r.length)
    obtain ⟨L, hL⟩ : ∃ L, txtL id r = L := ⟨_, rfl⟩
    have e0 : txtTo id r r.length = L := hL
    rw [e0] at HTB
    rw [hL] at HMT HT5 hd
    have hM : hmM key L = hmL key L := by rw [hmM, if_pos ⟨HKB.out.2, by have := HT5.out; omega⟩]
    have hC : hmC key L = 0 := by rw [hmC, if_pos ⟨HKB.out.2, by have := HT5.out; omega⟩]
    have HIM := hidH (fun (A : Option Addr) (c : Nat) (w : World) (hb : Below u.heap.size u w) (hB : Bs w A L) => hmac_impl PK A key L ck c w (rdB (HK.out w hb)) hB HKB.out.1 HTB.out (by have := HKB.out.2; omega) (by have := HT5.out; omega))
    rw [hM, hC] at HIM
    unfold DgR
    rw [hd, hz]
    obtain ⟨D, hD⟩ : ∃ D, hmL key L = D := ⟨_, rfl⟩
    rw [hD] at HIM ⊢
    clear hL e0 hd hM hC hD hz
    go_enter Tryz.func20, Tryz.ntmps20
    go_wp2_with fail
    rw [HW.out]
    refine HMT.out.mono ?_
    rintro e w1 ⟨vs, rfl, O1, b1⟩
    obtain ⟨A1, c1, rfl⟩ := shape_BytesResult O1.rd
    have ba := bal (Below.refl w1.heap.size w1) (.cells #[.int .i64 0, .slice A1 L.length c1] 48)
    have KT := hidH (Blk.new w1 48 #[.int .i64 0, .slice A1 L.length c1])
    have HB1 := hidH (btr (btr HB.out b1) ba)
    have HR1 := hidH ((HR.out.below b1).below ba)
    have HO1 := hidH (rdB (RdA.hd (RdA.tl (O1.below ba).rd)))
    obtain ⟨y0, y1, yz⟩ := KT.out.two
    have hlt := KT.out.lt
    clear O1 b1 ba HMT
    go_wp2_with fail
    refine (HIM.out A1 c1 _ HB1.out HO1.out).mono ?_
    rintro e w2 ⟨A2, c2, rfl, ob2, b2, _, _⟩
    have HB2 := hidH (btr HB1.out b2)
    have R2 := HR1.out.below b2
    obtain ⟨x0, x1, xz⟩ := R2.two
    have f0 := R2.frozen 0
    have f1 := R2.frozen 1
    have HO2 := hidH (ob2.mono (B' := u.heap.size + 1) (by have := HR1.out.lt; omega))
    clear ob2 b2 R2 HIM y0 y1 yz
    go_wp2
    exact bodyPost_ret (v := .agg #[.int .i64 0, .slice A2 D.length c2]) (by simp [results, Tryz.results20, go_sem, x0, x1]) rfl ⟨A2, c2, rfl, ((HO2.out.setCell (p := ⟨u.heap.size, 0, none⟩) (Nat.lt_succ_self _) _).setCell (p := ⟨u.heap.size, 1, none⟩) (Nat.lt_succ_self _) _).bs, bst (bst HB2.out (Nat.le_refl _) _) (Nat.le_refl _) _⟩
  · rw [mtR_no hz] at HMT
    have hd : dgL id key r = [] := by rw [dgL, if_neg hz]
    unfold DgR
    rw [hd]
    obtain ⟨F, hF⟩ : ∃ F, mtF id r = F := ⟨_, rfl⟩
    rw [hF] at HMT hz ⊢
    have q : (F != 0) = true := by rw [bne_iff_ne]; exact hz
    clear hd hF hz
    go_enter Tryz.func20, Tryz.ntmps20
    go_wp2_with fail
    rw [HW.out]
    refine HMT.out.mono ?_
    rintro e w1 ⟨vs, rfl, O1, b1⟩
    obtain ⟨A1, c1, rfl⟩ := shape_BytesResult O1.rd
    have ba := bal (Below.refl w1.heap.size w1) (.cells #[.int .i64 F, .slice A1 0 c1] 48)
    have KT := hidH (Blk.new w1 48 #[.int .i64 F, .slice A1 0 c1])
    have HB1 := hidH (btr (btr HB.out b1) ba)
    have HR1 := hidH ((HR.out.below b1).below ba)
    obtain ⟨y0, y1, yz⟩ := KT.out.two
    have hlt := KT.out.lt
    obtain ⟨x0, x1, xz⟩ := HR1.out.two
    have f0 := HR1.out.frozen 0
    have f1 := HR1.out.frozen 1
    clear O1 b1 ba HMT
    go_wp2
    exact bodyPost_ret (v := .agg #[.int .i64 F, .slice A1 0 c1]) (by simp [results, Tryz.results20, go_sem, x0, x1]) rfl ⟨A1, c1, rfl, .inl rfl, bst (bst HB1.out (Nat.le_refl _) _) (Nat.le_refl _) _⟩
end Go.Proofs.YtncnibkojneejaaGreatDoor
