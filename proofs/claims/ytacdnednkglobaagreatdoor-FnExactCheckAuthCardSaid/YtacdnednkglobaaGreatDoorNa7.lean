import Derived.Test.YtacdnednkglobaaGreatDoorNa6
import Derived.Test.YtacdnednkglobaaGreatDoorRegInv
import Derived.Test.YtacdnednkglobaaGreatDoorLawKit0
import Derived.Test.YtacdnednkglobaaGreatDoorNa5
import Derived.Test.YtacdnednkglobaaGreatDoorSame
import Derived.Test.YtacdnednkglobaaGreatDoorBytes
import Derived.Test.YtacdnednkglobaaGreatDoorNa3
import Derived.Laws.BitsAllLaws

/- The program's keysOf: both keys of one, by an invariant over its region that draws its order. -/
namespace Go.Proofs.YtacdnednkglobaaGreatDoor
open Go.RowKit Go.Deep

theorem wp_buildTo {P : Program} {o : Oper} {a : Act} {w : World} {K : Act → World → Prop} {Q : Exit → Act → World → Prop} (t : TypeId) (parts : Array (Nat × Operand)) (ho : o.op = .build t parts) (dst : Option Tmp) (hd : o.dst = dst)
    (cells : Array Value) (hf : P.built t (parts.map fun (i, x) => (i, a.eval x)).toList = some cells) (h : K (a.put dst (.agg cells)) w) : o.wp P a w K Q := by
  subst hd
  refine wp_build t parts ho (by rw [hf]; rfl) ?_
  rw [hf]
  exact h
theorem zero50 : (Tryz.prog.info? 203).bind (·.zero) = some (.agg (Ub (List.replicate 128 0))) := by kernel_rfl
theorem size50 : (Tryz.prog.info? 203).map (·.size) = some 128 := by kernel_rfl
theorem und50 : ∃ fs, Tryz.prog.underlying 203 = some (.struct fs) := by
  have h : (match Tryz.prog.underlying 203 with | some (.struct _) => true | _ => false) = true := by kernel_rfl
  split at h
  · next fs e => exact ⟨fs, e⟩
  · cases h
theorem built50 (x y : List Int) (hx : x.length = 64) (hy : y.length = 64) : Tryz.prog.built 203 [(0, .agg (Ub x)), (1, .agg (Ub y))] = some (Ub (x ++ y)) := by
  have h := Great.fill_whole (s := 64) (by omega) [.agg (Ub x), .agg (Ub y)] (Ub (List.replicate 128 0)) (by
    intro v hv
    simp only [List.mem_cons, List.not_mem_nil, or_false] at hv
    rcases hv with rfl | rfl
    · exact (Ub_len x).trans hx
    · exact (Ub_len y).trans hy) (by rw [Ub_len]; simp)
  have e : Tryz.prog.built 203 [(0, .agg (Ub x)), (1, .agg (Ub y))] = Instr.fill (fun i => some (i * 64, 64)) (Ub (List.replicate 128 0)) (([Value.agg (Ub x), Value.agg (Ub y)].zipIdx 0).map fun x => (x.2, x.1)) := by kernel_rfl
  rw [e, h]
  simp [Ub, Value.cells]
set_option maxRecDepth 100000 in
set_option maxHeartbeats 1000000 in
theorem keysOf_any (A : Option Addr) (l : List Int) (c : Nat) (w : World) (hA : Bs w A l) (hl : Bytes l) (hm : l.length ≤ 200) :
    Calls Tryz.prog 143 #[.slice A l.length c] w fun e w' => e = .returned (.agg (Ub (blockK l 54 ++ blockK l 92))) ∧ Below w.heap.size w w' := by
  obtain ⟨z2, hz2⟩ : ∃ z2, Ub (List.replicate 128 0) = z2 := ⟨_, rfl⟩
  obtain ⟨zs, hzs⟩ : ∃ zs, Ub (List.replicate 64 0) = zs := ⟨_, rfl⟩
  have hz := zero63
  have hy := zero50
  rw [hzs] at hz
  rw [hz2] at hy
  have HZ := hidH hz
  have HY := hidH hy
  clear hz hy
  have hA2 := bs_below hA (bal (Below.refl _ w) (.cells z2 203))
  have hkey := key_any A l c _ hA2 hl hm
  have R0 := Blk.new w 203 z2
  have B0 := bal (Below.refl w.heap.size w) (.cells z2 203)
  obtain ⟨w1, hw1⟩ : ∃ w1, w.alloc (.cells z2 203) = w1 := ⟨_, rfl⟩
  rw [hw1] at hA2 hkey R0 B0
  have kl : (padZ (keyK l)).length = 64 := by have := keyK_len l; simp [padZ]; omega
  have kb : Bytes (padZ (keyK l)) := by
    intro x hx
    rcases List.mem_append.1 hx with h | h
    · exact keyK_bytes hl x h
    · obtain ⟨_, rfl⟩ := List.mem_replicate.1 h; omega
  have m1 := fun w => masked_any (padZ (keyK l)) 54 w kb kl (by omega) (by omega)
  have m2 := fun w => masked_any (padZ (keyK l)) 92 w kb kl (by omega) (by omega)
  have hb := built50 (blockK l 54) (blockK l 92) (blockK_len _ _) (blockK_len _ _)
  have hs128 : (blockK l 54 ++ blockK l 92).length = 128 := by rw [List.length_append, blockK_len, blockK_len]
  rw [show (padZ (keyK l)).map (byteX (54 : Int).toNat) = blockK l 54 from rfl] at m1
  rw [show (padZ (keyK l)).map (byteX (92 : Int).toNat) = blockK l 92 from rfl] at m2
  have ho := Ub_one (blockK l 54 ++ blockK l 92)
  have hos := Ub_len (blockK l 54 ++ blockK l 92)
  rw [hs128] at hos
  have hks := Ub_len (padZ (keyK l))
  rw [kl] at hks
  have hko := Ub_one (padZ (keyK l))
  generalize Ub (blockK l 54 ++ blockK l 92) = os at *
  generalize Ub (padZ (keyK l)) = ks at *
  generalize Ub (blockK l 54) = i1 at *
  generalize Ub (blockK l 92) = i2 at *
  have HKEY := hidH hkey
  have HS := hidH hA2
  have HR := hidH R0
  have HB := hidH B0
  have HW1 := hidH hw1
  have hlt : w.heap.size < w1.heap.size := R0.lt
  have hzk : zs.size = ks.size := by rw [← hzs, Ub_len, hks]; simp
  have hsk : (Tryz.prog.info? 226).map (·.size) = some ks.size := by rw [hks]; exact size63
  have hz2o : z2.size = os.size := by rw [← hz2, Ub_len, hos]; simp
  have hso : (Tryz.prog.info? 203).map (·.size) = some os.size := by rw [hos]; exact size50
  have HF := hidH (And.intro hko (And.intro hzk (And.intro hsk (And.intro hz2o (And.intro hso (And.intro ho hb))))))
  have HM1 := hidH m1
  have HM2 := hidH m2
  clear hkey hA2 R0 B0 hw1 hA kl kb m1 m2 hb hs128 ho hos hks hko hzk hsk hz2o hso hz2 hzs
  go_enter Tryz.func143, Tryz.ntmps143
  go_wp2_with (first | (refine wpList_allocRow rfl 203 rfl _ rfl z2 HY.out ?_; rw [HW1.out]))
  refine HKEY.out.mono ?_
  rintro e w2 ⟨rfl, b2⟩
  have HR2 := HR.out.below b2
  have HB2 := btr HB.out b2
  have hlt2 : w.heap.size < w2.heap.size := HR2.lt
  have K3 := Blk.new w2 226 zs
  have R3 := HR2.alloc (.cells zs 226)
  have B3 := bal HB2 (.cells zs 226)
  have K4 : Blk ((w2.alloc (.cells zs 226)).setRow w2.heap.size ks) w2.heap.size 226 ks := setRow_heap _ _ _ _ _ _ K3
  have R4 : Blk ((w2.alloc (.cells zs 226)).setRow w2.heap.size ks) w.heap.size 203 z2 := (setRow_other (w2.alloc (.cells zs 226)) w2.heap.size w.heap.size ks (by omega)).trans R3
  have B4 := below_setRow B3 (g := w2.heap.size) (by omega) ks
  obtain ⟨w4, hw4⟩ : ∃ w4, (w2.alloc (.cells zs 226)).setRow w2.heap.size ks = w4 := ⟨_, rfl⟩
  rw [hw4] at K4 R4 B4
  have HK4 := hidH K4
  have HR4 := hidH R4
  have HB4 := hidH B4
  have HW4 := hidH hw4
  clear HR2 HB2 K3 R3 B3 K4 R4 B4 hw4 b2 HKEY HS HR HB hlt
  go_wp2_with (first | (refine wpList_allocRow rfl 226 rfl _ rfl zs HZ.out ?_) | (refine wpList_store_rowTo rfl _ _ _ rfl rfl w2.heap.size ks rfl rfl 226 _ (heap_alloc_last w2 _) HF.out.2.2.1 HF.out.2.1 HF.out.1 ?_; rw [HW4.out]))
  refine wp_region_any (by kernel_rfl) ?_
  refine region_inv 6 (fun i => [[], [0], [], [2], [1, 3], [0, 1, 2, 3, 4]].getD i [])
    (fun d a W => ∃ t6 t7 t8 t9 t10, a = { tmps := #[.slice A l.length c, undef, .pointer (some ⟨w.heap.size, 0, none⟩), .pointer (some ⟨w2.heap.size, 0, none⟩), .slice A l.length c, .agg ks, t6, t7, t8, t9, t10], defers := [] } ∧
      Blk W w2.heap.size 226 ks ∧ Below w.heap.size w W ∧ (d 5 = false → Blk W w.heap.size 203 z2) ∧ (d 5 = true → Blk W w.heap.size 203 os) ∧
      (d 0 = true → t6 = .agg ks) ∧ (d 1 = true → t7 = .agg i1) ∧ (d 2 = true → t8 = .agg ks) ∧ (d 3 = true → t9 = .agg i2) ∧ (d 4 = true → t10 = .agg os))
    rfl (by kernel_rfl) (by kernel_rfl) ?start ?step ?fin
  case start => exact ⟨undef, undef, undef, undef, undef, rfl, HK4.out.below (Below.refl _ _).drew, HB4.out.drew, fun _ => HR4.out.below (Below.refl _ _).drew, fun h => by simp at h, fun h => by simp at h, fun h => by simp at h, fun h => by simp at h, fun h => by simp at h, fun h => by simp at h⟩
  case step =>
    intro i hi d a W hJ hd hdep
    obtain ⟨t6, t7, t8, t9, t10, rfl, hK, hB, h5, h5', h0, h1, h2, h3, h4⟩ := hJ
    match i, hi with
    | 0, _ =>
      refine wpOp_plain (by rfl) rfl ?_
      refine wp_load_row 226 _ rfl w2.heap.size rfl 226 ks (0, 0) (.array 64 5) hK (by kernel_rfl) rfl HF.out.2.2.1 ?_
      exact ⟨_, t7, t8, t9, t10, rfl, hK, hB, h5, h5', fun _ => rfl, h1, h2, h3, h4⟩
    | 1, _ =>
      refine wpOp_plain (by rfl) rfl ?_
      obtain rfl := h0 (hdep 0 (by simp))
      refine wp_callOp 163 _ Tryz.func163 (by kernel_rfl) (by kernel_rfl) #[.agg ks, .int .u8 54] _ _ rfl (by simp [Act.eval]) _ rfl (.agg i1) _ (HM1.out W) (fun w' hb => ?_)
      exact ⟨_, _, t8, t9, t10, rfl, hK.below hb, btr hB hb, fun h => (h5 h).below hb, fun h => (h5' h).below hb, h0, fun _ => rfl, h2, h3, h4⟩
    | 2, _ =>
      refine wpOp_plain (by rfl) rfl ?_
      refine wp_load_row 226 _ rfl w2.heap.size rfl 226 ks (0, 0) (.array 64 5) hK (by kernel_rfl) rfl HF.out.2.2.1 ?_
      exact ⟨t6, t7, _, t9, t10, rfl, hK, hB, h5, h5', h0, h1, fun _ => rfl, h3, h4⟩
    | 3, _ =>
      refine wpOp_plain (by rfl) rfl ?_
      obtain rfl := h2 (hdep 2 (by simp))
      refine wp_callOp 163 _ Tryz.func163 (by kernel_rfl) (by kernel_rfl) #[.agg ks, .int .u8 92] _ _ rfl (by simp [Act.eval]) _ rfl (.agg i2) _ (HM2.out W) (fun w' hb => ?_)
      exact ⟨t6, t7, _, _, t10, rfl, hK.below hb, btr hB hb, fun h => (h5 h).below hb, fun h => (h5' h).below hb, h0, h1, h2, fun _ => rfl, h4⟩
    | 4, _ =>
      refine wpOp_plain (by rfl) rfl ?_
      obtain rfl := h1 (hdep 1 (by simp))
      obtain rfl := h3 (hdep 3 (by simp))
      refine wp_buildTo 203 _ rfl _ rfl os ((congrArg (Tryz.prog.built 203) (by simp [Act.eval])).trans HF.out.2.2.2.2.2.2) ?_
      exact ⟨t6, _, t8, _, _, rfl, hK, hB, h5, h5', h0, h1, h2, h3, fun _ => rfl⟩
    | 5, _ =>
      refine wpOp_plain (by rfl) rfl ?_
      obtain rfl := h4 (hdep 4 (by simp))
      refine wp_store_row 203 _ _ rfl w.heap.size os rfl rfl 203 z2 (h5 hd) HF.out.2.2.2.2.1 HF.out.2.2.2.1 HF.out.2.2.2.2.2.1 ?_
      exact ⟨t6, t7, t8, t9, _, rfl, (setRow_other W _ _ os (by omega)).trans hK, below_setRow hB (Nat.le_refl _) os, fun h => by simp at h, fun _ => setRow_heap _ _ _ _ _ _ (h5 hd), h0, h1, h2, h3, h4⟩
    | n + 6, h => omega
  case fin =>
    rintro d a W ⟨t6, t7, t8, t9, t10, rfl, hK, hB, h5, h5', h0, h1, h2, h3, h4⟩ hall
    have hR := h5' (hall 5 (by omega))
    obtain ⟨fs, hfs⟩ := und50
    go_wp2
    exact bodyPost_ret (v := .agg os) (results_cell_row rfl _ _ w.heap.size 203 _ (0, 0) (.struct fs) rfl hR hfs rfl HF.out.2.2.2.2.1) rfl ⟨rfl, hB⟩
end Go.Proofs.YtacdnednkglobaaGreatDoor

/- Copies whose address is left open, for the exact laws. -/
namespace Go.Proofs.YtacdnednkglobaaGreatDoor
open Go.RowKit Go.Deep

theorem padM_le (l : List Int) : ((padM l).length : Int) ≤ 100000 := by
  unfold padM; split
  · rw [padL_len]; unfold zerosN; omega
  · simp
theorem schM_le (l : List Int) : ((schM l).length : Int) ≤ 100000 := by
  unfold schM; split
  · rw [ci_len, schedN, schedTo_len]; omega
  · simp
theorem comM_le (s l : List Int) : ((comM s l).length : Int) ≤ 100000 := by
  unfold comM; split
  · split
    · rw [ci_len]; simp [compN]
    · simp
  · simp
end Go.Proofs.YtacdnednkglobaaGreatDoor

/- The program's HmacSha, by an invariant over its region that draws its order. -/
namespace Go.Proofs.YtacdnednkglobaaGreatDoor
open Go.RowKit Go.Deep

theorem und27 : ∃ fs, Tryz.prog.underlying 131 = some (.struct fs) := by
  have h : (match Tryz.prog.underlying 131 with | some (.struct _) => true | _ => false) = true := by kernel_rfl
  split at h
  · next fs e => exact ⟨fs, e⟩
  · cases h
theorem size27 : (Tryz.prog.info? 131).map (·.size) = some 2 := by kernel_rfl
theorem built27 (A : Option Addr) (n c : Nat) : Tryz.prog.built 131 [(1, .slice A n c)] = some #[.int .i64 0, .slice A n c] := by kernel_rfl
theorem fat1 (u : World) (b : Nat) : (Instr.fieldAt 203 (.pointer (some ⟨b, 0, none⟩)) 1).run Tryz.prog u = .ok (.pointer (some ⟨b, 64, none⟩)) u := by kernel_rfl
theorem fat0 (u : World) (b : Nat) : (Instr.fieldAt 203 (.pointer (some ⟨b, 0, none⟩)) 0).run Tryz.prog u = .ok (.pointer (some ⟨b, 0, none⟩)) u := by kernel_rfl
theorem sizeOK : (Tryz.prog.info? 201).map (·.size) = some 64 := by kernel_rfl
theorem sizeIK : (Tryz.prog.info? 200).map (·.size) = some 64 := by kernel_rfl
theorem Ob.row {B : Nat} {w : World} {A : Option Addr} {l : List Int} (h : Ob B w.heap.size w A l) (g : Nat) (hg : g < B) (cs : Array Value) : Ob B (w.setRow g cs).heap.size (w.setRow g cs) A l := by
  have hs : (w.setRow g cs).heap.size = w.heap.size := by simp [World.setRow]
  rw [hs]
  rcases h with h | ⟨b, off, h1, h2, h3, h4, h5⟩
  · exact .inl h
  · have e := setRow_other w g b cs (by omega)
    refine .inr ⟨b, off, h1, h2, h3, by rw [hs]; exact h4, fun j hj => ⟨(World.cell?_of_block (a := ⟨b, off + j, none⟩) e).trans (h5 j hj).1, ?_⟩⟩
    have := (h5 j hj).2
    simp only [World.frozen?] at this ⊢
    rw [e]; exact this
def SVal (w0 : World) (l : List Int) (v : Value) (w : World) : Prop :=
  ∃ A cp, v = .slice A l.length cp ∧ Ob w0.heap.size w.heap.size w A l ∧ Below w0.heap.size w0 w ∧ l.length ≤ cp ∧ (cp : Int) ≤ 9223372036854775807
theorem SRes.val {w0 : World} {l : List Int} {e : Ending} {w : World} (h : SRes w0 l e w) : ∃ v, e = .returned v ∧ SVal w0 l v w := by
  obtain ⟨A, cp, rfl, h1, h2, h3, h4⟩ := h
  exact ⟨_, rfl, A, cp, rfl, h1, h2, h3, h4⟩
theorem ub_range0 {w : World} {g : Nat} {t : TypeId} {x y : List Int} (h : Blk w g t (Ub (x ++ y))) : w.rangeAt g 0 (x.map (Value.int .u8)) := by
  intro j v hv
  rw [Nat.zero_add, h.cell j, Ub, List.map_append]
  simp only [List.getElem?_toArray]
  rw [List.getElem?_append_left]
  · exact hv
  · rcases Nat.lt_or_ge j (x.map (Value.int .u8)).length with h | h
    · exact h
    · rw [List.getElem?_eq_none h] at hv; cases hv
theorem ub_range1 {w : World} {g n : Nat} {t : TypeId} {x y : List Int} (h : Blk w g t (Ub (x ++ y))) (hx : x.length = n) : w.rangeAt g n (y.map (Value.int .u8)) := by
  intro j v hv
  rw [h.cell, Ub, List.map_append]
  simp only [List.getElem?_toArray]
  rw [List.getElem?_append_right (by simp; omega)]
  simp only [List.length_map, hx, Nat.add_sub_cancel_left]
  exact hv
set_option maxRecDepth 100000 in
set_option maxHeartbeats 1000000 in
theorem hmac_yes (A B : Option Addr) (l d : List Int) (c1 c2 : Nat) (w : World) (hA : Bs w A l) (hB : Bs w B d) (hl : Bytes l) (hd : Bytes d) (hm : l.length ≤ 200) (hn : d.length ≤ 600) :
    Calls Tryz.prog 114 #[.slice A l.length c1, .slice B d.length c2] w (BRes w 0 (hmL l d)) := by
  obtain ⟨x, hx⟩ : ∃ x, blockK l 54 = x := ⟨_, rfl⟩
  obtain ⟨y, hy⟩ : ∃ y, blockK l 92 = y := ⟨_, rfl⟩
  obtain ⟨Y, hY⟩ : ∃ Y, shaL (x ++ d) = Y := ⟨_, rfl⟩
  obtain ⟨X, hX⟩ : ∃ X, hmL l d = X := ⟨_, rfl⟩
  have hX2 : shaL (y ++ Y) = X := by rw [← hX, hmL, hx, hy, hY]
  rw [hX]
  have xl : x.length = 64 := hx ▸ blockK_len l 54
  have yl : y.length = 64 := hy ▸ blockK_len l 92
  have xb : Bytes x := hx ▸ blockK_bytes hl (by omega)
  have yb : Bytes y := hy ▸ blockK_bytes hl (by omega)
  have Yl : Y.length = 32 := hY ▸ shaL_len' _
  have Yb : Bytes Y := hY ▸ shaL_bytes _
  have hinn := fun (u : World) (hu : Bs u B d) => (inner_any x d Y B c2 u xb xl hu hd hn hY).mono fun _ _ => SRes.val
  have hout := fun (u : World) (A' : Option Addr) (c' : Nat) (hu : Bs u A' Y) => (outer_any y Y X A' c' u yb yl hu Yb (by omega) hX2).mono fun _ _ => SRes.val
  have hkeys := keysOf_any A l c1 (w.alloc (.cells #[.int .i64 0, .slice none 0 0] 131)) (bs_below hA (bal (Below.refl _ w) _)) hl hm
  rw [hx, hy] at hkeys
  have hos := Ub_len (x ++ y)
  rw [show (x ++ y).length = 128 by rw [List.length_append, xl, yl]] at hos
  have ho := Ub_one (x ++ y)
  have hr0 := fun (u : World) (g : Nat) (t : TypeId) (h : Blk u g t (Ub (x ++ y))) => ub_range0 h
  have hr1 := fun (u : World) (g : Nat) (t : TypeId) (h : Blk u g t (Ub (x ++ y))) => ub_range1 h xl
  have hx2 := Ub_len x
  have hy2 := Ub_len y
  have hxe : Ub x = (x.map (Value.int .u8)).toArray := rfl
  have hye : Ub y = (y.map (Value.int .u8)).toArray := rfl
  generalize Ub (x ++ y) = os at *
  obtain ⟨z2, hz2⟩ : ∃ z2, Ub (List.replicate 128 0) = z2 := ⟨_, rfl⟩
  have hz := zero50
  rw [hz2] at hz
  have hzo : z2.size = os.size := by rw [← hz2, Ub_len, hos]; simp
  have hso : (Tryz.prog.info? 203).map (·.size) = some os.size := by rw [hos]; exact size50
  have HZ := hidH hz
  have HF := hidH (And.intro hso (And.intro hzo ho))
  have HXL := hidH xl
  have HYL := hidH yl
  have HI := hidH hinn
  have HO := hidH hout
  have HK := hidH hkeys
  have HR := hidH (And.intro hr0 hr1)
  have HE := hidH (And.intro hxe hye)
  have HB := hidH hB
  have hm1 : (l.length : Int) ≤ 200 := by omega
  have hn1 : (d.length : Int) ≤ 600 := by omega
  clear hx hy hY hX hX2 xb yb Yl Yb hinn hout hkeys hos ho hr0 hr1 hz hzo hso hz2 hA hB hl hd xl yl hx2 hy2 hxe hye
  go_enter Tryz.func114, Tryz.ntmps114
  go_wp2_with fail
  refine HK.out.mono ?_
  rintro e w2 ⟨rfl, b2⟩
  have R0 := Blk.new w 131 #[.int .i64 0, .slice none 0 0]
  have R2 := R0.below b2
  have B2 := btr (bal (Below.refl w.heap.size w) (.cells #[.int .i64 0, .slice none 0 0] 131)) b2
  have hlt2 : w.heap.size < w2.heap.size := R2.lt
  have R3 := R2.alloc (.cells z2 203)
  have B3 := bal B2 (.cells z2 203)
  have K4 : Blk ((w2.alloc (.cells z2 203)).setRow w2.heap.size os) w2.heap.size 203 os := setRow_heap _ _ _ _ _ _ (Blk.new w2 203 z2)
  have R4 : Blk ((w2.alloc (.cells z2 203)).setRow w2.heap.size os) w.heap.size 131 #[.int .i64 0, .slice none 0 0] := (setRow_other (w2.alloc (.cells z2 203)) w2.heap.size w.heap.size os (by omega)).trans R3
  have B4 := below_setRow B3 (g := w2.heap.size) (by omega) os
  obtain ⟨w4, hw4⟩ : ∃ w4, (w2.alloc (.cells z2 203)).setRow w2.heap.size os = w4 := ⟨_, rfl⟩
  rw [hw4] at K4 R4 B4
  have HK4 := hidH K4
  have HR4 := hidH R4
  have HB4 := hidH B4
  have HW4 := hidH hw4
  clear R0 R2 B2 R3 B3 K4 R4 B4 hw4 b2 HK
  go_wp2_with (first | (refine wpList_allocRow rfl 203 rfl _ rfl z2 HZ.out ?_) | (refine wpList_store_rowTo rfl _ _ _ rfl rfl w2.heap.size os rfl rfl 203 _ (heap_alloc_last w2 _) HF.out.1 HF.out.2.1 HF.out.2.2 ?_; rw [HW4.out]))
  refine wp_region_any (by kernel_rfl) ?_
  refine region_inv 9 (fun i => [[], [0], [], [2], [], [3, 4], [1, 5], [6], [0, 1, 2, 3, 4, 5, 6, 7]].getD i [])
    (fun dn a W => ∃ t17 t18 t19 t20 t21 t22 t23 t24, a = { tmps := #[.slice A l.length c1, .slice B d.length c2, undef, undef, .pointer (some ⟨w.heap.size, 0, none⟩), .pointer (some ⟨w2.heap.size, 0, none⟩), .slice A l.length c1, .int .i64 l.length, .bool (decide ((200 : Int) < l.length)), .bool (decide ((200 : Int) < l.length)), .slice B d.length c2, .int .i64 d.length, .bool (decide ((600 : Int) < d.length)), .bool (decide ((200 : Int) < l.length) || decide ((600 : Int) < d.length)), undef, .slice A l.length c1, .agg os, t17, t18, t19, t20, t21, t22, t23, t24], defers := [] } ∧
      Blk W w2.heap.size 203 os ∧ Below w.heap.size w W ∧ Bs W B d ∧ (dn 8 = false → Blk W w.heap.size 131 #[.int .i64 0, .slice none 0 0]) ∧
      (dn 8 = true → ∃ A' c', Blk W w.heap.size 131 #[.int .i64 0, .slice A' X.length c'] ∧ Ob (w.heap.size + 1) W.heap.size W A' X ∧ X.length ≤ c' ∧ (c' : Int) ≤ 9223372036854775807) ∧
      (dn 0 = true → t17 = .pointer (some ⟨w2.heap.size, 64, none⟩)) ∧ (dn 1 = true → t18 = .agg (Ub y)) ∧ (dn 2 = true → t19 = .pointer (some ⟨w2.heap.size, 0, none⟩)) ∧ (dn 3 = true → t20 = .agg (Ub x)) ∧ (dn 4 = true → t21 = .slice B d.length c2) ∧
      (dn 5 = true → ∃ A' c', t22 = .slice A' Y.length c' ∧ Ob (w.heap.size + 1) W.heap.size W A' Y) ∧
      (dn 6 = true → ∃ A' c', t23 = .slice A' X.length c' ∧ Ob (w.heap.size + 1) W.heap.size W A' X ∧ X.length ≤ c' ∧ (c' : Int) ≤ 9223372036854775807) ∧
      (dn 7 = true → ∃ A' c', t24 = .agg #[.int .i64 0, .slice A' X.length c'] ∧ Ob (w.heap.size + 1) W.heap.size W A' X ∧ X.length ≤ c' ∧ (c' : Int) ≤ 9223372036854775807))
    rfl (by kernel_rfl) (by kernel_rfl) ?start ?step ?fin
  case start => exact ⟨undef, undef, undef, undef, undef, undef, undef, undef, rfl, HK4.out.below (Below.refl _ _).drew, HB4.out.drew, bs_below HB.out (HB4.out.drew.mono (by exact Nat.le_refl _)), fun _ => HR4.out.below (Below.refl _ _).drew, fun h => by simp at h, fun h => by simp at h, fun h => by simp at h, fun h => by simp at h, fun h => by simp at h, fun h => by simp at h, fun h => by simp at h, fun h => by simp at h, fun h => by simp at h⟩
  case step =>
    intro i hi dn a W hJ hdn hdep
    obtain ⟨t17, t18, t19, t20, t21, t22, t23, t24, rfl, hK, hB, hD, h8, h8', h0, h1, h2, h3, h4, h5, h6, h7⟩ := hJ
    match i, hi with
    | 0, _ =>
      refine wpOp_plain (by rfl) rfl ?_
      refine wp_fieldAddr 203 _ 1 rfl _ rfl (.pointer (some ⟨w2.heap.size, 64, none⟩)) _ rfl (fat1 W w2.heap.size) ?_
      exact ⟨_, t18, t19, t20, t21, t22, t23, t24, rfl, hK, hB, hD, h8, h8', fun _ => rfl, h1, h2, h3, h4, h5, h6, h7⟩
    | 1, _ =>
      refine wpOp_plain (by rfl) rfl ?_
      obtain rfl := h0 (hdep 0 (by simp))
      refine wp_load_mid 201 _ rfl w2.heap.size 64 rfl (y.map (Value.int .u8)) (.array 64 5) (HR.out.2 _ _ _ hK) (by kernel_rfl) rfl (by rw [List.length_map, HYL.out]; exact sizeOK) ?_
      exact ⟨_, _, t19, t20, t21, t22, t23, t24, rfl, hK, hB, hD, h8, h8', h0, fun _ => rfl, h2, h3, h4, h5, h6, h7⟩
    | 2, _ =>
      refine wpOp_plain (by rfl) rfl ?_
      refine wp_fieldAddr 203 _ 0 rfl _ rfl (.pointer (some ⟨w2.heap.size, 0, none⟩)) _ rfl (fat0 W w2.heap.size) ?_
      exact ⟨t17, t18, _, t20, t21, t22, t23, t24, rfl, hK, hB, hD, h8, h8', h0, h1, fun _ => rfl, h3, h4, h5, h6, h7⟩
    | 3, _ =>
      refine wpOp_plain (by rfl) rfl ?_
      obtain rfl := h2 (hdep 2 (by simp))
      refine wp_load_mid 200 _ rfl w2.heap.size 0 rfl (x.map (Value.int .u8)) (.array 64 5) (HR.out.1 _ _ _ hK) (by kernel_rfl) rfl (by rw [List.length_map, HXL.out]; exact sizeIK) ?_
      exact ⟨t17, t18, _, _, t21, t22, t23, t24, rfl, hK, hB, hD, h8, h8', h0, h1, h2, fun _ => rfl, h4, h5, h6, h7⟩
    | 4, _ =>
      refine wpOp_plain (by rfl) rfl ?_
      refine wp_moveOp _ rfl _ rfl (.slice B d.length c2) rfl ?_
      exact ⟨t17, t18, t19, t20, _, t22, t23, t24, rfl, hK, hB, hD, h8, h8', h0, h1, h2, h3, fun _ => rfl, h5, h6, h7⟩
    | 5, _ =>
      refine wpOp_plain (by rfl) rfl ?_
      obtain rfl := h3 (hdep 3 (by simp))
      obtain rfl := h4 (hdep 4 (by simp))
      refine wp_callAny 145 _ Tryz.func145 (by kernel_rfl) (by kernel_rfl) #[.agg (Ub x), .slice B d.length c2] _ _ rfl (by simp [Act.eval]) _ rfl _ (HI.out W hD) ?_
      rintro v w' ⟨A', c', rfl, o, hb, _, _⟩
      exact ⟨t17, t18, t19, _, _, _, t23, t24, rfl, hK.below hb, btr hB hb, bs_below hD hb, fun h => (h8 h).below hb, fun h => by obtain ⟨A', c', p, q, r, s⟩ := h8' h; exact ⟨A', c', p.below hb, (Ob.below q hb).upto hb.size (Nat.le_refl _), r, s⟩,
        h0, h1, h2, h3, h4, fun _ => ⟨A', c', rfl, o.mono (by have := hK.lt; omega)⟩, fun h => by obtain ⟨A', c', p, q, r, s⟩ := h6 h; exact ⟨A', c', p, (Ob.below q hb).upto hb.size (Nat.le_refl _), r, s⟩, fun h => by obtain ⟨A', c', p, q, r, s⟩ := h7 h; exact ⟨A', c', p, (Ob.below q hb).upto hb.size (Nat.le_refl _), r, s⟩⟩
    | 6, _ =>
      refine wpOp_plain (by rfl) rfl ?_
      obtain rfl := h1 (hdep 1 (by simp))
      obtain ⟨A5, c5, rfl, s5⟩ := h5 (hdep 5 (by simp))
      refine wp_callAny 144 _ Tryz.func144 (by kernel_rfl) (by kernel_rfl) #[.agg (Ub y), .slice A5 Y.length c5] _ _ rfl (by simp [Act.eval]) _ rfl _ (HO.out W A5 c5 s5.bs) ?_
      rintro v w' ⟨A', c', rfl, o, hb, k1, k2⟩
      have hsz := hB.size
      exact ⟨t17, _, t19, t20, t21, _, _, t24, rfl, hK.below hb, btr hB hb, bs_below hD hb, fun h => (h8 h).below hb, fun h => by obtain ⟨A', c', p, q, r, s⟩ := h8' h; exact ⟨A', c', p.below hb, (Ob.below q hb).upto hb.size (Nat.le_refl _), r, s⟩,
        h0, h1, h2, h3, h4, fun _ => ⟨A5, c5, rfl, (Ob.below s5 hb).upto hb.size (Nat.le_refl _)⟩, fun _ => ⟨A', c', rfl, o.mono (by have := hK.lt; omega), k1, k2⟩, fun h => by obtain ⟨A', c', p, q, r, s⟩ := h7 h; exact ⟨A', c', p, (Ob.below q hb).upto hb.size (Nat.le_refl _), r, s⟩⟩
    | 7, _ =>
      refine wpOp_plain (by rfl) rfl ?_
      obtain ⟨A6, c6, rfl, o6, k1, k2⟩ := h6 (hdep 6 (by simp))
      refine wp_buildTo 131 _ rfl _ rfl #[.int .i64 0, .slice A6 X.length c6] ((congrArg (Tryz.prog.built 131) (by simp [Act.eval])).trans (built27 A6 X.length c6)) ?_
      exact ⟨t17, t18, t19, t20, t21, t22, _, _, rfl, hK, hB, hD, h8, h8', h0, h1, h2, h3, h4, h5, h6, fun _ => ⟨A6, c6, rfl, o6, k1, k2⟩⟩
    | 8, _ =>
      refine wpOp_plain (by rfl) rfl ?_
      obtain ⟨A6, c6, rfl, o6, k1, k2⟩ := h7 (hdep 7 (by simp))
      refine wp_store_row 131 _ _ rfl w.heap.size #[.int .i64 0, .slice A6 X.length c6] rfl rfl 131 _ (h8 hdn) size27 rfl (by simp [Value.oneCell']) ?_
      have hBn := below_setRow hB (Nat.le_refl _) #[.int .i64 0, .slice A6 X.length c6]
      refine ⟨t17, t18, t19, t20, t21, t22, t23, _, rfl, (setRow_other W _ _ _ (by omega)).trans hK, hBn, bs_below HB.out hBn, fun h => by simp at h, fun _ => ⟨A6, c6, setRow_heap _ _ _ _ _ _ (h8 hdn), Ob.row o6 _ (Nat.lt_succ_self _) _, k1, k2⟩,
        h0, h1, h2, h3, h4, fun h => by obtain ⟨A', c', p, q⟩ := h5 h; exact ⟨A', c', p, Ob.row q _ (Nat.lt_succ_self _) _⟩, fun h => by obtain ⟨A', c', p, q, r, s⟩ := h6 h; exact ⟨A', c', p, Ob.row q _ (Nat.lt_succ_self _) _, r, s⟩, fun _ => ⟨A6, c6, rfl, Ob.row o6 _ (Nat.lt_succ_self _) _, k1, k2⟩⟩
    | n + 9, h => omega
  case fin =>
    rintro dn a W ⟨t17, t18, t19, t20, t21, t22, t23, t24, rfl, hK, hB, hD, h8, h8', h0, h1, h2, h3, h4, h5, h6, h7⟩ hall
    obtain ⟨A6, c6, hR, o6, k1, k2⟩ := h8' (hall 8 (by omega))
    obtain ⟨fs, hfs⟩ := und27
    go_wp2
    exact bodyPost_ret (v := .agg #[.int .i64 0, .slice A6 X.length c6]) (results_cell_row rfl _ _ w.heap.size 131 _ (0, 0) (.struct fs) rfl hR hfs rfl size27) rfl ⟨A6, c6, rfl, o6.mono (Nat.le_succ _), hB, k1, k2⟩
set_option maxHeartbeats 400000 in
theorem hmac_impl (A B : Option Addr) (l d : List Int) (c1 c2 : Nat) (w : World) (hA : Bs w A l) (hB : Bs w B d) (hl : Bytes l) (hd : Bytes d) (hm : (l.length : Int) ≤ 9223372036854775807) (hn : (d.length : Int) ≤ 9223372036854775807) :
    Calls Tryz.prog 114 #[.slice A l.length c1, .slice B d.length c2] w (BRes w (hmC l d) (hmM l d)) := by
  by_cases h : l.length ≤ 200 ∧ d.length ≤ 600
  · rw [hmC, hmM, if_pos h, if_pos h]
    exact hmac_yes A B l d c1 c2 w hA hB hl hd h.1 h.2
  · rw [hmC, hmM, if_neg h, if_neg h]
    have h1 : (200 : Int) < (l.length : Int) ∨ (600 : Int) < (d.length : Int) := by omega
    clear h hA hB hl hd
    by_cases h2 : (200 : Int) < (l.length : Int)
    · clear h1
      go_enter Tryz.func114, Tryz.ntmps114
      go_wp2
      exact bodyPost_ret (v := .agg #[.int .i64 2, .slice none 0 0]) (by simp [results, Tryz.results114, go_sem]) rfl ⟨_, _, rfl, .inl rfl, bal (Below.refl _ _) _, Nat.le_refl _, by omega⟩
    · have h3 : (600 : Int) < (d.length : Int) := by omega
      clear h1
      go_enter Tryz.func114, Tryz.ntmps114
      go_wp2
      exact bodyPost_ret (v := .agg #[.int .i64 2, .slice none 0 0]) (by simp [results, Tryz.results114, go_sem]) rfl ⟨_, _, rfl, .inl rfl, bal (Below.refl _ _) _, Nat.le_refl _, by omega⟩
end Go.Proofs.YtacdnednkglobaaGreatDoor

/- Chapter 7: the program's digestOf. -/
namespace Go.Proofs.YtacdnednkglobaaGreatDoor
open Go.RowKit Go.Deep

def dgL (id : Int) (key : List Int) (r : List ChunkM) : List Int := if mtF id r = 0 then hmL key (txtL id r) else []
def DgR (id : Int) (key : List Int) (r : List ChunkM) (w : World) (e : Ending) (w' : World) : Prop :=
  ∃ (A : Option Addr) (c : Nat), e = .returned (.agg #[.int .i64 (mtF id r), .slice A (dgL id key r).length c]) ∧ Bs w' A (dgL id key r) ∧ Below w.heap.size w w'
set_option maxRecDepth 100000 in
set_option maxHeartbeats 4000000 in
theorem digestOf_any (id : Int) (key : List Int) (vk : Value) (r : List ChunkM) (v : Value) (u : World) (hw : WfV (.int id)) (hk : Rd u (.bs key) vk) (hkb : Bytes key) (h200 : key.length ≤ 200) (h : Rd u (st_Chunk r) v) (hcb : WfV (st_Chunk r)) (ht : tot (st_Chunk r) ≤ 1048576) :
    Calls Tryz.prog 76 #[.int .i64 id, vk, v] u (DgR id key r u) := by
  have R0 := Blk.new u 131 #[.int .i64 0, .slice none 0 0]
  have b0 := bal (Below.refl u.heap.size u) (.cells #[.int .i64 0, .slice none 0 0] 131)
  obtain ⟨w0, hw0⟩ : ∃ w0, u.alloc (.cells #[.int .i64 0, .slice none 0 0] 131) = w0 := ⟨_, rfl⟩
  rw [hw0] at R0 b0
  have HK := hidH (fun (w : World) (hb : Below u.heap.size u w) => Rd.below hb _ hk)
  have HW := hidH hw0
  have HR := hidH R0
  have HB := hidH b0
  have HKB := hidH (And.intro hkb h200)
  have HCB := hidH (st_Chunk_bytes hcb)
  have HMT := hidH (mt_impl id r v w0 hw (Rd.below b0 _ h) hcb ht)
  obtain ⟨PK, ck, rfl⟩ := hk.bs_sh
  clear hw0 R0 b0 h hk hkb hcb ht hw h200
  by_cases hz : mtF id r = 0
  · rw [mtR_ok hz] at HMT
    have hd : dgL id key r = hmL key (txtL id r) := by rw [dgL, if_pos hz]
    have HT5 := hidH (mtF_zero hz).2.2
    have HTB := hidH (txtTo_bytes (mtF_zero hz).1.1 (by have := (mtF_zero hz).1.2; omega) (cmsF_ok (csF_zero (mtF_zero hz).2.1).2) HCB.out r.length)
    obtain ⟨L, hL⟩ : ∃ L, txtL id r = L := ⟨_, rfl⟩
    have e0 : txtTo id r r.length = L := hL
    rw [e0] at HTB
    rw [hL] at HMT HT5 hd
    have hM : hmM key L = hmL key L := by rw [hmM, if_pos ⟨HKB.out.2, by have := HT5.out; omega⟩]
    have hC : hmC key L = 0 := by rw [hmC, if_pos ⟨HKB.out.2, by have := HT5.out; omega⟩]
    have HIM := hidH (fun (A : Option Addr) (c : Nat) (w : World) (hb : Below u.heap.size u w) (hB : Bs w A L) => hmac_impl PK A key L ck c w (rdB (HK.out w hb)) hB HKB.out.1 HTB.out (by have := HKB.out.2; omega) (by have := HT5.out; omega))
    rw [hM, hC] at HIM
    unfold DgR
    rw [hd, hz]
    obtain ⟨D, hD⟩ : ∃ D, hmL key L = D := ⟨_, rfl⟩
    rw [hD] at HIM ⊢
    clear hL e0 hd hM hC hD hz
    go_enter Tryz.func76, Tryz.ntmps76
    go_wp2_with fail
    rw [HW.out]
    refine HMT.out.mono ?_
    rintro e w1 ⟨vs, rfl, O1, b1⟩
    obtain ⟨A1, c1, rfl⟩ := shape_BytesResult O1.rd
    have ba := bal (Below.refl w1.heap.size w1) (.cells #[.int .i64 0, .slice A1 L.length c1] 131)
    have KT := hidH (Blk.new w1 131 #[.int .i64 0, .slice A1 L.length c1])
    have HB1 := hidH (btr (btr HB.out b1) ba)
    have HR1 := hidH ((HR.out.below b1).below ba)
    have HO1 := hidH (rdB (RdA.hd (RdA.tl (O1.below ba).rd)))
    obtain ⟨y0, y1, yz⟩ := KT.out.two
    have hlt := KT.out.lt
    clear O1 b1 ba HMT
    go_wp2_with fail
    refine (HIM.out A1 c1 _ HB1.out HO1.out).mono ?_
    rintro e w2 ⟨A2, c2, rfl, ob2, b2, _, _⟩
    have HB2 := hidH (btr HB1.out b2)
    have R2 := HR1.out.below b2
    obtain ⟨x0, x1, xz⟩ := R2.two
    have f0 := R2.frozen 0
    have f1 := R2.frozen 1
    have HO2 := hidH (ob2.mono (B' := u.heap.size + 1) (by have := HR1.out.lt; omega))
    clear ob2 b2 R2 HIM y0 y1 yz
    go_wp2
    exact bodyPost_ret (v := .agg #[.int .i64 0, .slice A2 D.length c2]) (by simp [results, Tryz.results76, go_sem, x0, x1]) rfl ⟨A2, c2, rfl, ((HO2.out.setCell (p := ⟨u.heap.size, 0, none⟩) (Nat.lt_succ_self _) _).setCell (p := ⟨u.heap.size, 1, none⟩) (Nat.lt_succ_self _) _).bs, bst (bst HB2.out (Nat.le_refl _) _) (Nat.le_refl _) _⟩
  · rw [mtR_no hz] at HMT
    have hd : dgL id key r = [] := by rw [dgL, if_neg hz]
    unfold DgR
    rw [hd]
    obtain ⟨F, hF⟩ : ∃ F, mtF id r = F := ⟨_, rfl⟩
    rw [hF] at HMT hz ⊢
    have q : (F != 0) = true := by rw [bne_iff_ne]; exact hz
    clear hd hF hz
    go_enter Tryz.func76, Tryz.ntmps76
    go_wp2_with fail
    rw [HW.out]
    refine HMT.out.mono ?_
    rintro e w1 ⟨vs, rfl, O1, b1⟩
    obtain ⟨A1, c1, rfl⟩ := shape_BytesResult O1.rd
    have ba := bal (Below.refl w1.heap.size w1) (.cells #[.int .i64 F, .slice A1 0 c1] 131)
    have KT := hidH (Blk.new w1 131 #[.int .i64 F, .slice A1 0 c1])
    have HB1 := hidH (btr (btr HB.out b1) ba)
    have HR1 := hidH ((HR.out.below b1).below ba)
    obtain ⟨y0, y1, yz⟩ := KT.out.two
    have hlt := KT.out.lt
    obtain ⟨x0, x1, xz⟩ := HR1.out.two
    have f0 := HR1.out.frozen 0
    have f1 := HR1.out.frozen 1
    clear O1 b1 ba HMT
    go_wp2
    exact bodyPost_ret (v := .agg #[.int .i64 F, .slice A1 0 c1]) (by simp [results, Tryz.results76, go_sem, x0, x1]) rfl ⟨A1, c1, rfl, .inl rfl, bst (bst HB1.out (Nat.le_refl _) _) (Nat.le_refl _) _⟩
end Go.Proofs.YtacdnednkglobaaGreatDoor

/- The program's SameMac. -/
namespace Go.Proofs.YtacdnednkglobaaGreatDoor
open Go.RowKit Go.Deep

theorem u8_or (a b : Nat) (ha : a < 256) (hb : b < 256) : bits .or .u8 (a : Int) (b : Int) = ((a ||| b : Nat) : Int) := by
  have hx : a ||| b < 256 := Nat.or_lt_two_pow (n := 8) ha hb
  show IntKind.u8.wrap ((BitVec.ofInt 8 (a : Int) ||| BitVec.ofInt 8 (b : Int)).toNat : Int) = _
  have e1 : (BitVec.ofInt 8 (a : Int)).toNat = a := by simp; omega
  have e2 : (BitVec.ofInt 8 (b : Int)).toNat = b := by simp; omega
  rw [BitVec.toNat_or, e1, e2]
  unfold IntKind.wrap
  simp [IntKind.bits, IntKind.signed]
  omega
theorem u8_xor' (a b : Nat) (ha : a < 256) (hb : b < 256) : bits .xor .u8 (a : Int) (b : Int) = ((a ^^^ b : Nat) : Int) := by
  have hx : a ^^^ b < 256 := Nat.xor_lt_two_pow (n := 8) ha hb
  show IntKind.u8.wrap ((BitVec.ofInt 8 (a : Int) ^^^ BitVec.ofInt 8 (b : Int)).toNat : Int) = _
  have e1 : (BitVec.ofInt 8 (a : Int)).toNat = a := by simp; omega
  have e2 : (BitVec.ofInt 8 (b : Int)).toNat = b := by simp; omega
  rw [BitVec.toNat_xor, e1, e2]
  unfold IntKind.wrap
  simp [IntKind.bits, IntKind.signed]
  omega
/-- Once two bytes have differed the sum stays other than zero. -/
theorem differ (d x y : Int) (hd : 0 ≤ d ∧ d ≤ 255) (hx : 0 ≤ x ∧ x ≤ 255) (hy : 0 ≤ y ∧ y ≤ 255) :
    ∃ q v : Int, bits .xor .u8 x y = q ∧ bits .or .u8 d q = v ∧ (0 ≤ v ∧ v ≤ 255) ∧ (v = 0 ↔ d = 0 ∧ x = y) := by
  obtain ⟨d, rfl⟩ : ∃ n : Nat, d = n := ⟨d.toNat, by omega⟩
  obtain ⟨x, rfl⟩ : ∃ n : Nat, x = n := ⟨x.toNat, by omega⟩
  obtain ⟨y, rfl⟩ : ∃ n : Nat, y = n := ⟨y.toNat, by omega⟩
  have h1 : x ^^^ y < 256 := Nat.xor_lt_two_pow (n := 8) (by omega) (by omega)
  have h2 : d ||| (x ^^^ y) < 256 := Nat.or_lt_two_pow (n := 8) (by omega) h1
  refine ⟨_, _, u8_xor' x y (by omega) (by omega), u8_or d (x ^^^ y) (by omega) h1, by omega, ?_⟩
  have h3 : x ^^^ y = 0 ↔ x = y := by
    constructor
    · intro h
      exact xor_can (c := y) (by rw [h, Nat.xor_self])
    · intro h; rw [h, Nat.xor_self]
  have h4 : d ||| (x ^^^ y) = 0 ↔ d = 0 ∧ x ^^^ y = 0 := Nat.or_eq_zero_iff
  omega
def eqTo (a b : List Int) (k : Nat) : Prop := ∀ j, j < k → a.getD j 0 = b.getD j 0
theorem eqTo_succ (a b : List Int) (k : Nat) : eqTo a b (k + 1) ↔ eqTo a b k ∧ a.getD k 0 = b.getD k 0 := by
  constructor
  · intro h; exact ⟨fun j hj => h j (by omega), h k (by omega)⟩
  · rintro ⟨h1, h2⟩ j hj
    by_cases e : j = k
    · subst e; exact h2
    · exact h1 j (by omega)
theorem eqTo_all {a b : List Int} (k : Nat) (ha : a.length = k) (hb : b.length = k) : eqTo a b k ↔ a = b := by
  constructor
  · intro h
    refine List.ext_getElem (by omega) fun j h1 h2 => ?_
    have := h j (by omega)
    rw [List.getD_eq_getElem?_getD, List.getD_eq_getElem?_getD, List.getElem?_eq_getElem h1, List.getElem?_eq_getElem h2] at this
    exact this
  · intro h; subst h; intro j _; rfl
theorem bs_cells {w : World} {A : Option Addr} {l : List Int} (h : Bs w A l) (hp : 0 < l.length) : ∃ b off, A = some ⟨b, off, none⟩ ∧ b < w.heap.size ∧ ∀ j, j < l.length → w.cell? ⟨b, off + j, none⟩ = some (.int .u8 (l.getD j 0)) := by
  rcases h with h | h
  · rw [h] at hp; simp at hp
  · exact h
set_option maxHeartbeats 1000000 in
theorem same_impl (A B : Option Addr) (a b : List Int) (c d : Nat) (w : World) (hA : Bs w A a) (hB : Bs w B b) (ha : Bytes a) (hb : Bytes b) :
    Calls Tryz.prog 124 #[.slice A a.length c, .slice B b.length d] w fun e w' => e = .returned (.bool (sameM a b)) ∧ ∃ k, w.drewN k = w' := by
  by_cases h1 : a.length = 32
  · by_cases h2 : b.length = 32
    · obtain ⟨p, o, rfl, _, cA⟩ := bs_cells hA (by omega)
      obtain ⟨q, r, rfl, _, cB⟩ := bs_cells hB (by omega)
      have HS : Hid (sameM a b = true ↔ eqTo a b 32) := hidH (by
        rw [eqTo_all 32 h1 h2, sameM, h1]
        simp)
      rw [h1] at cA ⊢
      rw [h2] at cB ⊢
      have CA := hidH cA
      have CB := hidH cB
      clear cA cB hA hB h1 h2
      go_enter Tryz.func124, Tryz.ntmps124
      go_wp2
      go_loopw [5, 15] (fun v i wr => ∃ (k n : Nat) (x : Int), k ≤ 32 ∧ v = .int .u8 x ∧ i = .int .i64 k ∧ wr = w.drewN n ∧ (0 ≤ x ∧ x ≤ 255) ∧ (x = 0 ↔ eqTo a b k)) (fun _ i _ => 32 - (intOf i).toNat)
      case atStart => exact ⟨0, 0, 0, by omega, rfl, rfl, rfl, by omega, by simp [eqTo]⟩
      case round =>
        obtain ⟨k, n, x, hk, rfl, rfl, rfl, hx, he⟩ := hrel
        by_cases hlt : k < 32
        · have c1 : w.cell? ⟨p, o + k, none⟩ = some (.int .u8 (a.getD k 0)) := CA.out k hlt
          have c2 : w.cell? ⟨q, r + k, none⟩ = some (.int .u8 (b.getD k 0)) := CB.out k hlt
          have hsuc := eqTo_succ a b k
          have hya := ha.get k
          have hyb := hb.get k
          obtain ⟨y, hy⟩ : ∃ y, a.getD k 0 = y := ⟨_, rfl⟩
          obtain ⟨t, ht⟩ : ∃ t, b.getD k 0 = t := ⟨_, rfl⟩
          rw [hy] at c1 hsuc hya
          rw [ht] at c2 hsuc hyb
          obtain ⟨u, v, q1, q2, hv, hz⟩ := differ x y t hx hya hyb
          have HZ : Hid (v = 0 ↔ eqTo a b (k + 1)) := hidH (by rw [hsuc, ← he]; exact hz)
          clear hsuc hy ht hya hyb
          have HV := hidH hv
          clear hz hv he hx
          have hi0 : (0 : Int) ≤ (k : Int) := by omega
          have hi1 : (k : Int) < 32 := by omega
          go_wp2
          go_quiet (fail)
          go_wp2
          go_roundw
          case rel => exact ⟨k + 1, n + nq, v, by omega, rfl, by go_num, rfl, HV.out, HZ.out⟩
          case measure => simp [intOf]; omega
        · obtain rfl : k = 32 := by omega
          rw [show ((32 : Nat) : Int) = 32 from rfl]
          have HD : Hid (sameM a b = (x == 0)) := hidH (by
            have := HS.out
            by_cases e : x = 0
            · rw [this.2 (he.1 e), e]; rfl
            · rw [beq_eq_false_iff_ne.2 e, Bool.eq_false_iff]
              exact fun y => e (he.2 (this.1 y)))
          clear he hx hlt hk
          go_wp2
          exact bodyPost_ret (v := .bool (x == 0)) (by simp [results, Tryz.results124, go_sem]) rfl ⟨by rw [HD.out], n, rfl⟩
    · have h4 : ((b.length : Int) == 32) = false := by rw [beq_eq_false_iff_ne]; omega
      have hs : sameM a b = false := by
        rw [sameM]
        have : a ≠ b := fun e => h2 (e ▸ h1)
        simp [this]
      rw [hs, h1]
      clear hA hB h1 h2 hs
      go_enter Tryz.func124, Tryz.ntmps124
      go_wp2
      go_ret
      exact ⟨rfl, 0, rfl⟩
  · have h3 : ((a.length : Int) == 32) = false := by rw [beq_eq_false_iff_ne]; omega
    have hs : sameM a b = false := by simp [sameM, h1]
    rw [hs]
    clear hA hB h1 hs
    go_enter Tryz.func124, Tryz.ntmps124
    go_wp2
    go_ret
    exact ⟨rfl, 0, rfl⟩
theorem sameM_comm (a b : List Int) : sameM a b = sameM b a := by
  unfold sameM
  by_cases e : a = b
  · subst e; rfl
  · have e2 : b ≠ a := fun x => e x.symm
    rw [beq_eq_false_iff_ne.2 e, beq_eq_false_iff_ne.2 e2, Bool.and_false, Bool.and_false]
end Go.Proofs.YtacdnednkglobaaGreatDoor
