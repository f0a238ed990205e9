/- The program's numbersOf, ScheduleOf. -/
import Derived.Test.YthpokophigkhaaaSchedI
import Derived.Test.YthpokophigkhaaaWordsRes
import Derived.Deep.MidRow
namespace Go.Proofs.Ythpokophigkhaaa
open Go.RowKit Go.Deep

/-- A whole block of numbers that are words. -/
def Nrow (w : World) (g : Nat) (ws : List Nat) : Prop := Blk w g 2 (ws.map wv).toArray
theorem Nrow.cell {w : World} {g : Nat} {ws : List Nat} (h : Nrow w g ws) (j : Nat) (hj : j < ws.length) : w.cell? ⟨g, j, none⟩ = some (.int .i64 ((ws.getD j 0 : Nat) : Int)) := by
  rw [Blk.cell h j]; simp [hj, wv]
theorem Nrow.set {w : World} {g : Nat} {ws : List Nat} (h : Nrow w g ws) (j x : Nat) : Nrow (w.setCell ⟨g, j, none⟩ (.int .i64 (x : Int))) g (ws.set j x) := by
  have := heap_setCell_same w g j _ _ (.int .i64 (x : Int)) h
  unfold Nrow Blk
  rw [this]
  simp [wv, List.map_set]
theorem Nrow.of_own {w : World} {B e g n : Nat} {xs : List Value} {ws : List Nat} (h : w.ownsRow B e 1 (.slice (some ⟨g, 0, none⟩) n n) n xs) (he : e = 2) (hx : xs = ws.map wv) : Nrow w g ws := by
  rcases h.2 with ⟨h', _⟩ | ⟨g', cap', cur, h', hb, hg, hnc, hcm, hcs, htake⟩
  · simp at h'
  · simp only [Value.slice.injEq, Option.some.injEq, Addr.mk.injEq, and_true, true_and] at h'
    obtain ⟨rfl, rfl⟩ := h'
    have : cur.toList = xs := by rw [← htake, List.take_of_length_le (by simp; omega)]
    unfold Nrow Blk
    rw [hg, he, ← hx, ← this]
theorem Nrow.own {w : World} {g B : Nat} {ws : List Nat} (h : Nrow w g ws) (hB : B ≤ g) (hm : ws.length ≤ 100000) : w.ownsRow B 2 1 (.slice (some ⟨g, 0, none⟩) ws.length ws.length) ws.length (ws.map wv) :=
  ⟨by simp, .inr ⟨g, ws.length, _, rfl, hB, h, Nat.le_refl _, by unfold maxLen; omega, by simp, by rw [List.take_of_length_le (by simp)]⟩⟩
theorem made_i64 (N : Nat) : (madeCells (Value.int .i64 0).cells (N * 1)).toList = (List.replicate N (0 : Nat)).map wv := by
  rw [Nat.mul_one, show (Value.int IntKind.i64 0).cells = #[Value.int IntKind.i64 0] from rfl, toList_madeCells_one]
  simp [wv]
def partW (ws : List Nat) (k : Nat) : List Nat := ws.take k ++ List.replicate (ws.length - k) 0
theorem partW_len (ws : List Nat) (k : Nat) (h : k ≤ ws.length) : (partW ws k).length = ws.length := by simp [partW]; omega
theorem partW_succ (ws : List Nat) (k : Nat) (h : k < ws.length) : (partW ws k).set k (ws.getD k 0) = partW ws (k + 1) := by
  rw [partW, List.set_append_right _ _ (by simp; omega), partW, List.take_succ_eq_append_getElem h]
  simp only [List.length_take, Nat.min_eq_left (Nat.le_of_lt h), Nat.sub_self]
  rw [show ws.length - k = (ws.length - (k + 1)) + 1 from by omega, List.replicate_succ, List.set_cons_zero]
  rw [List.append_assoc, List.singleton_append, List.getD_eq_getElem?_getD, List.getElem?_eq_getElem h, Option.getD_some]
set_option maxRecDepth 100000 in
set_option maxHeartbeats 2000000 in
theorem nums_any (g c : Nat) (t : TypeId) (ws : List Nat) (w : World) (hU : Urow w g t ws) (hW : AllW ws) (hm : ws.length ≤ 1000) :
    Calls Try.prog 77 #[.slice (some ⟨g, 0, none⟩) ws.length c] w (WsRes w ws) := by
  obtain ⟨i0, hi, hz0, hz1, hz2⟩ := info_parts infoI64
  have HI := hidH (And.intro hi (And.intro hz0 (And.intro hz1 hz2)))
  clear hi hz0 hz1 hz2
  obtain ⟨N, hN⟩ : ∃ N, ws.length = N := ⟨_, rfl⟩
  have hN2 : (N : Int) ≤ 1000 := by omega
  have HN := hidH hN
  have HU := hidH hU
  have hgl := Blk.lt hU
  rw [hN]
  clear hN hU
  go_enter Try.func77, Try.ntmps77
  go_wp2_with (refine wpList_make_full _ rfl _ _ _ rfl w.heap.size 2 i0 _ 1 Try.underlying40 HI.out.1 HI.out.2.1 HI.out.2.2.1 .i64 .i64 _ _ N rfl rfl rfl rfl (by rw [HI.out.2.2.2]; omega) (by unfold maxLen; omega) (Nat.le_refl _) ?_; intro w1 o1 g1; have R1 := hidH (Nrow.of_own o1 rfl (made_i64 N)); have B1 := hidH ((Below.refl w.heap.size w).grown g1 (Nat.le_refl _) (fun k hk => by cases hk)); clear o1 g1)
  go_loopw [11] (fun i wr => ∃ k : Nat, k ≤ N ∧ i = .int .i64 k ∧ Nrow wr w.heap.size (partW ws k) ∧ Below w.heap.size w wr) (fun i _ => N - (intOf i).toNat)
  case atStart => exact ⟨0, Nat.zero_le _, rfl, by have := R1.out; rw [partW, HN.out]; simpa using this, B1.out⟩
  case round =>
    obtain ⟨k, hk, rfl, hR, hB⟩ := hrel
    have hP := partW_len ws k (by rw [HN.out]; exact hk)
    rw [HN.out] at hP
    by_cases hlt : k < N
    · have hlt2 : (k : Int) < (N : Int) := by omega
      have hlt0 : (0 : Int) ≤ (k : Int) := by omega
      have hc := (hB.cell (p := ⟨g, k, none⟩) hgl).trans (HU.out.cell k (by rw [HN.out]; exact hlt))
      have c1 := hR.cell k (by omega)
      have f1 := Blk.frozen hR k
      have hs := hidH (partW_succ ws k (by rw [HN.out]; exact hlt))
      have hx := hW.get k
      generalize ws.getD k 0 = x at *
      have hx2 : (x : Int) ≤ 4294967295 := by omega
      have HR := hidH hR
      have HB := hidH hB
      clear hR hB hP
      go_wp2
      go_roundw
      case rel =>
        refine ⟨k + 1, by omega, by go_num, ?_, bst HB.out (Nat.le_refl _) _⟩
        rw [← hs.out]
        exact Nrow.set HR.out k x
      case measure => simp [intOf]; omega
    · obtain rfl : k = N := by omega
      have e : partW ws k = ws := by rw [partW, HN.out, Nat.sub_self, List.replicate_zero, List.append_nil, List.take_of_length_le (by rw [HN.out]; exact Nat.le_refl _)]
      rw [e] at hR
      have HR := hidH (hR.own (Nat.le_refl _) (by omega))
      have HB := hidH hB
      rw [HN.out] at HR
      clear hR hB hlt hk hP e
      go_wp2
      go_ret
      refine ⟨_, rfl, ?_, HB.out⟩
      rw [HN.out]
      exact HR.out
theorem arr84 (A : Option Addr) (n c : Nat) (hn : 64 ≤ n) (u : World) : (Instr.arrayAt 84 (.slice A n c)).run Try.prog u = .ok (.pointer A) u := run_arrayAt u 84 5 64 _ _ _ Try.underlying84 hn
theorem slice91 (u : World) (b : Nat) : (Instr.sliceAt 91 (.pointer (some ⟨b, 0, none⟩)) none none none).run Try.prog u = .ok (.slice (some ⟨b, 0, none⟩) 64 64) u := by
  have hal : Try.prog.arrayLen 91 = 64 := by kernel_rfl
  have hel : Try.prog.elem 91 = 65 := by kernel_rfl
  have hs : (sizeOf 65).run Try.prog u = .ok 1 u := by
    have h1 : (Try.prog.info? 65).map (·.size) = some 1 := by kernel_rfl
    cases hq : Try.prog.info? 65 with
    | none => simp [hq] at h1
    | some i => simp [hq] at h1; simp [sizeOf, typeInfo, hq, h1]
  rw [run_sliceAt_array_all u 91 ⟨b, 0, none⟩ (by rw [hal, hel]; kernel_rfl), hel, hs, hal]
  simp only [Result.andThen, slicedAt]
  rw [if_neg (by omega)]
  simp [Addr.add]
theorem bs_range {w : World} {b off : Nat} {l : List Int} (hc : ∀ j, j < l.length → w.cell? ⟨b, off + j, none⟩ = some (.int .u8 (l.getD j 0))) : w.rangeAt b off (l.map (Value.int .u8)) := by
  intro j v hv
  have hj : j < l.length := by
    rcases Nat.lt_or_ge j l.length with h | h
    · exact h
    · rw [List.getElem?_eq_none (by simpa using h)] at hv; cases hv
  rw [hc j hj, ← hv]
  simp [hj]
set_option maxRecDepth 100000 in
set_option maxHeartbeats 2000000 in
theorem sch_impl (A : Option Addr) (l : List Int) (c : Nat) (w : World) (hA : Bs w A l) (hl : Bytes l) :
    Calls Try.prog 33 #[.slice A l.length c] w (IRes w (schC l) (schM l)) := by
  by_cases h : l.length = 64
  · rw [schC, schM, if_pos h, if_pos h]
    have h1 : ((l.length : Int) != 64) = false := by rw [bne_eq_false_iff_eq]; omega
    have h64 : (64 : Nat) ≤ l.length := by omega
    have hA2 := bs_below hA (bal (Below.refl _ w) (.cells #[.int .i64 0, .slice none 0 0] 42))
    have H := hidH h
    rcases hA2 with h0 | ⟨b, off, rfl, _, hc⟩
    · rw [h0] at h; simp at h
    have HC := hidH (bs_range hc)
    have hat := arr84 (some ⟨b, off, none⟩) l.length c h64
    clear hA h hc
    have hsz : (Try.prog.info? 84).map (·.size) = some (l.map (Value.int .u8)).length := by rw [List.length_map, H.out]; kernel_rfl
    obtain ⟨cl, hcl⟩ : ∃ cl, l.map (Value.int .u8) = cl := ⟨_, rfl⟩
    have hub : Ub l = cl.toArray := by rw [← hcl]; rfl
    have HS := hidH hsz
    rw [hcl] at HS HC
    have hcal := fun w' => sched_impl l w' hl H.out
    rw [hub] at hcal
    have HCAL := hidH hcal
    obtain ⟨os, hos⟩ : ∃ os, U (schedN l) = os := ⟨_, rfl⟩
    obtain ⟨zs, hzs⟩ : ∃ zs, U (List.replicate 64 0) = zs := ⟨_, rfl⟩
    have hz := zero91
    rw [hzs] at hz
    have HZ := hidH hz
    have hL : (schedN l).length = 64 := by rw [schedN, schedTo_len]
    have HZ2 := hidH (show zs.size = os.size by rw [← hzs, ← hos, U_size, U_size, hL]; simp)
    have HSZ := hidH (show (Try.prog.info? 91).map (·.size) = some os.size by rw [← hos, U_size, hL]; kernel_rfl)
    have HO := hidH (show os.all (·.oneCell') = true from hos ▸ U_one (schedN l))
    have HOS := hidH hos
    have HL := hidH hL
    clear hsz hcal hcl hub hz hL hos hzs
    go_enter Try.func33, Try.ntmps33
    go_wp2_with (refine wpList_load_mid rfl 84 _ rfl b off rfl cl (.array 64 5) HC.out (by kernel_rfl) rfl HS.out ?_)
    refine (HCAL.out _).mono ?_
    rintro e w1 ⟨rfl, b1⟩
    rw [HOS.out]
    obtain ⟨X0, HB⟩ := xb b1
    have hsl := fun u => slice91 u w1.heap.size
    clear b1 hat
    go_wp2_with (first | refine wpList_allocRow rfl 91 rfl _ rfl zs HZ.out ?_ | refine wpList_store_rowTo rfl _ _ _ rfl rfl w1.heap.size os rfl rfl 91 _ (heap_alloc_last w1 _) HSZ.out HZ2.out HO.out ?_)
    rw [World.setRow_alloc_new]
    have hU : Urow (w1.alloc (.cells os 91)) w1.heap.size 91 (schedN l) := by rw [Urow, HOS.out]; exact Blk.new _ _ _
    have hcl := nums_any w1.heap.size 64 91 (schedN l) _ hU (schedTo_all hl _) (by rw [HL.out]; omega)
    rw [HL.out] at hcl
    refine hcl.mono ?_
    rintro e w3 ⟨v, rfl, o1, b1⟩
    have hlt := X0.out.lt
    have X := (X0.out.alloc (.cells os 91)).below b1
    obtain ⟨x0, x1, xz⟩ := X.two
    have f0 := X.frozen 0
    have f1 := X.frozen 1
    obtain ⟨A1, cp, rfl, ob, hc1, hc2⟩ := own_oi o1
    have HB3 := hidH (btr (bal HB.out _) b1)
    have OB := hidH (ob.mono (B' := w.heap.size + 1) (by simp only [World.size_alloc]; omega))
    have C1 := hidH hc1
    have C2 := hidH hc2
    clear X ob hc1 hc2 o1 b1 hU hcl hlt X0
    go_wp2
    exact bodyPost_ret (v := .agg #[.int .i64 0, .slice A1 (ci (schedN l)).length cp]) (by simp [results, Try.results33, go_sem, x0, x1]) rfl (ires_set 0 OB.out HB3.out C1.out C2.out _ _)
  · rw [schC, schM, if_neg h, if_neg h]
    have h1 : ((l.length : Int) != 64) = true := by rw [bne_iff_ne]; omega
    clear h hA
    go_enter Try.func33, Try.ntmps33
    go_wp2
    exact bodyPost_ret (v := .agg #[.int .i64 2, .slice none 0 0]) (by simp [results, Try.results33, go_sem]) rfl ⟨_, _, rfl, .inl rfl, bal (Below.refl _ _) _, Nat.le_refl _, by omega⟩
end Go.Proofs.Ythpokophigkhaaa
