/- The program's compress. -/
import Derived.Test.YtacdnednkglobaaCompI
import Derived.StillTailTactics
namespace Go.Proofs.Ytacdnednkglobaa
open Go.RowKit Go.Deep

/-- The state, k words of it added. -/
def mixN (st R : List Nat) (k : Nat) : List Nat := (List.range 8).map fun j => if j < k then sumN st R j else R.getD j 0
theorem mixN_len (st R : List Nat) (k : Nat) : (mixN st R k).length = 8 := by simp [mixN]
theorem mixN_zero (st R : List Nat) (h : R.length = 8) : mixN st R 0 = R := by
  obtain ⟨x0, x1, x2, x3, x4, x5, x6, x7, rfl⟩ := eight h
  rfl
theorem mixN_get (st R : List Nat) (k : Nat) (h : k < 8) : (mixN st R k).getD k 0 = R.getD k 0 := by
  simp [mixN, List.getD_eq_getElem?_getD, h]
theorem mixN_succ (st R : List Nat) (k : Nat) (_h : k < 8) : (mixN st R k).set k ((R.getD k 0 + st.getD k 0) % 4294967296) = mixN st R (k + 1) := by
  apply List.ext_getElem
  · simp [mixN]
  · intro j h1 h2
    rw [List.getElem_set]
    simp only [mixN, List.getElem_map, List.getElem_range]
    split
    · next h => subst h; rw [if_pos (Nat.lt_succ_self _), sumN, Nat.add_comm]
    · next h =>
      by_cases hh : j < k
      · rw [if_pos hh, if_pos (by omega)]
      · rw [if_neg hh, if_neg (by omega)]
theorem mixN_end (st R : List Nat) : mixN st R 8 = (List.range 8).map (sumN st R) := by
  apply List.map_congr_left
  intro j hj
  rw [if_pos (by simpa using hj)]
/-- What the rounds leave alone. -/
def KC (w0 : World) (st ws : List Nat) (z : Array Value) (g5 g6 : Nat) (w : World) : Prop :=
  Urow w w0.heap.size 96 st ∧ Blk w (w0.heap.size + 1 + 1) 96 z ∧ Urow w g5 107 keysN ∧ Urow w g6 109 ws ∧ Below w0.heap.size w0 w
theorem KC.below {w0 : World} {st ws : List Nat} {z : Array Value} {g5 g6 : Nat} {w w' : World} (h : KC w0 st ws z g5 g6 w) (hb : Below w.heap.size w w') : KC w0 st ws z g5 g6 w' :=
  ⟨Blk.below h.1 hb, h.2.1.below hb, Blk.below h.2.2.1 hb, Blk.below h.2.2.2.1 hb, btr h.2.2.2.2 hb⟩
theorem KC.row {w0 : World} {st ws : List Nat} {z : Array Value} {g5 g6 : Nat} {w : World} (h : KC w0 st ws z g5 g6 w) (g : Nat) (hg : w0.heap.size + 1 + 1 < g) (h5 : g5 < g) (h6 : g6 < g) (cs : Array Value) : KC w0 st ws z g5 g6 (w.setRow g cs) :=
  ⟨(setRow_other w g _ cs (by omega)).trans h.1, (setRow_other w g _ cs (by omega)).trans h.2.1, (setRow_other w g _ cs (by omega)).trans h.2.2.1, (setRow_other w g _ cs (by omega)).trans h.2.2.2.1, below_setRow h.2.2.2.2 (by omega) cs⟩
theorem KC.cell {w0 : World} {st ws : List Nat} {z : Array Value} {g5 g6 : Nat} {w : World} (h : KC w0 st ws z g5 g6 w) (g j : Nat) (hg : w0.heap.size + 1 + 1 < g) (h5 : g5 < g) (h6 : g6 < g) (v : Value) : KC w0 st ws z g5 g6 (w.setCell ⟨g, j, none⟩ v) :=
  ⟨blk_far h.1 (by simp; omega) v, blk_far h.2.1 (by simp; omega) v, blk_far h.2.2.1 (by simp; omega) v, blk_far h.2.2.2.1 (by simp; omega) v, bst h.2.2.2.2 (by simp; omega) v⟩
set_option maxRecDepth 100000 in
set_option maxHeartbeats 8000000 in
theorem cmp_impl (st : List Nat) (l : List Int) (w : World) (hst : AllW st) (h8 : st.length = 8) (hl : Bytes l) (h64 : l.length = 64) :
    Calls Try.prog 78 #[.agg (U st), .agg (Ub l)] w fun e w' => e = .returned (.agg (U (compN st l))) ∧ Below w.heap.size w w' := by
  obtain ⟨ws, hws⟩ : ∃ ws, schedN l = ws := ⟨_, rfl⟩
  have hwL : ws.length = 64 := by rw [← hws, schedN, schedTo_len]
  have hwA : AllW ws := by rw [← hws]; exact schedTo_all hl _
  obtain ⟨s, hs⟩ : ∃ s, U st = s := ⟨_, rfl⟩
  obtain ⟨b, hb⟩ : ∃ b, Ub l = b := ⟨_, rfl⟩
  obtain ⟨z, hz⟩ : ∃ z, U (List.replicate 8 0) = z := ⟨_, rfl⟩
  obtain ⟨zk, hzk⟩ : ∃ z, U (List.replicate 64 0) = z := ⟨_, rfl⟩
  have ez := zero77
  rw [hz] at ez
  have ezk := zero90
  rw [hzk] at ezk
  have ezd := zero91
  rw [hzk] at ezd
  have hss : (Try.prog.info? 96).map (·.size) = some s.size := by rw [← hs, U_size, h8]; kernel_rfl
  have hs1 : s.all (·.oneCell') = true := by rw [← hs]; exact U_one st
  have hzs : z.size = s.size := by rw [← hs, ← hz, U_size, U_size, h8]; simp
  have hsb : (Try.prog.info? 85).map (·.size) = some b.size := by rw [← hb, show (Ub l).size = 64 from by simp [Ub, h64]]; kernel_rfl
  have hR := fun (Q : Exit → Act → World → Prop) (hQ) => reg73 w s b z (U keysN) zk (U ws) zk Q (fun w' => consts_any w') (fun w' => by have := sched_impl l w' hl h64; rwa [hb, hws] at this) ezk ezd hsb
    (by rw [U_size, keysN_len]; kernel_rfl) (by rw [← hzk, U_size, U_size, keysN_len]; simp) (U_one _) (by rw [U_size, hwL]; kernel_rfl) (by rw [← hzk, U_size, U_size, hwL]; simp) (U_one _) hQ
  have HR := hidH hR
  have HZ := hidH ez
  have H8 := hidH h8
  have HWL := hidH hwL
  have HWS := hidH hws
  have HSS := hidH hss
  have HS1 := hidH hs1
  have HZS := hidH hzs
  have HS := hidH hs
  rw [hs, hb]
  clear hR ez ezk ezd hss hsb hs1 hs hb hws hz hzk hzs h8 h64 hwL
  go_enter Try.func78, Try.ntmps78
  go_wp2_with (first | refine wpList_allocRow rfl 96 rfl _ rfl z HZ.out ?_ | refine wpList_boxRow rfl _ _ rfl _ rfl s rfl ?_ | refine wpList_boxRow rfl _ _ rfl _ rfl b rfl ?_)
  refine wp_region_any (by kernel_rfl) ?_
  refine HR.out _ ?_ 7 false false false false false false false _ _ (by decide) ?_
  rotate_left
  · have X := ((((Blk.new w 96 s).alloc (.cells b 85)).alloc (.cells z 96)))
    have Y := (Blk.new (w.alloc (.cells s 96)) 85 b).alloc (.cells z 96)
    have Z := Blk.new ((w.alloc (.cells s 96)).alloc (.cells b 85)) 96 z
    simp only [World.size_alloc] at Y Z
    exact ⟨undef, undef, undef, undef, undef, 0, 0, by simp [fr73, Act.put], ⟨X, Y, Z, Below.drew (bal (bal (bal (Below.refl _ _) _) _) _)⟩, (fun h => by cases h), (fun h => by cases h), (fun h => by cases h), ⟨rfl, rfl⟩, ⟨rfl, rfl⟩, (fun h => by cases h)⟩
  rintro a W ⟨t5, t6, t10, t11, t12, g5, g6, rfl, hK, h0, h1, h2, ⟨rfl, hg5, hb5⟩, ⟨rfl, hg6, hb6⟩, hne⟩
  have K0 : KC w st ws z g5 g6 W := ⟨by rw [Urow, HS.out]; exact hK.1, hK.2.2.1, hb5, hb6, hK.2.2.2⟩
  have l5 := Blk.lt hb5
  have l6 := Blk.lt hb6
  have lz := hK.2.2.1.lt
  have BS := hidH hK.1
  have K1 := hidH (K0.below (bal (Below.refl _ W) (.cells s 96)))
  have SZ := hidH (And.intro l5 (And.intro l6 lz))
  have N7 := hidH (show Urow (W.alloc (.cells s 96)) W.heap.size 96 (roundsN st ws 0) from by show Blk _ _ _ (U st); rw [HS.out]; exact Blk.new _ _ _)
  clear hK h0 h1 h2 hb5 hb6 hne K0 hg5 hg6 l5 l6 lz HR
  unfold fr73
  go_wp2_with (first | refine wpList_load_row rfl 96 _ rfl w.heap.size rfl 96 s (0, 0) (.array 8 94) BS.out (by kernel_rfl) rfl HSS.out ?_ | refine wpList_allocRow rfl 96 rfl _ rfl z HZ.out ?_ | refine wpList_store_rowTo rfl _ _ _ rfl rfl W.heap.size s rfl rfl 96 _ (heap_alloc_last W _) HSS.out HZS.out HS1.out ?_)
  rw [World.setRow_alloc_new]
  obtain ⟨g7, hg7⟩ : ∃ g7, W.heap.size = g7 := ⟨_, rfl⟩
  rw [hg7] at N7 SZ ⊢
  obtain ⟨W7, hW7⟩ : ∃ W7, W.alloc (.cells s 96) = W7 := ⟨_, rfl⟩
  rw [hW7] at N7 K1 ⊢
  clear BS hW7 hg7
  go_loopw [14] (fun i wr => ∃ k : Nat, k ≤ 64 ∧ i = .int .i64 k ∧ Urow wr g7 96 (roundsN st ws k) ∧ KC w st ws z g5 g6 wr) (fun i _ => 64 - (intOf i).toNat)
  case atStart => exact ⟨0, by omega, rfl, N7.out, K1.out⟩
  case round =>
    obtain ⟨k, hk, rfl, hN, hK⟩ := hrel
    by_cases hlt : k < 64
    · have hlt2 : (k : Int) < 64 := by omega
      have hlt0 : (0 : Int) ≤ (k : Int) := by omega
      have hl8 := roundsN_len (st := st) (ws := ws) H8.out k
      have hla := roundsN_all (st := st) (ws := ws) hst k
      have hsucc : roundsN st ws (k + 1) = stepN (roundsN st ws k) (keysN.getD k 0) (ws.getD k 0) := rfl
      have HSU := hidH hsucc
      obtain ⟨v, hv⟩ : ∃ v, roundsN st ws k = v := ⟨_, rfl⟩
      rw [hv] at HSU hN hl8 hla
      clear hv hsucc
      have ck := hK.2.2.1.cell k (by rw [keysN_len]; exact hlt)
      have cw := hK.2.2.2.1.cell k (by rw [HWL.out]; exact hlt)
      have hkk : keysN.getD k 0 < 4294967296 := keysN_all.get k
      have hww := hwA.get k
      generalize keysN.getD k 0 = kk at *
      generalize ws.getD k 0 = ww at *
      obtain ⟨x0, x1, x2, x3, x4, x5, x6, x7, rfl⟩ := eight hl8
      have c0 := hN.cell 0 (by simp)
      have c1 := hN.cell 1 (by simp)
      have c2 := hN.cell 2 (by simp)
      have c3 := hN.cell 3 (by simp)
      have c4 := hN.cell 4 (by simp)
      have c5 := hN.cell 5 (by simp)
      have c6 := hN.cell 6 (by simp)
      have c7 := hN.cell 7 (by simp)
      simp at c0 c1 c2 c3 c4 c5 c6 c7
      have HN := hidH hN
      have HK := hidH hK
      have HLA := hidH (And.intro hla hl8)
      clear hN hK hla hl8
      go_wp2
      go_still_tail 7, (by kernel_rfl)
      change wpList _ _ _ _ _ wr.drew
      have HN2 := hidH (show Urow wr.drew g7 96 _ from Blk.below HN.out (Below.refl _ wr).drew)
      have HK2 := hidH (HK.out.below (Below.refl _ wr).drew)
      have hrnd := rnd_any [x0, x1, x2, x3, x4, x5, x6, x7] kk ww wr.drew HLA.out.1 HLA.out.2 hkk hww
      rw [show U [x0, x1, x2, x3, x4, x5, x6, x7] = #[.int .u32 (x0 : Int), .int .u32 (x1 : Int), .int .u32 (x2 : Int), .int .u32 (x3 : Int), .int .u32 (x4 : Int), .int .u32 (x5 : Int), .int .u32 (x6 : Int), .int .u32 (x7 : Int)] from rfl] at hrnd
      obtain ⟨nv, hnv⟩ : ∃ nv, stepN [x0, x1, x2, x3, x4, x5, x6, x7] kk ww = nv := ⟨_, rfl⟩
      have hnL : nv.length = 8 := by rw [← hnv]; rfl
      rw [hnv] at hrnd HSU
      have HRND := hidH hrnd
      have HNL := hidH (show (Try.prog.info? 96).map (·.size) = some (U nv).size by rw [U_size, hnL]; kernel_rfl)
      have HNO := hidH (U_one nv)
      have HNS := hidH (show (U [x0, x1, x2, x3, x4, x5, x6, x7]).size = (U nv).size by rw [U_size, U_size, hnL]; rfl)
      clear hrnd hnv hnL c0 c1 c2 c3 c4 c5 c6 c7 ck cw HN HK HLA
      generalize wr.drew = w2 at *
      obtain ⟨nu, hnu⟩ : ∃ nu, U nv = nu := ⟨_, rfl⟩
      rw [hnu] at HRND HNL HNO HNS
      have HNU := hidH hnu
      clear hnu
      go_wp2_with (first | (go_at_call 87; refine (HRND.out).mono ?_; rintro e w3 ⟨rfl, b3⟩; have HN3 := hidH (Blk.below HN2.out b3); have HK3 := hidH (HK2.out.below b3); clear b3 HN2 HK2) | refine wpList_store_rowTo rfl _ _ _ rfl rfl g7 nu rfl rfl 96 _ HN3.out HNL.out HNS.out HNO.out ?_)
      go_roundw
      case rel => exact ⟨k + 1, by omega, by go_num, by rw [HSU.out, Urow, HNU.out]; exact setRow_heap _ _ _ _ _ _ HN3.out, HK3.out.row g7 (by have := SZ.out; omega) (by have := SZ.out; omega) (by have := SZ.out; omega) _⟩
      case measure => simp [intOf]; omega
    · obtain rfl : k = 64 := by omega
      obtain ⟨R, hR⟩ : ∃ R, roundsN st ws 64 = R := ⟨_, rfl⟩
      have hRL : R.length = 8 := by rw [← hR]; exact roundsN_len (st := st) (ws := ws) H8.out 64
      have hRA : AllW R := by rw [← hR]; exact roundsN_all (st := st) (ws := ws) hst 64
      have HCMP := hidH (show (List.range 8).map (sumN st R) = compN st l by rw [compN, HWS.out, hR])
      rw [hR, ← mixN_zero st R hRL] at hN
      have HN := hidH hN
      have HK := hidH hK
      clear hN hK hR hRL hlt hk N7 K1
      rw [show ((64 : Nat) : Int) = 64 from rfl]
      go_wp2
      go_loopw [26] (fun i wr => ∃ k : Nat, k ≤ 8 ∧ i = .int .i64 k ∧ Urow wr g7 96 (mixN st R k) ∧ KC w st ws z g5 g6 wr) (fun i _ => 8 - (intOf i).toNat)
      case atStart => exact ⟨0, by omega, rfl, HN.out, HK.out⟩
      case round =>
        obtain ⟨k, hk, rfl, hN, hK⟩ := hrel
        by_cases hlt : k < 8
        · have hlt2 : (k : Int) < 8 := by omega
          have hlt0 : (0 : Int) ≤ (k : Int) := by omega
          have c1 := hN.cell k (by rw [mixN_len]; exact hlt)
          rw [mixN_get _ _ _ hlt] at c1
          have f1 := Blk.frozen hN k
          have c2 := hK.1.cell k (by rw [H8.out]; exact hlt)
          have hs := hidH (mixN_succ st R k hlt)
          have h1 := hRA.get k
          have h2 := hst.get k
          generalize R.getD k 0 = x at *
          generalize st.getD k 0 = y at *
          have HN2 := hidH hN
          have HK2 := hidH hK
          clear hN hK
          go_wp2
          go_region
          have hv : ((x : Int) + (y : Int)) % 4294967296 = (((x + y) % 4294967296 : Nat) : Int) := by simp
          rw [hv]
          clear hv c1 f1 c2
          go_wp2
          go_roundw
          case rel => exact ⟨k + 1, by omega, by go_num, by rw [← hs.out]; exact Blk.below (HN2.out.set k _) (Below.refl _ _).drew, (HK2.out.cell g7 k (by have := SZ.out; omega) (by have := SZ.out; omega) (by have := SZ.out; omega) _).below (Below.refl _ _).drew⟩
          case measure => simp [intOf]; omega
        · obtain rfl : k = 8 := by omega
          rw [mixN_end, HCMP.out] at hN
          obtain ⟨os, hos⟩ : ∃ os, U (compN st l) = os := ⟨_, rfl⟩
          have hcL : (compN st l).length = 8 := by simp [compN]
          have HOL := hidH (show (Try.prog.info? 96).map (·.size) = some os.size by rw [← hos, U_size, hcL]; kernel_rfl)
          have HOO := hidH (show os.all (·.oneCell') = true from hos ▸ U_one _)
          have HOS := hidH (show z.size = os.size by rw [HZS.out, ← hos, U_size, hcL, ← HS.out, U_size, H8.out])
          rw [Urow, hos] at hN
          have HN3 := hidH hN
          have HK3 := hidH hK
          have HOE := hidH hos
          clear hN hK hos hcL hlt hk
          go_wp2_with (first | refine wpList_load_row rfl 96 _ rfl g7 rfl 96 os (0, 0) (.array 8 94) HN3.out (by kernel_rfl) rfl HOL.out ?_ | refine wpList_store_rowTo rfl _ _ _ rfl rfl (w.heap.size + 1 + 1) os rfl rfl 96 _ HK3.out.2.1 HOL.out HOS.out HOO.out ?_)
          exact bodyPost_ret (v := .agg os) (results_cell_row rfl _ _ (w.heap.size + 1 + 1) 96 _ (0, 0) (.array 8 94) rfl (setRow_heap _ _ _ _ _ _ HK3.out.2.1) (by kernel_rfl) rfl HOL.out) rfl ⟨by rw [HOE.out], below_setRow HK3.out.2.2.2.2 (by omega) _⟩
end Go.Proofs.Ytacdnednkglobaa
