/- DrawReadPacket: some bytes. -/
import Derived.Test.YtepcikghhnfacaaDoorDrR
import Derived.Deep.LoopGhost
namespace Go.Proofs.YtepcikghhnfacaaDoor
open Go.RowKit Go.Deep

theorem pkL_len {tag : Int} {cs : List Chk} (hc : ∀ x ∈ cs, chkOk x) (h1 : 1 ≤ cs.length) (h4 : cs.length ≤ 4) : 12 ≤ (pkL tag cs).length ∧ (pkL tag cs).length ≤ 680 := by
  constructor
  · rw [pkL, rawL_eq]
    rcases cs with _ | ⟨x, r⟩
    · simp at h1
    · simp only [List.length_append, List.flatMap_cons, chkL, chL_len, pk, List.length_cons, List.length_nil]
      omega
  · have := rawTo_len tag (sumOf tag cs) cs hc cs.length (Nat.le_refl _)
    rw [pkL, rawL]
    omega
theorem own_take {w : World} {B n k c : Nat} {e : TypeId} {P : Option Addr} {xs : List Value} (h : w.ownsRow B e 1 (.slice P n c) n xs) (hk : k ≤ n) (hp : 0 < n) : w.ownsRow B e 1 (.slice P k c) k (xs.take k) := by
  obtain ⟨h1, ⟨_, hn⟩ | ⟨g, cap, cur, hv, hg, hblk, hnc, hm, hs, ht⟩⟩ := h
  · omega
  · simp only [Value.slice.injEq] at hv
    obtain ⟨rfl, _, rfl⟩ := hv
    refine ⟨by rw [List.length_take]; omega, .inr ⟨g, c, cur, rfl, hg, hblk, by omega, hm, hs, ?_⟩⟩
    rw [← ht, List.take_take]
    congr 1
    omega
/-- Some bytes come back, in memory of the call's own. -/
def OutB (w : World) (e : Ending) (w' : World) : Prop :=
  ∃ (D : List Int) (X : Option Addr) (cx : Nat), e = .returned (.slice X D.length cx) ∧ Bytes D ∧ D.length ≤ 1000 ∧ Bs w' X D ∧ D.length ≤ cx ∧ (cx : Int) ≤ 9223372036854775807 ∧ Below w.heap.size w w'
theorem bytes_take {l : List Int} (h : Bytes l) (n : Nat) : Bytes (l.take n) := fun x hx => h x (List.mem_of_mem_take hx)
theorem bytes_drop {l : List Int} (h : Bytes l) (n : Nat) : Bytes (l.drop n) := fun x hx => h x (List.mem_of_mem_drop hx)
theorem crc_word {l : List Int} (h : Bytes l) : (0 : Int) ≤ ((crcV (nB l) : Nat) : Int) ∧ ((crcV (nB l) : Nat) : Int) ≤ 4294967295 := by
  have := crcV_lt (nB_lt h)
  omega
set_option maxRecDepth 100000 in
set_option maxHeartbeats 4000000 in
theorem drawReadPacket_any (A : Option Addr) (l : List Int) (c : Nat) (w : World) (hA : Bs w A l) (hl : Bytes l) (hm : (l.length : Int) ≤ 1048576) :
    Calls Tryd.prog 8 #[.slice A l.length c] w (OutB w) := by
  go_enter Tryd.func8, Tryd.ntmps8
  go_wp2_with fail
  refine (source_any A l c w hA hl hm).mono ?_
  rintro e w1 ⟨rfl, S1, b1⟩
  have hg1 := S1.lt
  go_wp2_with fail
  refine (l4Packet_any _ A l c 0 w1 S1 (by omega)).mono ?_
  rintro e w2 ⟨tag, cs, P, cp, T, rfl, ht, hcs, ⟨hc1, hc4⟩, hG, hS, hw⟩
  have hsz := hw.size
  have B2 := b1.trans (hw.below (Nat.le_of_lt hg1))
  have hcc : ∀ x ∈ cs, chkOk x := fun x hx => (hcs x hx).1
  have hcb : ∀ x ∈ cs, Bytes x.body := fun x hx => (hcs x hx).2
  have B3 := bal (Below.refl w2.heap.size w2) (.cells #[.int .i64 tag, .slice P cs.length cp] 26)
  have PB : PkB (w2.alloc (.cells #[.int .i64 tag, .slice P cs.length cp] 26)) w2.heap.size 0 tag P cs cp :=
    ⟨by simp, (Blk.new w2 26 _).cell 0, (Blk.new w2 26 _).cell 1, hG.ocs.cs.below (bal (Below.refl _ w2) _)⟩
  have hD1 := pkL_len (tag := tag) hcc hc1 hc4
  have hD2 : Bytes (pkL tag cs) := rawL_bytes ht.1 ht.2 (sumOf_word ht.1 ht.2 hcc hcb).1 (sumOf_word ht.1 ht.2 hcc hcb).2 hcc hcb
  obtain ⟨w3, hw3⟩ : ∃ w3, w2.alloc (.cells #[.int .i64 tag, .slice P cs.length cp] 26) = w3 := ⟨_, rfl⟩
  have hs3 : w3.heap.size = w2.heap.size + 1 := by rw [← hw3]; simp
  rw [hw3] at PB B3
  have HP := hidH (l4Pack_any w2.heap.size 0 tag P cs cp w3 PB ht.1 ht.2 hcc hcb (by omega))
  obtain ⟨D, hD⟩ : ∃ D, pkL tag cs = D := ⟨_, rfl⟩
  rw [hD] at HP hD1 hD2
  have HW3 := hidH hw3
  have HS3 := hidH (hS.below B3)
  have HB3 := hidH (b1.trans ((hw.below (Nat.le_of_lt hg1)).trans (B3.mono (by omega))))
  have HL := hidH (show w.heap.size + 1 ≤ w3.heap.size by omega)
  have HDB := hidH hD2
  have h12 : (12 : Int) ≤ (D.length : Int) := by omega
  have h680 : (D.length : Int) ≤ 680 := by omega
  unfold pkV
  clear S1 b1 hg1 ht hcs hc1 hc4 hG hS hw hsz B2 hcc hcb B3 PB hD1 hD2 hw3 hs3 hD hA
  go_wp2_with fail
  rw [HW3.out]
  refine HP.out.mono ?_
  rintro e w4 ⟨v, rfl, ow, b4⟩
  obtain ⟨X, cx, rfl, ob, hcx, hcm⟩ := own_ob ow
  have HB4 := HB3.out.trans (b4.mono (by have := HL.out; omega))
  have hsz4 := b4.size
  obtain ⟨d, off, rfl, hd1, hd2, hd3, hcl⟩ : ∃ d off, X = some ⟨d, off, none⟩ ∧ w3.heap.size ≤ d ∧ d < w4.heap.size ∧ w4.heap.size ≤ w4.heap.size ∧ Ob w3.heap.size w4.heap.size w4 X D := by
    rcases ob with h | ⟨d, off, h1, h2, h3, h4, h5⟩
    · rw [h] at h12; simp at h12
    · exact ⟨d, off, h1, h2, h3, h4, by rw [h1]; exact .inr ⟨d, off, rfl, h2, h3, h4, h5⟩⟩
  have HS4 := HS3.out.below b4
  obtain ⟨a4, S4, ha4⟩ := HS4
  have HO := hidH hcl
  have HC := hidH (And.intro hcx hcm)
  have HBB := hidH HB4
  have HD1 := hidH (show w.heap.size < d by have := HL.out; omega)
  clear HP HW3 HS3 HB3 ow ob b4 hcx hcm HB4 hsz4 hd1 hd2 hd3 hcl
  go_wp2_with fail
  refine (next_any _ A l c a4 8 w4 S4 (by omega)).mono ?_
  rintro e w5 ⟨y, rfl, -, -, S5, V5, -⟩
  have HO5 := hidH (HO.out.win V5 (.inr HL.out))
  have HB5 := hidH (HBB.out.trans (V5.below (Nat.le_of_lt S4.lt)))
  have HS5 := hidH (show SrcLe w5 w.heap.size A l c 300 from ⟨_, S5, by omega⟩)
  clear S4 S5 V5 ha4 HO HBB
  by_cases hy : y = 0
  · subst hy
    go_wp2_with fail
    refine wp_region_any (by kernel_rfl) ?_
    refine regDr _ _ _ _ _ _ _ _ _ _ _ _ _ _ _ _ _ _ w w.heap.size d off w3.heap.size w4.heap.size w.heap.size cx D A l c 300 HDB.out (by omega) (by omega) HL.out HD1.out (Nat.le_refl _) (Nat.le_of_lt HD1.out) (by omega) (by kernel_rfl) (by kernel_rfl) (by kernel_rfl) rfl ⟨(fun h => h), (fun h => h)⟩ (fun h => h) (fun h => h) (fun h => h) (fun h => h) (fun h => h) (fun h => h) (fun _ => HO5.out.below (Below.refl _ _).drew) (HS5.out.below (Below.refl _ _).drew) (HB5.out.trans (Below.refl _ _).drew) ?_
    intro s20 s21 s22 s23 s24 s25 s26 s27 s28 s29 s30 s31 s32 W hW hX
    obtain ⟨D2, hl2, hb2, ho2⟩ := hX
    have HF := hidH (show OutB w (.returned (.slice (some ⟨d, off, none⟩) D.length cx)) W from ⟨D2, _, cx, by rw [hl2], hb2, by omega, ho2.bs, by rw [hl2]; exact HC.out.1, HC.out.2, hW⟩)
    clear hW hl2 hb2 ho2
    go_wp2
    go_ret
    exact HF.out
  have n0 := ne_beq hy
  clear hy
  by_cases hy : y = 1
  · subst hy
    obtain ⟨a5, S5, ha5⟩ := HS5.out
    go_wp2_with fail
    refine (next_any _ A l c a5 ((D.length : Int) - 8) w5 S5 (by omega)).mono ?_
    rintro e w6 ⟨v, rfl, v0, v1, S6, V6, -⟩
    obtain ⟨k, hk⟩ : ∃ k : Nat, 8 + v = (k : Int) := ⟨(8 + v).toNat, by omega⟩
    have hkD : k < D.length := by omega
    have hv9 : v ≤ 700 := by omega
    have HO6 := hidH (HO5.out.win V6 (.inr HL.out))
    have HB6 := hidH (HB5.out.trans (V6.below (Nat.le_of_lt S5.lt)))
    have HS6 := hidH (show SrcLe w6 w.heap.size A l c 301 from ⟨_, S6, by omega⟩)
    have HKD := hidH hkD
    have HK := hidH hk
    clear S5 S6 V6 ha5 HO5 HB5 HS5 v1 hkD hk
    go_wp2_with fail
    rw [HK.out]
    clear v0 hv9
    refine wp_region_any (by kernel_rfl) ?_
    refine regDs _ _ _ _ _ _ _ _ _ _ _ _ _ _ _ _ _ _ _ _ _ _ _ _ _ _ _ _ _ _ _ _ _ _ _ _ _ _ w w.heap.size d off w3.heap.size w4.heap.size w.heap.size cx k D A l c 301 HDB.out HKD.out (by omega) HL.out HD1.out (Nat.le_refl _) (Nat.le_of_lt HD1.out) (by omega) (by kernel_rfl) (by kernel_rfl) (by kernel_rfl) rfl ⟨(fun h => h), (fun h => h)⟩ ⟨(fun h => h), (fun h => h)⟩ (fun h => h) (fun h => h) (fun _ => HO6.out.below (Below.refl _ _).drew) (HS6.out.below (Below.refl _ _).drew) (HB6.out.trans (Below.refl _ _).drew) ?_
    intro s41 s42 s43 s44 s45 s46 s47 s48 s49 s50 W hW hX
    obtain ⟨D2, hl2, hb2, ho2⟩ := hX
    have HX := hidH (And.intro hl2 (And.intro hb2 (And.intro ho2 hW)))
    clear hW hl2 hb2 ho2 HO6 HB6 HS6 HK HKD
    go_wp2
    go_loopg [7] 4 (fun q u wr => ∃ (j : Nat) (D3 : List Int), 8 - j = q ∧ j ≤ 8 ∧ u = .int .i64 (j : Int) ∧ D3.length = D.length ∧ Bytes D3 ∧ Ob w3.heap.size w4.heap.size wr (some ⟨d, off, none⟩) D3 ∧ Below w.heap.size w wr)
    case atStart => exact ⟨4, D2, rfl, by omega, rfl, HX.out.1, HX.out.2.1, HX.out.2.2.1, HX.out.2.2.2⟩
    case round =>
      obtain ⟨j, D3, rfl, hj8, rfl, hl3, hb3, ho3, hB3⟩ := hrel
      have HL3 := hidH hl3
      have HB3 := hidH hb3
      have HBW := hidH hB3
      clear hl3 hb3 hB3
      by_cases hj : j < 8
      · have hjI : (j : Int) < 8 := by omega
        have hjD : (j : Int) < (D.length : Int) := by omega
        have hj0 : (0 : Int) ≤ (j : Int) := by omega
        have hjn : j < D3.length := by have := HL3.out; omega
        obtain ⟨b9, o9, q9, hB9, hC9, hw9, hc9⟩ := ho3.resolve_left (fun e => by rw [e] at hjn; simp at hjn)
        simp only [Option.some.injEq, Addr.mk.injEq, and_true] at q9
        obtain ⟨rfl, rfl⟩ := q9
        have q0 := (hc9 j hjn).1
        have f0 := (hc9 j hjn).2
        obtain ⟨y, hy⟩ : ∃ y, D3.getD j 0 = y := ⟨_, rfl⟩
        rw [hy] at q0
        have HN := hidH (show Ob w3.heap.size w4.heap.size (wr.setCell ⟨d, off + j, none⟩ (.int .u8 0)) (some ⟨d, off, none⟩) (D3.set j 0) from ob_set 0 hB9 hC9 hw9 hjn hc9)
        have HJ := hidH (And.intro hj hjn)
        clear hy hc9 ho3 hj hjn hw9 hC9 hB9 hj8
        go_wp2
        go_roundg (8 - (j + 1))
        case measure => have := HJ.out.1; omega
        case rel => exact ⟨j + 1, D3.set j 0, rfl, by have := HJ.out.1; omega, by go_num, by rw [List.length_set]; exact HL3.out, (fun z hz => (List.mem_or_eq_of_mem_set hz).elim (HB3.out z) (fun e => by subst e; omega)), HN.out, HBW.out.setCell (p := ⟨d, off + j, none⟩) (Nat.le_of_lt HD1.out) _⟩
      · have hjI : ¬ (j : Int) < 8 := by omega
        have HO3 := hidH ho3
        have hd8 : (D3.length : Int) ≤ 9223372036854775807 := by have := HL3.out; omega
        have HCR := hidH (crc_any (some ⟨d, off, none⟩) D3 cx wr ho3.bs HB3.out hd8)
        rw [HL3.out] at HCR
        have hcw := crc_word HB3.out
        obtain ⟨sum, hsum⟩ : ∃ s, ((crcV (nB D3) : Nat) : Int) = s := ⟨_, rfl⟩
        rw [hsum] at hcw HCR
        clear ho3 hd8 hsum hj hj8
        go_wp2_with fail
        refine HCR.out.mono ?_
        rintro e w7 ⟨rfl, dn, rfl⟩
        go_wp2_with fail
        refine (l1Pack_any sum _ hcw.1 hcw.2).mono ?_
        rintro e w8 ⟨rfl, hw8⟩
        have HBS := lit_bs (wr.drewN dn) 5 (pk sum)
        rw [show (wr.drewN dn).alloc (.cells ((pk sum).map (Value.int .u8)).toArray 5) = w8 from hw8] at HBS
        have B8 := below_drewN (Below.refl wr.heap.size wr) dn
        have B9 : Below (wr.drewN dn).heap.size (wr.drewN dn) w8 := by rw [← hw8]; exact bal (Below.refl _ _) _
        have HA8 := bs_below (bs_below HO3.out.bs B8) B9
        have HF8 := hidH (HBW.out.trans ((B8.trans B9).mono HBW.out.size))
        have HT4 := hidH (cutA_take (n := 4) HA8 (by have := HL3.out; omega))
        have HT8 := hidH (cutA_drop (i := 8) (c := cx) HA8 (by have := HL3.out; omega) (by have := HL3.out; have := HC.out.1; omega))
        have HSS := hidH HBS
        have HPB := hidH (show Bytes (D3.take 4 ++ (pk sum ++ D3.drop 8)) from bytes_app0 (bytes_take HB3.out 4) (bytes_app0 (pk_bytes0 hcw.1 hcw.2) (bytes_drop HB3.out 8)))
        have e4 : (D3.take 4).length = 4 := by rw [List.length_take]; have := HL3.out; omega
        have e8 : (D3.drop 8).length = D.length - 8 := by rw [List.length_drop, HL3.out]
        have HCUT4 := hidH (cut_h (some ⟨d, off, none⟩) D.length cx (D3.take 4).length 4 (by rw [e4]; rfl) (by rw [e4]; have := HC.out.1; omega))
        have HCUT8 := hidH (fun u => by have q := cut_l (some ⟨d, off, none⟩) D.length cx 8 8 rfl (by omega) u; rw [← e8] at q; exact q)
        have HE := hidH (And.intro e4 e8)
        clear HCR hw8 HBS B8 B9 HA8 HO3 hcw e4 e8 HX
        go_wp2_with fail
        refine wp_region_any (by kernel_rfl) ?_
        refine regDt _ _ _ _ _ _ _ _ _ _ _ _ _ _ _ _ _ _ _ _ _ _ _ _ _ _ _ _ _ _ _ _ _ _ _ _ _ _ _ _ _ _ _ _ _ _ _ _ _ _ _ _ _ _ _ _ _ _ _ (some ⟨d, off, none⟩) (some ⟨(wr.drewN dn).heap.size, 0, none⟩) (cutA (some ⟨d, off, none⟩) 8 cx) D.length cx 4 (cx - 8) (D3.take 4) (pk sum) (D3.drop 8) (by have := HE.out.1; have := HE.out.2; simp only [pk, List.length_cons, List.length_nil]; omega) HCUT4.out HCUT8.out (by kernel_rfl) (by kernel_rfl) (by kernel_rfl) rfl ⟨(fun h => h), (fun h => h), (fun h => h), (fun h => h), (fun h => h), (fun h => h), (fun h => h)⟩ (Below.refl _ _) (hidH (bs_below HT4.out (Below.refl _ _).drew)) (hidH (bs_below HSS.out (Below.refl _ _).drew)) (hidH (bs_below HT8.out (Below.refl _ _).drew)) ?_
        intro s5 s61 s62 s63 s64 s65 s66 s67 s68 W hW hX
        obtain ⟨X9, c9, rfl, ob9, hc9, hm9⟩ := own_ob (d := D3.take 4 ++ (pk sum ++ D3.drop 8)) (by simpa [Nat.add_assoc] using hX)
        have HF := hidH (show OutB w (.returned (.slice X9 (D3.take 4 ++ (pk sum ++ D3.drop 8)).length c9)) W from ⟨_, X9, c9, rfl, HPB.out, by have := HE.out.1; have := HE.out.2; simp only [pk, List.length_append, List.length_cons, List.length_nil]; omega, ob9.bs, hc9, hm9, HF8.out.trans (((Below.refl w8.heap.size w8).drew.trans hW).mono HF8.out.size)⟩)
        obtain ⟨n9, hn9⟩ : ∃ n, (D3.take 4 ++ (pk sum ++ D3.drop 8)).length = n := ⟨_, rfl⟩
        rw [hn9] at HF
        rw [hn9]
        clear hX hW ob9 hc9 hm9 hn9 HPB HCUT4 HCUT8 HT4 HT8 HSS HE
        go_wp2
        go_ret
        exact HF.out
  have n1 := ne_beq hy
  clear hy
  by_cases hy : y = 2
  · subst hy
    have KN := hidH (HS5.out.below (bal (Below.refl w5.heap.size w5) (.cells #[.int .i64 0, .int .i64 7, .int .i64 8, .int .i64 12, .int .i64 501] 2)))
    have hwr := HS5.out.lt
    go_wp2_with fail
    obtain ⟨a6, S6, ha6⟩ := KN.out
    refine (pick_any _ A l c a6 w5.heap.size [0, 7, 8, 12, 501] _ S6 (by omega) (Ns.of_blk (t := 2) (Blk.new w5 _ _)) (by simp) (by simp) (by omega)).mono ?_
    rintro e w6 ⟨y6, a7, rfl, hy6, ha7, S7, V7⟩
    obtain ⟨N, rfl, hN⟩ : ∃ N : Nat, y6 = N ∧ N ≤ 501 := by
      simp at hy6
      rcases hy6 with rfl | rfl | rfl | rfl | rfl
      · exact ⟨0, rfl, by omega⟩
      · exact ⟨7, rfl, by omega⟩
      · exact ⟨8, rfl, by omega⟩
      · exact ⟨12, rfl, by omega⟩
      · exact ⟨501, rfl, by omega⟩
    have hb5 := HB5.out.size
    have HB6 := hidH (HB5.out.trans (((bal (Below.refl w5.heap.size w5) (.cells #[.int .i64 0, .int .i64 7, .int .i64 8, .int .i64 12, .int .i64 501] 2)).mono hb5).trans (V7.below (Nat.le_of_lt S6.lt))))
    clear hy6 V7 S6 KN hb5
    go_wp2_with fail
    refine (some_any N _ A l c a7 w6 S7 (by omega) (by omega)).mono ?_
    rintro e w7 ⟨v7, d7, a8, rfl, hd7, hl7, O7, S8, ha8, V8⟩
    obtain ⟨X7, c7, rfl, o7, hc7, hm7⟩ := own_ob O7
    have HF := hidH (show OutB w (.returned (.slice X7 d7.length c7)) w7 from ⟨d7, X7, c7, rfl, hd7, by omega, o7.bs, hc7, hm7, HB6.out.trans (V8.below (Nat.le_of_lt S7.lt))⟩)
    clear S7 S8 V8 O7 o7 hc7 hm7 hd7 hl7 ha7 ha8
    go_wp2
    go_ret
    exact HF.out
  have n2 := ne_beq hy
  clear hy
  by_cases hy : y = 3
  · subst hy
    obtain ⟨a6, S6, ha6⟩ := HS5.out
    go_wp2_with fail
    refine (some_any 4 _ A l c a6 w5 S6 (by omega) (by omega)).mono ?_
    rintro e w7 ⟨v7, d7, a8, rfl, hd7, hl7, O7, S8, ha8, V8⟩
    have HO7 := hidH (O7.alloc (.cells #[.int .u8 0, .int .u8 0, .int .u8 0, .int .u8 0] 5))
    have HZ := hidH (lit_bs w7 5 [0, 0, 0, 0])
    have HB7 := hidH (HB5.out.trans (V8.below (Nat.le_of_lt S6.lt)))
    have HD7 := hidH (And.intro hd7 hl7)
    have h57 := V8.size
    clear S6 S8 V8 O7 hd7 ha8 ha6
    go_wp2_with (at_builtin; refine wpList_append_bs rfl _ _ rfl w5.heap.size _ _ _ rfl HO7.out (some ⟨w7.heap.size, 0, none⟩) [0, 0, 0, 0] 4 rfl HZ.out (by simp; omega) (by simp; omega) ?_)
    intro v8 w8 ow hg
    have B8 : Below w5.heap.size w7 w8 := ((bal (Below.refl w7.heap.size w7) (.cells #[.int .u8 0, .int .u8 0, .int .u8 0, .int .u8 0] 5)).mono h57).grown hg (by simp; omega) (fun k hk => (HO7.out.lt k hk).1)
    have ow' : w8.ownsRow w5.heap.size 5 1 v8 (d7 ++ [0, 0, 0, 0]).length ((d7 ++ [0, 0, 0, 0]).map (Value.int .u8)) := by have h7 := HD7.out.2; simpa [h7] using ow
    obtain ⟨X8, c8, rfl, o8, hc8, hm8⟩ := own_ob ow'
    have e8 : (d7 ++ [0, 0, 0, 0]).length = 8 := by simp; have := HD7.out.2; omega
    have HBY := hidH (show Bytes (d7 ++ [0, 0, 0, 0]) from bytes_app0 HD7.out.1 (fun x hx => by simp at hx; omega))
    have HOW := own_take (k := 4) ow' (by omega) (by omega)
    have t4 : ((d7 ++ [0, 0, 0, 0]).map (Value.int .u8)).take 4 = d7.map (Value.int .u8) := by
      have h7 := HD7.out.2
      rw [List.map_append, List.take_append_of_le_length (by simp; omega), List.take_of_length_le (by simp; omega)]
    rw [t4] at HOW
    have HCR := crc_any X8 (d7 ++ [0, 0, 0, 0]) c8 w8 o8.bs HBY.out (by rw [e8]; omega)
    rw [e8] at HCR hc8
    rw [e8]
    have hcw := crc_word HBY.out
    obtain ⟨sum, hsum⟩ : ∃ s, ((crcV (nB (d7 ++ [0, 0, 0, 0])) : Nat) : Int) = s := ⟨_, rfl⟩
    rw [hsum] at hcw HCR
    have HC8 := hidH HCR
    have HO8 := hidH HOW
    have HB8 := hidH (HB7.out.trans (B8.mono (HB5.out.size)))
    have h58 := B8.size
    have H58 := hidH (show w5.heap.size ≤ w8.heap.size by omega)
    have HCUT := hidH (cut_h X8 8 c8 4 4 rfl (by omega))
    clear ow ow' o8 hm8 e8 t4 HCR HOW hsum hg B8 HBY HO7 HZ HB7 h57 h58 hl7
    go_wp2_with fail
    refine HC8.out.mono ?_
    rintro e w9 ⟨rfl, dn, rfl⟩
    go_wp2_with fail
    refine (l1Pack_any sum _ hcw.1 hcw.2).mono ?_
    rintro e w10 ⟨rfl, hw10⟩
    have HBS := lit_bs (w8.drewN dn) 5 (pk sum)
    rw [show (w8.drewN dn).alloc (.cells ((pk sum).map (Value.int .u8)).toArray 5) = w10 from hw10] at HBS
    have HOA := ((own_drewN HO8.out dn).alloc (.cells ((pk sum).map (Value.int .u8)).toArray 5))
    rw [show (w8.drewN dn).alloc (.cells ((pk sum).map (Value.int .u8)).toArray 5) = w10 from hw10] at HOA
    have B9 : Below (w8.drewN dn).heap.size (w8.drewN dn) w10 := by rw [← hw10]; exact bal (Below.refl _ _) _
    have B10 := (below_drewN (Below.refl w8.heap.size w8) dn).trans B9
    have h10 := B10.size
    have HSS := hidH HBS
    have HO10 := hidH HOA
    have HB10 := hidH (HB8.out.trans (B10.mono HB8.out.size))
    have HPB := hidH (show Bytes (d7 ++ pk sum) from bytes_app0 HD7.out.1 (pk_bytes0 hcw.1 hcw.2))
    have h5b := HB5.out.size
    have HSZ := hidH (show w5.heap.size ≤ w10.heap.size by have := H58.out; omega)
    have hsl := HCUT.out
    clear HBS HOA B9 B10 hw10 h10 HC8 hcw h5b
    go_wp2_with (at_builtin; refine wpList_append_bs rfl _ _ rfl w5.heap.size _ _ _ rfl HO10.out (some ⟨(w8.drewN dn).heap.size, 0, none⟩) (pk sum) 4 rfl HSS.out (by simp [pk]) HSZ.out ?_)
    intro v11 w11 ow hg
    have B11 : Below w5.heap.size w10 w11 := (Below.refl w5.heap.size w10).grown hg HSZ.out (fun k hk => (HO10.out.lt k hk).1)
    obtain ⟨X9, c9, rfl, ob9, hc9, hm9⟩ := own_ob (d := d7 ++ pk sum) (by have h7 := HD7.out.2; simpa [h7] using ow)
    have HF := hidH (show OutB w (.returned (.slice X9 (d7 ++ pk sum).length c9)) w11 from ⟨_, X9, c9, rfl, HPB.out, by have := HD7.out.2; simp [pk]; omega, ob9.bs, hc9, hm9, HB10.out.trans (B11.mono HB5.out.size)⟩)
    obtain ⟨n9, hn9⟩ : ∃ n, (d7 ++ pk sum).length = n := ⟨_, rfl⟩
    rw [hn9] at HF
    rw [hn9]
    clear ow hg B11 ob9 hc9 hm9 hn9 HPB HSS HO10
    go_wp2
    go_ret
    exact HF.out
  have n3 := ne_beq hy
  clear hy
  have HF := hidH (show OutB w (.returned (.slice (some ⟨d, off, none⟩) D.length cx)) w5 from ⟨D, _, cx, rfl, HDB.out, by omega, HO5.out.bs, HC.out.1, HC.out.2, HB5.out⟩)
  go_wp2
  go_ret
  exact HF.out
end Go.Proofs.YtepcikghhnfacaaDoor
