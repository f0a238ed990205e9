import Derived.Test.YtepcikghhnfacaaDoorJb0
import Derived.Test.YtepcikghhnfacaaDoorJb1
import Derived.Test.YtepcikghhnfacaaDoorGrL
import Derived.WalkLawsBesides

/- The program's PackPacket. -/
namespace Go.Proofs.YtepcikghhnfacaaDoor
open Go.RowKit Go.Deep

theorem rawL_len8 (tag sum : Int) (cs : List Chk) : 8 ≤ (rawL tag sum cs).length := by rw [rawL_eq]; simp [pk]
theorem rdSum_raw (tag : Int) (cs : List Chk) : rdSum (rawL tag 0 cs) = sumOf tag cs := by rw [rdSum, blankL_raw, sumOf]
theorem raw_at0 (tag sum : Int) (cs : List Chk) : ([pk tag, pk sum] : List (List Int)).flatten = rawTo tag sum cs 0 := by simp [rawTo]
theorem pkM_le (tag : Int) (cs : List Chk) : ((pkM tag cs).length : Int) ≤ 1000 := by
  unfold pkM
  split
  · next h =>
    obtain ⟨_, _, _, h500⟩ := pkF_zero h
    have e : (pkL tag cs).length = (rawL tag 0 cs).length := by rw [pkL, rawL_eq, rawL_eq]; simp [pk]
    omega
  · simp
theorem pack_ok (x : Int) (h0 : 0 ≤ x) (h1 : x ≤ 4294967295) (w : World) : Calls Tryd.prog 27 #[.int .i64 x] w (BRes w 0 (pk x)) := by
  have h := pack_impl x w
  rw [packC, packL, if_pos ⟨h0, h1⟩, if_pos ⟨h0, h1⟩] at h
  exact h
set_option maxRecDepth 100000 in
set_option maxHeartbeats 4000000 in
theorem packPacket_impl (tag : Int) (P : Option Addr) (cs : List Chk) (c : Nat) (w : World) (hP : Cs w P cs) (hm : (cs.length : Int) ≤ 9223372036854775807) (hbl : ∀ x ∈ cs, (x.body.length : Int) ≤ 9223372036854775807) (hbb : ∀ x ∈ cs, Bytes x.body) :
    Calls Tryd.prog 7 #[pkV tag P cs.length c] w (BRes w (pkF tag cs) (pkM tag cs)) := by
  have P1 : PkB (w.alloc (.cells #[.int .i64 tag, .slice P cs.length c] 26)) w.heap.size 0 tag P cs c :=
    ⟨by simp, (Blk.new w 26 _).cell 0, (Blk.new w 26 _).cell 1, hP.below (bal (Below.refl _ w) _)⟩
  have B1 := bal (Below.refl w.heap.size w) (.cells #[.int .i64 tag, .slice P cs.length c] 26)
  obtain ⟨w1, hw1⟩ : ∃ w1, w.alloc (.cells #[.int .i64 tag, .slice P cs.length c] 26) = w1 := ⟨_, rfl⟩
  have hs1 : w1.heap.size = w.heap.size + 1 := by rw [← hw1]; simp
  rw [hw1] at P1 B1
  have P2 := P1.below (bal (Below.refl w1.heap.size w1) (.cells #[.int .i64 0, .slice none 0 0] 29))
  have B2 := bal B1 (.cells #[.int .i64 0, .slice none 0 0] 29)
  have R2 := Blk.new w1 29 #[.int .i64 0, .slice none 0 0]
  obtain ⟨w2, hw2⟩ : ∃ w2, w1.alloc (.cells #[.int .i64 0, .slice none 0 0] 29) = w2 := ⟨_, rfl⟩
  rw [hw2, hs1] at R2
  rw [hw2] at P2 B2
  have HF := hidH (pkFault_impl tag P cs c w2 P2.list hm hbl)
  unfold pkV at HF ⊢
  have HW1 := hidH hw1
  have HW2 := hidH hw2
  have HP := hidH P2
  have HB := hidH B2
  have HR := hidH R2
  have HBB := hidH hbb
  clear hw1 hw2 P1 B1 P2 B2 R2 hP hs1 hm hbl hbb
  go_enter Tryd.func7, Tryd.ntmps7
  go_wp2_with fail
  rw [HW1.out, HW2.out]
  refine HF.out.mono ?_
  rintro e w3 ⟨rfl, b3⟩
  have HP3 := hidH (HP.out.below b3)
  have B3 := hidH (btr HB.out b3)
  have R3 := hidH (HR.out.below b3)
  clear HW1 HW2 HP HB HR HF b3
  by_cases hz : pkF tag cs = 0
  · obtain ⟨⟨t0, t1⟩, ⟨n1, n8⟩, ok, h500⟩ := pkF_zero hz
    have hM : pkM tag cs = pkL tag cs := by rw [pkM, if_pos hz]
    have HZM := hidH (And.intro hz hM)
    have hsw := sumOf_word t0 t1 ok HBB.out
    have PT := hidH (fun u => pack_ok tag t0 t1 u)
    have PZ := hidH (fun u => pack_ok 0 (by omega) (by omega) u)
    have PW := hidH (fun u => pack_ok (sumOf tag cs) hsw.1 hsw.2 u)
    have HOK := hidH ok
    have HBY := hidH (rawL_bytes (sum := 0) t0 t1 (by omega) (by omega) ok HBB.out)
    have HLE := hidH (rawTo_len tag 0 cs ok)
    have HSU := hidH (rawTo_succ tag 0 cs)
    have HSL := hidH (rawTo_lens tag 0 cs)
    have H8 := hidH (And.intro (rawL_len8 tag 0 cs) h500)
    have hn8 : (cs.length : Int) ≤ 8 := by omega
    have c0 := HP3.out.c0
    have c1 := HP3.out.c1
    have hlt := HP3.out.lt
    rw [hz]
    clear hz hM t0 t1 n1 n8 ok h500 hsw
    go_wp2_with fail
    refine (PT.out w3).mono ?_
    rintro e w4 ⟨A4, c4, rfl, O4, b4, _, _⟩
    rw [show (pk tag).length = 4 from rfl]
    have S4 := hidH O4.bs
    have f1 := fldB7
    clear O4
    go_wp2_with fail
    refine (PZ.out w4).mono ?_
    rintro e w5 ⟨A5, c5, rfl, O5, b5, _, _⟩
    rw [show (pk 0).length = 4 from rfl]
    have S5 := hidH (And.intro (bs_below S4.out b5) O5.bs)
    have B5 := hidH (btr b4 b5)
    clear O5 S4 b4 b5 c0 c1 hlt PT PZ
    go_wp2_with fail
    have K6 := Blk.new w5 22 #[.slice A4 4 c4, .slice A5 4 c5]
    have B6 := bal B5.out (.cells #[.slice A4 4 c4, .slice A5 4 c5] 22)
    have S6 := parts2 K6 (l1 := pk tag) (l2 := pk 0) rfl rfl (bs_below S5.out.1 (bal (Below.refl _ w5) _)) (bs_below S5.out.2 (bal (Below.refl _ w5) _))
    obtain ⟨w6, hw6⟩ : ∃ w6, w5.alloc (.cells #[.slice A4 4 c4, .slice A5 4 c5] 22) = w6 := ⟨_, rfl⟩
    rw [hw6] at K6 B6 S6 ⊢
    have CON := hidH (concat_all w5.heap.size 2 [pk tag, pk 0] w6 S6 (by simp) (by simp [pk]))
    rw [raw_at0 tag 0 cs] at CON
    have B6 := hidH B6
    clear K6 S6 S5 hw6
    refine CON.out.mono ?_
    rintro e w7 ⟨v7, rfl, o7, b7⟩
    have O7 := hidH (own_mono o7 B6.out.size)
    have B7 := hidH (btr B6.out b7)
    have HP7 := hidH (HP3.out.below B7.out)
    have q0 := HP7.out.c0
    have q1 := HP7.out.c1
    have hlt7 := HP7.out.lt
    clear CON o7 b7 B6 B5
    go_wp2
    go_loopw [4, 24] (fun v i wr => ∃ j : Nat, j ≤ cs.length ∧ i = .int .i64 j ∧ wr.ownsRow w3.heap.size 5 1 v (rawTo tag 0 cs j).length ((rawTo tag 0 cs j).map (Value.int .u8)) ∧ Below w3.heap.size w3 wr) (fun _ i _ => cs.length - (intOf i).toNat)
    case atStart => exact ⟨0, by omega, rfl, O7.out, B7.out⟩
    case round =>
      clear q0 q1 hlt7
      obtain ⟨j, hj, rfl, hown, hB⟩ := hrel
      have hle := HLE.out j hj
      by_cases hlt : j < cs.length
      · have hj0 : (0 : Int) ≤ (j : Int) := by omega
        have hj1 : (j : Int) < (cs.length : Int) := by omega
        obtain ⟨cg, co, rfl, hg, A, cb, CK⟩ := (HP3.out.below hB).list.get hlt
        have c0 := CK.c0
        have c1 := CK.c1
        have c2 := CK.c2
        obtain ⟨e1, e2, hb160⟩ := HOK.out cs[j] (List.getElem_mem hlt)
        have hzF : chF cs[j].kind cs[j].flags cs[j].body = 0 := by
          have h1 : inB cs[j].kind 0 255 = true := by simp [inB, e1]
          have h2 : inB cs[j].flags 0 255 = true := by simp [inB, e2]
          simp [chF, h1, h2, hb160]
        have HK := hidH (fun (u : World) (h : Bs u A cs[j].body) => packChunk_impl cs[j].kind cs[j].flags A cs[j].body cb u h (by omega))
        rw [chM, if_pos hzF, hzF] at HK
        unfold ckV at HK
        have SB := hidH CK.body
        have HSJ := hidH (And.intro (HSU.out j hlt) (chkL_len cs[j] hb160))
        have bo := bal (Below.refl wr.heap.size wr) (.cells #[.int .i64 cs[j].kind, .int .i64 cs[j].flags, .slice A cs[j].body.length cb] 49)
        have SB2 := hidH (bs_below SB.out bo)
        have B8 := hidH (btr hB bo)
        have O8 := hidH (own_below0 hown bo)
        have HLJ := hidH hle
        obtain ⟨w8, hw8⟩ : ∃ w8, wr.alloc (.cells #[.int .i64 cs[j].kind, .int .i64 cs[j].flags, .slice A cs[j].body.length cb] 49) = w8 := ⟨_, rfl⟩
        rw [hw8] at SB2 B8 O8
        have HW8 := hidH hw8
        clear CK SB bo hB hown hw8 hle e1 e2 hb160 hzF
        go_wp2_with fail
        rw [HW8.out]
        refine (HK.out _ SB2.out).mono ?_
        rintro e w9 ⟨A9, c9, rfl, o9, b9, _, _⟩
        have S9 := hidH o9.bs
        have O9 := hidH (own_below0 O8.out b9)
        have B9 := hidH (btr B8.out b9)
        have hsz9 := B9.out.size
        have f1 := fldB7
        clear HK SB2 o9 b9 O8 B8 HW8 c0 c1 c2
        go_wp2_with (at_builtin; refine wpList_append_bs rfl _ _ rfl w3.heap.size _ _ _ rfl O9.out A9 _ c9 rfl S9.out (by have h1 := HLJ.out; have h2 := HSJ.out.2; unfold chkL at h2; omega) hsz9 ?_)
        intro v6 w10 o6 g6
        have B6 := hidH (B9.out.grown g6 hsz9 (fun x hx => (O9.out.lt x hx).1))
        have O6 := hidH (show w10.ownsRow w3.heap.size 5 1 v6 (rawTo tag 0 cs (j + 1)).length ((rawTo tag 0 cs (j + 1)).map (Value.int .u8)) by
          rw [HSJ.out.1]
          simpa [chkL] using o6)
        clear o6 g6 O9 B9 S9 hsz9
        go_wp2
        go_roundw
        case rel => exact ⟨j + 1, by omega, by go_num, O6.out, B6.out⟩
        case measure => simp [intOf]; omega
      · obtain rfl : j = cs.length := by omega
        obtain ⟨R, hR⟩ : ∃ R, rawL tag 0 cs = R := ⟨_, rfl⟩
        rw [show rawTo tag 0 cs cs.length = R from hR] at hown
        have hT := hidH (raw_turned tag (sumOf tag cs) cs)
        have hS := hidH (rdSum_raw tag cs)
        rw [hR] at hT hS H8 HBY
        have hPL := hidH (show pkL tag cs = rawL tag (sumOf tag cs) cs from rfl)
        obtain ⟨S, hSS⟩ : ∃ S, sumOf tag cs = S := ⟨_, rfl⟩
        rw [hSS] at hT hS hPL PW
        obtain ⟨g, cap, cur, rfl, hg, hgl, K1, hcR, hcm, hsz, ht⟩ := own_row hown (by have := H8.out; omega)
        have R7 := R3.out.below hB
        have hr3 := R3.out.lt
        have hrg : w.heap.size + 1 < g := by omega
        have hws : w.heap.size ≤ g := by omega
        have HK1 := hidH K1
        have HC := hidH (And.intro hcR (And.intro hcm (And.intro hsz (And.intro ht (And.intro hrg hws)))))
        have PS := hidH (fun (u : World) (hb : Blk u g 5 cur) => psum_any (some ⟨g, 0, none⟩) R cap u (.inr ⟨g, 0, rfl, hb.lt, fun j hj => by rw [Nat.zero_add]; exact row_cell hb ht j hj⟩) HBY.out H8.out.1 (by have := H8.out.2; omega))
        rw [hS.out] at PS
        have BW := hidH (btr B3.out hB)
        have R7 := hidH R7
        have HL := hidH (show (pkL tag cs).length = R.length by rw [hPL.out, ← hR, rawL_eq, rawL_eq]; simp [pk])
        clear hown K1 hB hlt hj hle hR hcR hcm hsz ht hg hgl hr3 hrg hws hSS hn8
        go_wp2_with fail
        refine wp_region_any (by kernel_rfl) ?_
        refine regPp _ _ _ _ _ _ _ _ _ _ _ _ _ _ _ _ _ _ _ _ _ _ _ _ _ _ _ _ _ _ _ _ w g (w.heap.size + 1) R.length cap cur R S HC.out.2.2.1 HC.out.2.2.2.1 H8.out.1 HC.out.1 HC.out.2.2.2.2.1 HC.out.2.2.2.2.2 PS.out PW.out (by kernel_rfl) (by kernel_rfl) (by kernel_rfl) rfl ⟨(fun h => h), (fun h => h), (fun h => h)⟩ (fun _ => HK1.out.below (Below.refl _ _).drew) (R7.out.below (Below.refl _ _).drew) (btr BW.out (Below.refl _ _).drew) ?_
        intro _ _ _ _ _ _ _ W hRW hW hcur
        obtain ⟨cur2, K2, hs2, ht2⟩ := hcur
        rw [hT.out] at ht2
        have HO : Hid (Ob (w.heap.size + 1 + 1) W.heap.size W (some ⟨g, 0, none⟩) (pkL tag cs)) := .inr ⟨g, 0, rfl, by have := HC.out.2.2.2.2.1; omega, K2.lt, Nat.le_refl _, fun j hj => ⟨by
          rw [Nat.zero_add]
          refine row_cell K2 ?_ j hj
          rw [HL.out, hPL.out]; exact ht2, K2.frozen _⟩⟩
        obtain ⟨x0, x1, xz⟩ := hRW.two
        have f0 := hRW.frozen 0
        have f1 := hRW.frozen 1
        have HW := hidH hW
        clear hRW hW K2 hs2 ht2
        go_wp2
        exact bodyPost_ret (v := .agg #[.int .i64 0, .slice (some ⟨g, 0, none⟩) R.length cap]) (by simp [results, Tryd.results7, go_sem, x0, x1]) rfl (by rw [HZM.out.1, HZM.out.2, ← HL.out]; exact bres_at 0 HO.out (Nat.le_succ _) HW.out (by rw [HL.out]; exact HC.out.1) HC.out.2.1 _ _)
  · have hM : pkM tag cs = [] := by rw [pkM, if_neg hz]
    have HM := hidH hM
    have hne : (pkF tag cs != 0) = true := by rw [bne_iff_ne]; exact hz
    obtain ⟨F, hF⟩ : ∃ F, pkF tag cs = F := ⟨_, rfl⟩
    rw [hF] at hne
    have HF := hidH hF
    have R4 := R3.out
    obtain ⟨x0, x1, xz⟩ := R4.two
    have f0 := R4.frozen 0
    have f1 := R4.frozen 1
    rw [hF]
    clear R4 hz hM hF HP3
    go_wp2
    exact bodyPost_ret (v := .agg #[.int .i64 F, .slice none 0 0]) (by simp [results, Tryd.results7, go_sem, x0, x1]) rfl (by rw [HF.out, HM.out]; exact ⟨none, 0, rfl, .inl rfl, bst (bst B3.out (Nat.le_succ _) _) (Nat.le_succ _) _, Nat.le_refl _, by omega⟩)
end Go.Proofs.YtepcikghhnfacaaDoor

/- The program's byteReader: take, number, pair, word. -/
namespace Go.Proofs.YtepcikghhnfacaaDoor
open Go.RowKit Go.Deep

/-- A reader in block r: what is left to read is l. -/
def RdB (w : World) (r : Nat) (l : List Int) : Prop :=
  ∃ A c, Blk w r 87 #[.slice A l.length c] ∧ Bs w A l ∧ l.length ≤ c ∧ (c : Int) ≤ 9223372036854775807 ∧ ∀ a, A = some a → a.block < r
theorem RdB.below {w w' : World} {r : Nat} {l : List Int} (h : RdB w r l) (hb : Below w.heap.size w w') : RdB w' r l := by
  obtain ⟨A, c, h1, h2, h3⟩ := h
  exact ⟨A, c, h1.below hb, bs_below h2 hb, h3⟩
theorem RdB.lt {w : World} {r : Nat} {l : List Int} (h : RdB w r l) : r < w.heap.size := by
  obtain ⟨A, c, h1, _⟩ := h
  exact h1.lt
theorem win_all {B C B' C' : Nat} {w w' : World} (h : Win B C w w') (hB : B' ≤ B) (hC : C ≤ C') : Win B' C' w w' :=
  ⟨h.os, h.tape, h.output, h.size, fun k hk ho => h.block k hk (by omega), h.frozen⟩
/-- The text's own panic. -/
def PanE (E : Value) : Ending := .panicked [{ v := E, recovered := false }]
set_option maxHeartbeats 1000000 in
theorem take_ok (r n : Nat) (l : List Int) (w : World) (h : RdB w r l) (hn : n ≤ l.length) :
    Calls Tryd.prog 76 #[.pointer (some ⟨r, 0, none⟩), .int .i64 (n : Int)] w fun e w' => ∃ A c, e = .returned (.slice A n c) ∧ Bs w' A (l.take n) ∧ n ≤ c ∧ (∀ a, A = some a → a.block < r) ∧ RdB w' r (l.drop n) ∧ Win r (r + 1) w w' ∧ w'.heap.size = w.heap.size := by
  obtain ⟨A, c, K, hA, hc, hcm, hf⟩ := h
  have c0 := K.cell 0
  have f0 := K.frozen 0
  have hlt := K.lt
  simp only [List.getElem?_toArray, List.getElem?_cons_zero] at c0
  have s1 := fun u => cut_h A l.length c n (n : Int) rfl (by omega) u
  have s2 := fun u => cut_l A l.length c n (n : Int) rfl hn u
  have HK := hidH K
  have HA := hidH (And.intro hA (And.intro hc (And.intro hcm hf)))
  have hnI : (n : Int) ≤ (l.length : Int) := by omega
  have hn0 : ¬ ((n : Int) < 0) := by omega
  have hlm : (l.length : Int) ≤ 9223372036854775807 := by omega
  have HN := hidH hn
  clear K hA hc hcm hf hn
  go_enter Tryd.func76, Tryd.ntmps76
  go_wp2
  go_ret
  have W := win_set w r 0 (.slice (cutA A n c) (l.length - n) (c - n))
  have hf := HA.out.2.2.2
  have hAw : Bs (w.setCell ⟨r, 0, none⟩ (.slice (cutA A n c) (l.length - n) (c - n))) A l := bs_win HA.out.1 W (fun b off e => .inl (hf _ e))
  refine ⟨A, c, rfl, cutA_take hAw HN.out, by have := HN.out; have := HA.out.2.1; omega, hf, ⟨cutA A n c, c - n, ?_, cutA_drop hAw HN.out HA.out.2.1, ?_, ?_, ?_⟩, W, by simp [World.setCell]⟩
  · have h1 := heap_setCell_same w r 0 _ _ (.slice (cutA A n c) (l.length - n) (c - n)) HK.out
    unfold Blk
    rw [h1, List.length_drop]
    rfl
  · rw [List.length_drop]; have := HA.out.2.1; omega
  · have := HA.out.2.2.1; omega
  · intro a ha
    unfold cutA at ha
    split at ha
    · exact hf a ha
    · obtain ⟨a', e, rfl⟩ := Option.map_eq_some_iff.1 ha
      have := hf a' e
      unfold Addr.add
      split <;> simpa using this
set_option maxHeartbeats 1000000 in
theorem take_bad (r : Nat) (n : Int) (l : List Int) (w : World) (ty : TypeId) (pv : Value) (h : RdB w r l) (hn : n < 0 ∨ (l.length : Int) < n) (hE : w.cell? ⟨0, 0, none⟩ = some (.iface ty pv)) :
    Calls Tryd.prog 76 #[.pointer (some ⟨r, 0, none⟩), .int .i64 n] w fun e w' => e = PanE (.iface ty pv) ∧ w' = w := by
  obtain ⟨A, c, K, hA, hc, hcm, hf⟩ := h
  have c0 := K.cell 0
  have hlt := K.lt
  simp only [List.getElem?_toArray, List.getElem?_cons_zero] at c0
  clear hA hc hcm hf
  unfold PanE
  rcases hn with hn | hn
  · go_enter Tryd.func76, Tryd.ntmps76
    go_wp2
    exact ⟨rfl, rfl, rfl⟩
  · have h0 : ¬ (n < 0) := by omega
    go_enter Tryd.func76, Tryd.ntmps76
    go_wp2
    exact ⟨rfl, rfl, rfl⟩
/-- The reader, the text's own error, and that what is left are bytes. -/
structure RE (w : World) (r : Nat) (ty : TypeId) (pv : Value) (l : List Int) : Prop where
  rd : RdB w r l
  e : w.cell? ⟨0, 0, none⟩ = some (.iface ty pv)
  pos : 0 < r
  by_ : Bytes l
theorem RE.below {w w' : World} {r : Nat} {ty : TypeId} {pv : Value} {l : List Int} (h : RE w r ty pv l) (hb : Below w.heap.size w w') : RE w' r ty pv l :=
  ⟨h.rd.below hb, (hb.cell (p := ⟨0, 0, none⟩) (Nat.lt_trans h.pos h.rd.lt)).trans h.e, h.pos, h.by_⟩
theorem RE.turn {w w' : World} {r : Nat} {ty : TypeId} {pv : Value} {l l' : List Int} (h : RE w r ty pv l) (hw : Win r (r + 1) w w') (hr : RdB w' r l') (hl : ∀ x ∈ l', x ∈ l) : RE w' r ty pv l' :=
  ⟨hr, (hw.cell (p := ⟨0, 0, none⟩) (Nat.lt_trans h.pos h.rd.lt) (.inl h.pos)).trans h.e, h.pos, fun x hx => h.by_ x (hl x hx)⟩
set_option maxHeartbeats 1000000 in
theorem number_ok (r : Nat) (x : Int) (l : List Int) (w : World) (ty : TypeId) (pv : Value) (h : RE w r ty pv (x :: l)) :
    Calls Tryd.prog 81 #[.pointer (some ⟨r, 0, none⟩)] w fun e w' => e = .returned (.int .i64 x) ∧ RE w' r ty pv l ∧ Win r (r + 1) w w' ∧ w'.heap.size = w.heap.size := by
  have HT := hidH (take_ok r 1 (x :: l) w h.rd (by simp))
  obtain ⟨x0, x1⟩ := h.by_ x (List.mem_cons_self)
  have HH := hidH h
  clear h
  go_enter Tryd.func81, Tryd.ntmps81
  go_wp2_with fail
  refine HT.out.mono ?_
  rintro e w1 ⟨A, c, rfl, hA, hc, hf, hr, hw, hs⟩
  rcases hA with hA | ⟨b, off, rfl, hb, hA⟩
  · simp at hA
  have a0 := hA 0 (by simp)
  simp only [List.take_succ_cons, List.take_zero, List.getD_cons_zero, Nat.add_zero] at a0
  have HR := hidH (HH.out.turn hw hr (fun y hy => by simp at hy; exact List.mem_cons_of_mem _ hy))
  have HW := hidH (And.intro hw hs)
  clear HT HH hA hc hf hr hw hs
  go_wp2
  go_ret
  exact ⟨rfl, by simpa using HR.out, HW.out⟩
set_option maxHeartbeats 1000000 in
theorem number_bad (r : Nat) (w : World) (ty : TypeId) (pv : Value) (h : RE w r ty pv []) :
    Calls Tryd.prog 81 #[.pointer (some ⟨r, 0, none⟩)] w fun e w' => e = PanE (.iface ty pv) ∧ w' = w := by
  have HT := hidH (take_bad r 1 [] w ty pv h.rd (.inr (by simp)) h.e)
  clear h
  unfold PanE at HT ⊢
  go_enter Tryd.func81, Tryd.ntmps81
  go_wp2_with fail
  refine HT.out.mono ?_
  rintro e w1 ⟨rfl, rfl⟩
  clear HT
  go_wp2
  exact ⟨rfl, rfl, rfl⟩
set_option maxHeartbeats 1000000 in
theorem pair_ok (r : Nat) (x y : Int) (l : List Int) (w : World) (ty : TypeId) (pv : Value) (h : RE w r ty pv (x :: y :: l)) :
    Calls Tryd.prog 82 #[.pointer (some ⟨r, 0, none⟩)] w fun e w' => e = .returned (.int .i64 (x * 256 + y)) ∧ RE w' r ty pv l ∧ Win r (r + 1) w w' ∧ w'.heap.size = w.heap.size := by
  have HT := hidH (number_ok r x (y :: l) w ty pv h)
  obtain ⟨x0, x1⟩ := h.by_ x (List.mem_cons_self)
  obtain ⟨y0, y1⟩ := h.by_ y (List.mem_cons_of_mem _ List.mem_cons_self)
  clear h
  go_enter Tryd.func82, Tryd.ntmps82
  go_wp2_with fail
  refine HT.out.mono ?_
  rintro e w1 ⟨rfl, hr, hw, hs⟩
  have HT2 := hidH (number_ok r y l w1 ty pv hr)
  have HW := hidH (And.intro hw hs)
  clear HT hr hw hs
  go_wp2_with fail
  refine HT2.out.mono ?_
  rintro e w2 ⟨rfl, hr, hw, hs⟩
  have HR := hidH (And.intro hr (And.intro (HW.out.1.trans hw) (hs.trans HW.out.2)))
  clear HT2 HW hr hw hs
  go_wp2
  go_ret
  exact ⟨rfl, HR.out⟩
set_option maxHeartbeats 1000000 in
theorem pair_bad (r : Nat) (l : List Int) (w : World) (ty : TypeId) (pv : Value) (h : RE w r ty pv l) (hl : l.length < 2) :
    Calls Tryd.prog 82 #[.pointer (some ⟨r, 0, none⟩)] w fun e w' => e = PanE (.iface ty pv) ∧ Win r (r + 1) w w' := by
  unfold PanE
  rcases l with _ | ⟨x, _ | ⟨y, l⟩⟩
  · have HT := hidH (number_bad r w ty pv h)
    clear h
    unfold PanE at HT
    go_enter Tryd.func82, Tryd.ntmps82
    go_wp2_with fail
    refine HT.out.mono ?_
    rintro e w1 ⟨rfl, rfl⟩
    clear HT
    go_wp2
    exact ⟨rfl, rfl, Win.refl _ _ _⟩
  · have HT := hidH (number_ok r x [] w ty pv h)
    obtain ⟨x0, x1⟩ := h.by_ x (List.mem_cons_self)
    clear h
    go_enter Tryd.func82, Tryd.ntmps82
    go_wp2_with fail
    refine HT.out.mono ?_
    rintro e w1 ⟨rfl, hr, hw, hs⟩
    have HT2 := hidH (number_bad r w1 ty pv hr)
    have HW := hidH hw
    clear HT hr hw hs
    unfold PanE at HT2
    go_wp2_with fail
    refine HT2.out.mono ?_
    rintro e w2 ⟨rfl, rfl⟩
    clear HT2
    go_wp2
    exact ⟨rfl, rfl, HW.out⟩
  · simp at hl; omega
set_option maxHeartbeats 1000000 in
theorem word_ok (r : Nat) (l : List Int) (w : World) (ty : TypeId) (pv : Value) (h : RE w r ty pv l) (h4 : 4 ≤ l.length) :
    Calls Tryd.prog 75 #[.pointer (some ⟨r, 0, none⟩)] w fun e w' => e = .returned (.int .i64 (atW l 0)) ∧ RE w' r ty pv (l.drop 4) ∧ Win r (r + 1) w w' := by
  have HT := hidH (take_ok r 4 l w h.rd h4)
  have HH := hidH h
  have p := h.by_.get 0
  have q := h.by_.get 1
  have s := h.by_.get 2
  have t := h.by_.get 3
  have e0 : atW l 0 = l.getD 0 0 * 16777216 + l.getD 1 0 * 65536 + l.getD 2 0 * 256 + l.getD 3 0 := rfl
  have HE := hidH e0
  have HPQ := hidH (And.intro p (And.intro q (And.intro s t)))
  have H4 := hidH h4
  clear h h4 e0 p q s t
  go_enter Tryd.func75, Tryd.ntmps75
  go_wp2_with fail
  refine HT.out.mono ?_
  rintro e w1 ⟨A, c, rfl, hA, hc, hf, hr, hw, hs⟩
  rcases hA with hA | ⟨b, off, rfl, hb, hA⟩
  · have h9 : (l.take 4).length = 0 := by rw [hA]; rfl
    rw [List.length_take] at h9; have := H4.out; omega
  have g : ∀ j, j < 4 → w1.cell? ⟨b, off + j, none⟩ = some (.int .u8 (l.getD j 0)) := fun j hj => by
    rw [hA j (by rw [List.length_take]; have := H4.out; omega)]
    simp [List.getD_eq_getElem?_getD, List.getElem?_take_of_lt hj]
  have a0 := g 0 (by omega)
  rw [Nat.add_zero] at a0
  have a1 := g 1 (by omega)
  have a2 := g 2 (by omega)
  have a3 := g 3 (by omega)
  have HR := hidH (HH.out.turn hw hr (fun y hy => List.mem_of_mem_drop hy))
  have HW := hidH hw
  have hat : ∀ u, (Instr.arrayAt 77 (.slice (some ⟨b, off, none⟩) 4 c)).run Tryd.prog u = .ok (.pointer (some ⟨b, off, none⟩)) u := fun u => run_arrayAt u 77 5 4 _ _ _ Tryd.underlying77 (by omega)
  obtain ⟨x0, hx0⟩ : ∃ x, l.getD 0 0 = x := ⟨_, rfl⟩
  obtain ⟨x1, hx1⟩ : ∃ x, l.getD 1 0 = x := ⟨_, rfl⟩
  obtain ⟨x2, hx2⟩ : ∃ x, l.getD 2 0 = x := ⟨_, rfl⟩
  obtain ⟨x3, hx3⟩ : ∃ x, l.getD 3 0 = x := ⟨_, rfl⟩
  rw [hx0] at a0
  rw [hx1] at a1
  rw [hx2] at a2
  rw [hx3] at a3
  rw [hx0, hx1, hx2, hx3] at HPQ HE
  have HDC := hidH (fun u => decode_any x0 x1 x2 x3 u HPQ.out.1.1 HPQ.out.1.2 HPQ.out.2.1.1 HPQ.out.2.1.2 HPQ.out.2.2.1.1 HPQ.out.2.2.1.2 HPQ.out.2.2.2.1 HPQ.out.2.2.2.2)
  have hz1 : 0 ≤ x0 * 16777216 + x1 * 65536 + x2 * 256 + x3 := by have := HPQ.out; omega
  have hz2 : x0 * 16777216 + x1 * 65536 + x2 * 256 + x3 ≤ 4294967295 := by have := HPQ.out; omega
  clear HT HH hA hc hf hr hw hs g hx0 hx1 hx2 hx3
  go_wp2_with fail
  refine (HDC.out _).mono ?_
  rintro e w2 ⟨rfl, hb2⟩
  have HR2 := hidH (HR.out.below hb2)
  have HW2 := hidH (HW.out.trans (Win.of_below hb2))
  obtain ⟨z, hz⟩ : ∃ z, x0 * 16777216 + x1 * 65536 + x2 * 256 + x3 = z := ⟨_, rfl⟩
  rw [hz] at HE hz1 hz2 ⊢
  clear HDC hb2 HR HW a0 a1 a2 a3 hat hz
  go_wp2
  go_ret
  exact ⟨by rw [HE.out]; rfl, HR2.out, HW2.out⟩
end Go.Proofs.YtepcikghhnfacaaDoor
