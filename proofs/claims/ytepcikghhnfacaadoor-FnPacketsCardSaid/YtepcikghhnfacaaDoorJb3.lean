import Derived.Test.YtepcikghhnfacaaDoorPtR
import Derived.Deep.LoopGhost
import Derived.Test.YtepcikghhnfacaaDoorDqR

/- The program's byteReader: packet. -/
namespace Go.Proofs.YtepcikghhnfacaaDoor
open Go.RowKit Go.Deep

theorem size_set (w : World) (p : Addr) (v : Value) : (w.setCell p v).heap.size = w.heap.size := by simp [World.setCell]
theorem pRead_none {l : List Int} (h0 : l ≠ []) (h : badHead l) : pRead l = none := by
  have hne : l.length ≠ 0 := fun e => h0 (List.eq_nil_of_length_eq_zero e)
  unfold badHead at h
  by_cases h4 : l.length < 4
  · exact pRead_short hne h4
  · by_cases hb : pairV l < 4 ∨ (l.length : Int) < pairV l
    · exact pRead_bad (by omega) hb
    · exact pRead_pad (by omega) hb (by omega)
theorem good_open {l : List Int} (h : ¬ badHead l) : ∃ (x0 x1 x2 x3 : Int) (rest : List Int) (m : Nat), l = x0 :: x1 :: x2 :: x3 :: rest ∧ x2 * 256 + x3 = (m : Int) + 4 ∧ m + chPad m ≤ rest.length ∧ pRead l = (pRead (rest.drop (m + chPad m))).map (⟨x0, x1, rest.take m⟩ :: ·) := by
  unfold badHead at h
  have h4 : 4 ≤ l.length := by omega
  obtain ⟨x0, x1, x2, x3, rest, rfl⟩ : ∃ a b c d r, l = a :: b :: c :: d :: r := by
    rcases l with _ | ⟨a, _ | ⟨b, _ | ⟨c, _ | ⟨d, r⟩⟩⟩⟩ <;> simp at h4
    exact ⟨a, b, c, d, r, rfl⟩
  have hpv : pairV (x0 :: x1 :: x2 :: x3 :: rest) = x2 * 256 + x3 := rfl
  obtain ⟨m, hm⟩ : ∃ m : Nat, x2 * 256 + x3 = (m : Int) + 4 := ⟨(x2 * 256 + x3).toNat - 4, by rw [hpv] at h; omega⟩
  have e1 : (pairV (x0 :: x1 :: x2 :: x3 :: rest)).toNat - 4 = m := by rw [hpv, hm]; omega
  have e2 : (pairV (x0 :: x1 :: x2 :: x3 :: rest)).toNat = m + 4 := by rw [hpv, hm]; omega
  have hl : (x0 :: x1 :: x2 :: x3 :: rest).length = rest.length + 4 := by simp
  rw [e1, e2, hl] at h
  refine ⟨x0, x1, x2, x3, rest, m, rfl, hm, by omega, ?_⟩
  rw [pRead_go (by omega) (by rw [hl, hpv, hm]; rw [hpv, hm] at h; omega) (by rw [hl, e1, e2]; omega), rdHead, e1, e2]
  have e3 : (x0 :: x1 :: x2 :: x3 :: rest).drop (m + 4 + chPad m) = rest.drop (m + chPad m) := by
    rw [show m + 4 + chPad m = (m + chPad m) + 1 + 1 + 1 + 1 by omega]
    simp only [List.drop_succ_cons]
  rw [e3]
  rfl
set_option maxRecDepth 100000 in
set_option maxHeartbeats 4000000 in
theorem packet_any (r : Nat) (l : List Int) (o : Option (List Chk)) (w : World) (ty : TypeId) (pv : Value) (h : RE w r ty pv l) (h8 : 8 ≤ l.length) (hm : l.length ≤ 700) (ho : pRead (l.drop 8) = o) :
    Calls Tryd.prog 65 #[.pointer (some ⟨r, 0, none⟩)] w fun e w' => Win r (r + 1) w w' ∧
      ((∃ cs P c, o = some cs ∧ e = .returned (.agg #[.int .i64 (atW l 0), .slice P cs.length c]) ∧ OCs w.heap.size w'.heap.size w' P cs) ∨ (o = none ∧ e = .panicked [{ v := .iface ty pv, recovered := false }])) := by
  have hrlt := h.rd.lt
  have K1 := Blk.new w 26 #[.int .i64 0, .slice none 0 0]
  have B1 := bal (Below.refl w.heap.size w) (.cells #[.int .i64 0, .slice none 0 0] 26)
  have H1 := h.below (bal (Below.refl _ w) (.cells #[.int .i64 0, .slice none 0 0] 26))
  obtain ⟨w1, hw1⟩ : ∃ w1, w.alloc (.cells #[.int .i64 0, .slice none 0 0] 26) = w1 := ⟨_, rfl⟩
  have hs1 : w1.heap.size = w.heap.size + 1 := by rw [← hw1]; simp
  rw [hw1] at K1 B1 H1
  have HW1 := hidH hw1
  have HWD := hidH (word_ok r l w1 ty pv H1 (by omega))
  have HK1 := hidH K1
  have HK1' := hidH K1
  have W1 := hidH (Win.of_below (B := r) (C := r + 1) B1)
  have HS := hidH (And.intro hs1 hrlt)
  have HL := hidH (And.intro h8 hm)
  have HO := hidH ho
  have HTG := hidH (show atW l 0 = atW l 0 from rfl)
  obtain ⟨tag, htag⟩ : ∃ tag, atW l 0 = tag := ⟨_, rfl⟩
  rw [htag] at HWD ⊢
  clear h K1 B1 H1 hw1 hs1 hrlt h8 hm ho HTG htag
  go_enter Tryd.func65, Tryd.ntmps65
  go_wp2_with fail
  rw [HW1.out]
  refine HWD.out.mono ?_
  rintro e w2 ⟨rfl, h2, hw2⟩
  have hg2 := hw2.size
  have K3 := Blk.new w2 26 #[.int .i64 tag, .slice none 0 0]
  have B3 := bal (Below.refl w2.heap.size w2) (.cells #[.int .i64 tag, .slice none 0 0] 26)
  have H3 := h2.below B3
  have KR3 := (hw2.blk HK1.out (.inr HS.out.2)).below B3
  obtain ⟨w3, hw3⟩ : ∃ w3, w2.alloc (.cells #[.int .i64 tag, .slice none 0 0] 26) = w3 := ⟨_, rfl⟩
  have hs3 : w3.heap.size = w2.heap.size + 1 := by rw [← hw3]; simp
  rw [hw3] at K3 B3 H3 KR3
  have HT := hidH (take_ok r 4 (l.drop 4) w3 H3.rd (by rw [List.length_drop]; have := HL.out.1; omega))
  have HH3 := hidH H3
  have HW3 := hidH hw3
  have HX3 := hidH (And.intro K3 (And.intro KR3 (hw2.trans (Win.of_below B3))))
  have HS3 := hidH (And.intro hs3 hg2)
  clear HWD HW1 HK1 h2 hw2 hg2 K3 B3 H3 KR3 hw3 hs3
  go_wp2_with fail
  rw [HW3.out]
  refine HT.out.mono ?_
  rintro e w4 ⟨A4, c4, rfl, _, _, _, hr4, hw4, hs4⟩
  have H4 := hidH (HH3.out.turn hw4 hr4 (fun y hy => List.mem_of_mem_drop hy))
  have K4 := hidH (hw4.blk HX3.out.1 (.inr (by have := HS.out; have := HS3.out; omega)))
  have KR4 := hidH (hw4.blk HX3.out.2.1 (.inr HS.out.2))
  have W4 := hidH (HX3.out.2.2.trans hw4)
  have HG4 := hidH (Gr.nil (B := w2.heap.size + 1) (w := w4) (by have := HS3.out; omega))
  have HR4 := hidH (show RE w4 r ty pv (l.drop 8) by have := H4.out; rw [List.drop_drop] at this; exact this)
  clear HT HH3 HX3 hr4 hw4 HW3
  go_wp2
  go_loopg [] (l.drop 8).length (fun k wr => ∃ (d : List Int) (done : List Chk) (v : Value) (T : Nat), k = d.length ∧ o = (pRead d).map (done ++ ·) ∧ RE wr r ty pv d ∧ Blk wr w2.heap.size 26 #[.int .i64 tag, v] ∧ Gr (w2.heap.size + 1) T wr v done ∧ Win r (r + 1) w1 wr ∧ w2.heap.size + 1 ≤ T ∧ done.length + d.length ≤ 1000)
  case atStart => exact ⟨l.drop 8, [], _, _, rfl, by rw [HO.out]; simp, HR4.out, K4.out, HG4.out, W4.out, Nat.le_refl _, by rw [List.length_drop]; have := HL.out.2; simp; omega⟩
  case round =>
    obtain ⟨d, done, v, T, rfl, hO, hR, hK, hG, hW, hT, hlen⟩ := hrel
    obtain ⟨P, n, cv, rfl⟩ := hG.sliceN
    have hR' := hR
    obtain ⟨⟨A, c, KA, _, hcA, hcm, _⟩, _⟩ := hR'
    have q0 := KA.cell 0
    simp only [List.getElem?_toArray, List.getElem?_cons_zero] at q0
    have qlt := KA.lt
    have dI : (d.length : Int) ≤ 1000 := by omega
    have HR := hidH hR
    have HK := hidH hK
    have HG := hidH hG
    have HW := hidH hW
    have HTT := hidH (And.intro hT hlen)
    have HOO := hidH hO
    have KRW := hidH (hW.blk (show Blk w1 w.heap.size 26 #[.int .i64 0, .slice none 0 0] from HK1'.out) (.inr HS.out.2))
    clear hR hK hG hW hT hlen hO KA hcA hcm HR4 K4 KR4 W4 HG4
    by_cases hd : d = []
    · subst hd
      have hOE : o = some done := by rw [HOO.out, pRead_end rfl]; simp
      have HOE := hidH hOE
      have K5 := HK.out
      have x0 := K5.cell 0
      have x1 := K5.cell 1
      simp only [List.getElem?_toArray, List.getElem?_cons_succ, List.getElem?_cons_zero] at x0 x1
      have xlt := K5.lt
      obtain ⟨y0, y1, yz⟩ := KRW.out.two
      have f0 := KRW.out.frozen 0
      have f1 := KRW.out.frozen 1
      have HOC := hidH HG.out.ocs
      have HLN := hidH HG.out.len
      clear K5 hOE HR HK HG
      rw [show (([] : List Int).length : Int) = 0 from rfl] at *
      go_wp2
      have HWF := hidH ((W1.out.trans HW.out).andBelow (((Below.refl w.heap.size wr).setCell (p := ⟨w.heap.size, 0, none⟩) (Nat.le_refl _) (.int .i64 tag)).setCell (p := ⟨w.heap.size, 1, none⟩) (Nat.le_refl _) (.slice P n cv)))
      have HRG := hidH (show w.heap.size + 1 ≤ w2.heap.size by have := HS.out; have := HS3.out; omega)
      have HOF := hidH (((HOC.out.win (win_set _ w.heap.size 0 (.int .i64 tag)) (.inr (by have := HRG.out; omega))).win (win_set _ w.heap.size 1 (.slice P n cv)) (.inr (by have := HRG.out; omega))).mono (B' := w.heap.size) (by have := HRG.out; omega))
      exact bodyPost_ret (v := .agg #[.int .i64 tag, .slice P n cv]) (by simp [results, Tryd.results65, go_sem, y0, y1]) rfl ⟨HWF.out, .inl ⟨done, P, cv, HOE.out, by rw [HLN.out], by simp only [size_set]; exact HOF.out⟩⟩
    · have hpos : 0 < d.length := List.length_pos_iff.2 hd
      have hposI : (0 : Int) < (d.length : Int) := by omega
      by_cases hb : badHead d
      · have HOE := hidH (show o = none by rw [HOO.out, pRead_none hd hb]; rfl)
        have CHX := hidH (fun (u : World) (hu : RE u r ty pv d) => chunk_bad r d u ty pv hu hb (by omega))
        have hun : PanE (.iface ty pv) = .panicked [{ v := .iface ty pv, recovered := false }] := rfl
        rw [hun] at CHX
        clear hb hun hd
        go_wp2_with fail
        refine wp_region_any (by kernel_rfl) ?_
        refine regPtX _ _ _ _ _ _ _ _ _ _ _ _ _ _ _ _ _ _ _ _ w1 r w2.heap.size tag (.slice P n cv) d ty pv CHX.out ?pan (by kernel_rfl) (by kernel_rfl) (by kernel_rfl) rfl (HK.out.below (Below.refl _ _).drew) (HR.out.below (Below.refl _ _).drew) (HW.out.trans (Win.of_below (Below.refl _ _).drew))
        case pan =>
          intro ac W hW hdf
          exact ⟨hdf, W1.out.trans hW, .inr ⟨HOE.out, rfl⟩⟩
      · obtain ⟨x0, x1, x2, x3, rest, m, rfl, hsz, hm, hpr⟩ := good_open hb
        have hrl : rest.length ≤ 996 := by simp at dI; omega
        have CH := hidH (fun (u : World) (hu : RE u r ty pv (x0 :: x1 :: x2 :: x3 :: rest)) => chunk_ok r x0 x1 x2 x3 rest m u ty pv hu hsz hm (by omega))
        have HPR := hidH hpr
        have hdl : (rest.drop (m + chPad m)).length < (x0 :: x1 :: x2 :: x3 :: rest).length := by simp; omega
        have HDL := hidH hdl
        obtain ⟨body, hbody⟩ : ∃ b, rest.take m = b := ⟨_, rfl⟩
        obtain ⟨l2, hl2⟩ : ∃ b, rest.drop (m + chPad m) = b := ⟨_, rfl⟩
        rw [hbody, hl2] at CH HPR
        rw [hl2] at HDL
        obtain ⟨d, hdd⟩ : ∃ d, x0 :: x1 :: x2 :: x3 :: rest = d := ⟨_, rfl⟩
        rw [hdd] at CH HPR HDL HR HTT HOO dI hposI q0
        have HDD := hidH hdd
        clear hb hsz hm hpr hrl hdl hbody hl2 hd hpos hdd
        go_wp2_with fail
        refine wp_region_any (by kernel_rfl) ?_
        refine regPt _ _ _ _ _ _ _ _ _ _ _ _ _ _ _ _ _ _ _ _ w1 r w2.heap.size (w2.heap.size + 1) T x0 x1 tag (.slice P n cv) done body d l2 ty pv (by have := HS.out; have := HS3.out; omega) (Nat.lt_succ_self _) (by have := HS3.out; omega) HS3.out.2 HTT.out.1 (by have := HTT.out.2; omega) CH.out (by kernel_rfl) (by kernel_rfl) (by kernel_rfl) rfl ⟨(fun h => h), (fun h => h), (fun h => h), (fun h => h)⟩ (fun _ => HK.out.below (Below.refl _ _).drew) (fun _ => HG.out.below (Below.refl _ _).drew) ⟨(fun _ => HR.out.below (Below.refl _ _).drew), (fun h => by simp at h)⟩ (HW.out.trans (Win.of_below (Below.refl _ _).drew)) (Nat.le_refl _) HG.out.1 ?_
        intro s15 s16 s17 s18 s19 s20 s21 W hR2 hW2 hX
        obtain ⟨v2, T2, K6, G6, hT2⟩ := hX
        have HX := hidH (And.intro hR2 (And.intro hW2 (And.intro K6 (And.intro G6 (show w2.heap.size + 1 ≤ T2 from Nat.le_trans HTT.out.1 (Nat.le_trans HG.out.1 hT2))))))
        clear hR2 hW2 K6 G6 hT2 CH HR HK HG KRW q0 qlt
        go_wp2
        go_roundg l2.length
        case measure => rw [HDD.out]; exact HDL.out
        case rel => exact ⟨l2, done ++ [⟨x0, x1, body⟩], v2, T2, rfl, by rw [HOO.out, HPR.out]; cases pRead l2 <;> simp, HX.out.1, HX.out.2.2.1, HX.out.2.2.2.1, HX.out.2.1, HX.out.2.2.2.2, by have := HDL.out; have := HTT.out.2; simp; omega⟩
end Go.Proofs.YtepcikghhnfacaaDoor

/- The drawn packets: l4Packet. -/
namespace Go.Proofs.YtepcikghhnfacaaDoor
open Go.RowKit Go.Deep

/-- Some packet comes back, its list in memory of the call's own; at most k draws. -/
def PkRes (k n0 n : Nat) (PT : Int → Prop) (PY : Chk → Prop) (w : World) (r : Nat) (A : Option Addr) (l : List Int) (c at_ : Nat) (e : Ending) (w' : World) : Prop :=
  ∃ (tag : Int) (cs : List Chk) (P : Option Addr) (cp T : Nat), e = .returned (pkV tag P cs.length cp) ∧ PT tag ∧ (∀ y ∈ cs, PY y) ∧ (n0 ≤ cs.length ∧ cs.length ≤ n) ∧ Gr w.heap.size T w' (.slice P cs.length cp) cs ∧ SrcLe w' r A l c (at_ + k) ∧ Win r (r + 1) w w'
def okY (y : Chk) : Prop := chkOk y ∧ Bytes y.body
def anyY (y : Chk) : Prop := Bytes y.body ∧ y.body.length ≤ 200
theorem Xb.tb {B C : Nat} {w : World} {A : Option Addr} {l : List Int} (h : Xb B C w A l) : ∃ b, Tb w b A l ∧ (l = [] ∨ B ≤ b ∧ b < C) := h.2
theorem blk_put1 {w : World} {g : Nat} {t : TypeId} {a b : Value} (h : Blk w g t #[a, b]) (v : Value) : Blk (w.setCell ⟨g, 0, none⟩ v) g t #[v, b] := by
  have h1 := heap_setCell_same w g 0 _ _ v h
  unfold Blk
  rw [h1]
  rfl
theorem draw_ch (r : Nat) (A : Option Addr) (l : List Int) (c n : Nat) (hn : (n : Int) ≤ 600000000) (u : World) (hu : SrcLe u r A l c n) :
    Calls Tryd.prog 63 #[.pointer (some ⟨r, 0, none⟩)] u fun e w' => ∃ (y : Chk) (A2 : Option Addr) (c2 b2 : Nat), e = .returned (.agg #[.int .i64 y.kind, .int .i64 y.flags, .slice A2 y.body.length c2]) ∧ okY y ∧ Tb w' b2 A2 y.body ∧ (y.body = [] ∨ u.heap.size ≤ b2 ∧ b2 < w'.heap.size) ∧ SrcLe w' r A l c (n + 50) ∧ Win r (r + 1) u w' := by
  obtain ⟨a, S, ha⟩ := hu
  refine (l4Draw_ok r A l c a u S (by omega)).mono ?_
  rintro e w1 ⟨kk, ff, b, X, cx, a1, rfl, hok, hb, hX, _, _, S1, ha1, hw⟩
  obtain ⟨b2, q1, q2⟩ := hX.tb
  exact ⟨⟨kk, ff, b⟩, X, cx, b2, rfl, ⟨hok, hb⟩, q1, q2, ⟨a1, S1, by omega⟩, hw⟩
set_option maxRecDepth 100000 in
set_option maxHeartbeats 4000000 in
theorem l4Packet_any (r : Nat) (A : Option Addr) (l : List Int) (c at_ : Nat) (w : World) (h : Src w r A l c at_) (ha : (at_ : Int) ≤ 500000000) :
    Calls Tryd.prog 30 #[.pointer (some ⟨r, 0, none⟩)] w (PkRes 250 1 4 IsW okY w r A l c at_) := by
  have hrlt := h.lt
  have K1 := Blk.new w 26 #[.int .i64 0, .slice none 0 0]
  have B1 := bal (Below.refl w.heap.size w) (.cells #[.int .i64 0, .slice none 0 0] 26)
  have H1 := h.below (bal (Below.refl _ w) (.cells #[.int .i64 0, .slice none 0 0] 26))
  obtain ⟨w1, hw1⟩ : ∃ w1, w.alloc (.cells #[.int .i64 0, .slice none 0 0] 26) = w1 := ⟨_, rfl⟩
  have hs1 : w1.heap.size = w.heap.size + 1 := by rw [← hw1]; simp
  rw [hw1] at K1 B1 H1
  have HW1 := hidH hw1
  have HK1 := hidH K1
  have HK1' := hidH K1
  have W1 := hidH (Win.of_below (B := r) (C := r + 1) B1)
  have HS := hidH (And.intro hs1 hrlt)
  have HSR := hidH H1
  clear h K1 B1 H1 hw1 hs1 hrlt
  go_enter Tryd.func30, Tryd.ntmps30
  go_wp2_with fail
  rw [HW1.out]
  refine (draw_any r A l c at_ w1 HSR.out (by omega)).mono ?_
  rintro e w2 ⟨tag, a2, rfl, ht, ha2, S2, hw2⟩
  have hg2 := hw2.size
  have K3 := Blk.new w2 26 #[.int .i64 tag, .slice none 0 0]
  have B3 := bal (Below.refl w2.heap.size w2) (.cells #[.int .i64 tag, .slice none 0 0] 26)
  have S3 := S2.below B3
  have W3 := hw2.trans (Win.of_below B3)
  obtain ⟨w3, hw3⟩ : ∃ w3, w2.alloc (.cells #[.int .i64 tag, .slice none 0 0] 26) = w3 := ⟨_, rfl⟩
  have hs3 : w3.heap.size = w2.heap.size + 1 := by rw [← hw3]; simp
  rw [hw3] at K3 B3 S3 W3
  have HW3 := hidH hw3
  have HT := hidH ht
  have HA2 := hidH ha2
  have HS3 := hidH (And.intro hs3 hg2)
  have HK3 := hidH K3
  have HWW := hidH W3
  have HSR := hidH S3
  have KR3 := hidH ((hw2.blk HK1.out (.inr HS.out.2)).below B3)
  clear HK1 S2 hw2 hg2 K3 B3 S3 W3 hw3 hs3 ht HW1 ha2
  go_wp2_with fail
  rw [HW3.out]
  refine (pick_any r A l c a2 (w2.heap.size + 1) [1, 1, 2, 3, 4] _ (HSR.out.below (bal (Below.refl _ _) _)) (by have := HA2.out; omega)
    (by rw [← HS3.out.1]; exact Ns.of_blk (t := 2) (Blk.new w3 _ _)) (by simp) (by simp) (by have := HS3.out; have := HS.out; omega)).mono ?_
  rintro e w5 ⟨y5, a5, rfl, hy5, ha5, S5, V5⟩
  obtain ⟨N, rfl, hN⟩ : ∃ N : Nat, y5 = N ∧ 1 ≤ N ∧ N ≤ 4 := by
    simp at hy5
    rcases hy5 with rfl | rfl | rfl | rfl
    · exact ⟨1, rfl, by omega, by omega⟩
    · exact ⟨2, rfl, by omega, by omega⟩
    · exact ⟨3, rfl, by omega, by omega⟩
    · exact ⟨4, rfl, by omega, by omega⟩
  have W35 := (Win.of_below (B := r) (C := r + 1) (bal (Below.refl w3.heap.size w3) (.cells #[.int .i64 1, .int .i64 1, .int .i64 2, .int .i64 3, .int .i64 4] 2))).trans V5
  have K5 := hidH (W35.blk HK3.out (.inr (by have := HS.out; have := HS3.out; omega)))
  have KR5 := hidH (W35.blk KR3.out (.inr HS.out.2))
  have W5 := hidH (HWW.out.trans W35)
  have HG5 := hidH (Gr.nil (B := w.heap.size + 1) (w := w5) (by have := W5.out.size; have := HS.out; omega))
  have HA5 := hidH (show a5 ≤ at_ + 5 by have := HA2.out; omega)
  have HSR5 := hidH S5
  have HN := hidH hN
  clear HK3 KR3 HWW HSR HW3 HA2 S5 V5 ha5 hy5 hN W35
  go_wp2
  go_loopg [4] N (fun q u wr => ∃ (k : Nat) (done : List Chk) (v : Value) (T : Nat), k = q ∧ u = .int .i64 k ∧ done.length + k = N ∧ (∀ y ∈ done, okY y) ∧ SrcLe wr r A l c (a5 + 50 * done.length) ∧ Blk wr w2.heap.size 26 #[.int .i64 tag, v] ∧ Gr (w.heap.size + 1) T wr v done ∧ Win r (r + 1) w1 wr ∧ w.heap.size + 1 ≤ T)
  case atStart => exact ⟨N, [], _, _, rfl, rfl, by simp, (fun y hy => by cases hy), ⟨a5, HSR5.out, by simp⟩, K5.out, HG5.out, W5.out, Nat.le_refl _⟩
  case round =>
    obtain ⟨z, done, v, T, rfl, rfl, hlen, hY, hR, hK, hG, hW, hT⟩ := hrel
    obtain ⟨P, n, cv, rfl⟩ := hG.sliceN
    have HR := hidH hR
    have HK := hidH hK
    have HG := hidH hG
    have HW := hidH hW
    have HTT := hidH (And.intro hT hlen)
    have HY := hidH hY
    have KRW := hidH (hW.blk HK1'.out (.inr HS.out.2))
    clear hR hK hG hW hT hlen hY K5 KR5 W5 HG5 HSR5
    rcases z with _ | k
    · have K5 := HK.out
      have x0 := K5.cell 0
      have x1 := K5.cell 1
      simp only [List.getElem?_toArray, List.getElem?_cons_succ, List.getElem?_cons_zero] at x0 x1
      have xlt := K5.lt
      obtain ⟨y0, y1, yz⟩ := KRW.out.two
      have f0 := KRW.out.frozen 0
      have f1 := KRW.out.frozen 1
      have HLN := hidH HG.out.len
      clear K5
      rw [show ((0 : Nat) : Int) = 0 from rfl] at *
      go_wp2
      have KP := blk_put1 (KRW.out) (.int .i64 tag)
      have HG1 := HG.out.put KRW.out (i := 0) (.int .i64 tag)
      have HG2 := hidH (HG1.put KP (i := 1) (.slice P n cv))
      have HWF := hidH ((W1.out.trans HW.out).andBelow (((Below.refl w.heap.size wr).setCell (p := ⟨w.heap.size, 0, none⟩) (Nat.le_refl _) (.int .i64 tag)).setCell (p := ⟨w.heap.size, 1, none⟩) (Nat.le_refl _) (.slice P n cv)))
      have HRF := hidH (((HR.out.far (p := ⟨w.heap.size, 0, none⟩) HS.out.2 (.int .i64 tag)).far (p := ⟨w.heap.size, 1, none⟩) HS.out.2 (.slice P n cv)).up (m := at_ + 250) (by have := HA5.out; have := HTT.out.2; have := HN.out; omega))
      clear HG1 KP
      exact bodyPost_ret (v := .agg #[.int .i64 tag, .slice P n cv]) (by simp [results, Tryd.results30, go_sem, y0, y1]) rfl ⟨tag, done, P, cv, T, by rw [HLN.out]; rfl, HT.out, HY.out, ⟨by have := HTT.out.2; have := HN.out; omega, by have := HTT.out.2; have := HN.out; omega⟩, by rw [← HLN.out]; exact HG2.out.down (Nat.le_succ _), HRF.out, HWF.out⟩
    · have hposI : (0 : Int) < ((k + 1 : Nat) : Int) := by omega
      have CH := hidH (draw_ch r A l c (a5 + 50 * done.length) (by have := HA5.out; have := HTT.out.2; have := HN.out; omega))
      go_wp2_with fail
      refine wp_region_any (by kernel_rfl) ?_
      refine regDp _ _ _ _ _ _ _ _ _ _ _ _ _ _ _ _ _ _ _ _ w1 okY r w2.heap.size (w.heap.size + 1) T tag (.slice P n cv) done A l c (a5 + 50 * done.length) (a5 + 50 * done.length + 50) (by have := HS.out; have := HS3.out; omega) (by have := HS.out; omega) (by have := HS.out; omega) (by have := HS.out; have := HS3.out; omega) HTT.out.1 (by have := HTT.out.2; have := HN.out; omega) CH.out (by kernel_rfl) (by kernel_rfl) (by kernel_rfl) rfl ⟨(fun h => h), (fun h => h), (fun h => h), (fun h => h)⟩ (fun _ => HK.out.below (Below.refl _ _).drew) (fun _ => HG.out.below (Below.refl _ _).drew) ⟨(fun _ => HR.out.below (Below.refl _ _).drew), (fun h => by simp at h)⟩ (HW.out.trans (Win.of_below (Below.refl _ _).drew)) (Nat.le_refl _) HG.out.1 ?_
      intro s15 s16 s17 s18 s19 s20 s21 W hR2 hW2 hX
      obtain ⟨y, v2, T2, ry, K6, G6, hT2⟩ := hX
      have HX := hidH (And.intro hR2 (And.intro hW2 (And.intro K6 (And.intro G6 (And.intro ry (show w.heap.size + 1 ≤ T2 from Nat.le_trans HTT.out.1 (Nat.le_trans HG.out.1 hT2)))))))
      clear hR2 hW2 K6 G6 CH HR HK HG ry KRW
      go_wp2
      go_roundg k
      case measure => omega
      case rel => exact ⟨k, done ++ [y], v2, T2, rfl, (by rw [IntWalk.wrap64_in (k : Int) (by have := HTT.out.2; have := HN.out; omega)]), by have := HTT.out.2; simp; omega, (fun z hz => (List.mem_append.1 hz).elim (HY.out z) (fun q => by simp at q; subst q; exact HX.out.2.2.2.2.1)), by simpa [Nat.mul_add, Nat.add_assoc] using HX.out.1, HX.out.2.2.1, HX.out.2.2.2.1, HX.out.2.1, HX.out.2.2.2.2.2⟩
end Go.Proofs.YtepcikghhnfacaaDoor
