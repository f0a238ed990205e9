/- The program's byteReader: sack, asconf. -/
import Derived.Test.YtjjileefdjjijaaDoorRgR
import Derived.Test.YtjjileefdjjijaaDoorTySack
namespace Go.Proofs.YtjjileefdjjijaaDoor
open Go.RowKit Go.Deep

theorem number_bad' (r : Nat) (l : List Int) (w : World) (ty : TypeId) (pv : Value) (h : RE w r ty pv l) (hl : l.length < 1) :
    Calls Tryd.prog 138 #[.pointer (some ⟨r, 0, none⟩)] w fun e w' => e = PanE (.iface ty pv) ∧ Win r (r + 1) w w' := by
  obtain rfl := List.eq_nil_of_length_eq_zero (show l.length = 0 by omega)
  exact (number_bad r w ty pv h).mono (fun e w' q => ⟨q.1, by rw [q.2]; exact Win.refl _ _ _⟩)
theorem OwL.ints {w : World} {g : Nat} : ∀ (zs : List Int) (o : Nat) (S : Fp), (∀ k, k < zs.length → w.cell? ⟨g, o + k, none⟩ = some (.int .i64 (zs.getD k 0)) ∧ w.frozen? ⟨g, o + k, none⟩ = false ∧ S g (o + k)) → OwL w (zs.map V.int) S g o
  | [], _, _, _ => by simp only [List.map_nil]; unfold OwL; trivial
  | x :: zs, o, S, h => by
    rw [List.map_cons]
    unfold OwL
    obtain ⟨h1, h2, h3⟩ := h 0 (by simp)
    refine ⟨_, fun _ _ => False, fun a b => (a = g ∧ o + 1 ≤ b) ∧ S a b, h1, h2, h3, by unfold Ow; rfl, ?_, fun _ _ q => q.elim, fun _ _ q => q.2, fun q => q, fun q => by have := q.1.2; omega, fun _ _ q => q.elim⟩
    refine OwL.ints zs (o + 1) _ (fun k hk => ?_)
    obtain ⟨q1, q2, q3⟩ := h (k + 1) (by simpa using hk)
    rw [show o + 1 + k = o + (k + 1) by omega]
    exact ⟨by simpa using q1, q2, ⟨rfl, by omega⟩, q3⟩
theorem own_st {w : World} {B n : Nat} {e : TypeId} {v : Value} {zs : List Int} (h : w.ownsRow B e 2 v n (zs.map (Value.int .i64))) (hl : zs.length = n * 2) : OwV B w.heap.size w (.st n (zs.map V.int)) v := by
  obtain ⟨_, ⟨rfl, hn⟩ | ⟨g, cap, cur, rfl, hg, hblk, hnc, hm, hcs, htake⟩⟩ := h
  · subst hn
    have : zs = [] := List.eq_nil_of_length_eq_zero (by omega)
    subst this
    refine ⟨Nat.le_refl _, ?_⟩
    unfold Ow
    exact ⟨none, 0, rfl, ⟨Nat.le_refl _, by simp⟩, .inl ⟨rfl, rfl⟩⟩
  · have K : Blk w g e cur := hblk
    unfold maxLen at hm
    refine ⟨Nat.le_refl _, ?_⟩
    unfold Ow
    refine ⟨_, cap, rfl, ⟨hnc, by omega⟩, .inr ⟨g, 0, rfl, K.lt, OwL.ints zs 0 _ (fun k hk => ⟨?_, K.frozen _, hg, K.lt⟩)⟩⟩
    rw [Nat.zero_add, K.cell]
    have h1 : (cur.toList.take (n * 2))[k]? = (zs.map (Value.int .i64))[k]? := by rw [htake]
    rw [List.getElem?_take_of_lt (by omega)] at h1
    simpa [hk, List.getD_eq_getElem?_getD] using h1
theorem gapsOf_app : ∀ (m : Nat) (a b : List Int), a.length = 4 * m → gapsOf (a ++ b) = gapsOf a ++ gapsOf b
  | 0, a, b, h => by
    have : a = [] := List.eq_nil_of_length_eq_zero (by omega)
    subst this; simp [gapsOf]
  | m + 1, a, b, h => by
    match a, h with
    | x :: y :: z :: t :: a, h =>
      show gapsOf (x :: y :: z :: t :: (a ++ b)) = gapsOf (x :: y :: z :: t :: a) ++ gapsOf b
      rw [gapsOf, gapsOf, gapsOf_app m a b (by simp at h; omega)]
      rfl
theorem opsOf_app : ∀ (m : Nat) (a b : List Int), a.length = 2 * m → opsOf (a ++ b) = opsOf a ++ opsOf b
  | 0, a, b, h => by
    have : a = [] := List.eq_nil_of_length_eq_zero (by omega)
    subst this; simp [opsOf]
  | m + 1, a, b, h => by
    match a, h with
    | x :: y :: a, h =>
      show opsOf (x :: y :: (a ++ b)) = opsOf (x :: y :: a) ++ opsOf b
      rw [opsOf, opsOf, opsOf_app m a b (by simp at h; omega)]
      rfl
theorem gaps_step {L : List Int} {j : Nat} (h : 4 * (j + 1) ≤ L.length) : gapsOf (L.take (4 * (j + 1))) = gapsOf (L.take (4 * j)) ++ [⟨pairAt (L.drop (4 * j)) 0, pairAt ((L.drop (4 * j)).drop 2) 0⟩] := by
  have e : L.take (4 * (j + 1)) = L.take (4 * j) ++ (L.drop (4 * j)).take 4 := by rw [show 4 * (j + 1) = 4 * j + 4 by omega, List.take_add]
  rw [e, gapsOf_app j _ _ (by rw [List.length_take]; omega)]
  congr 1
  have hl : 4 ≤ (L.drop (4 * j)).length := by rw [List.length_drop]; omega
  match L.drop (4 * j), hl with
  | a :: b :: c :: d :: r, _ => simp [gapsOf, pairAt]
theorem ops_step {L : List Int} {j : Nat} (h : 2 * (j + 1) ≤ L.length) : opsOf (L.take (2 * (j + 1))) = opsOf (L.take (2 * j)) ++ [⟨(L.drop (2 * j)).getD 0 0, ((L.drop (2 * j)).drop 1).getD 0 0⟩] := by
  have e : L.take (2 * (j + 1)) = L.take (2 * j) ++ (L.drop (2 * j)).take 2 := by rw [show 2 * (j + 1) = 2 * j + 2 by omega, List.take_add]
  rw [e, opsOf_app j _ _ (by rw [List.length_take]; omega)]
  congr 1
  have hl : 2 ≤ (L.drop (2 * j)).length := by rw [List.length_drop]; omega
  match L.drop (2 * j), hl with
  | a :: b :: r, _ => simp [opsOf]
theorem gapsOf_len : ∀ (m : Nat) (a : List Int), a.length = 4 * m → (gapsOf a).length = m
  | 0, a, h => by
    have : a = [] := List.eq_nil_of_length_eq_zero (by omega)
    subst this; simp [gapsOf]
  | m + 1, a, h => by
    match a, h with
    | x :: y :: z :: t :: a, h => rw [gapsOf, List.length_cons, gapsOf_len m a (by simp at h; omega)]
theorem opsOf_len : ∀ (m : Nat) (a : List Int), a.length = 2 * m → (opsOf a).length = m
  | 0, a, h => by
    have : a = [] := List.eq_nil_of_length_eq_zero (by omega)
    subst this; simp [opsOf]
  | m + 1, a, h => by
    match a, h with
    | x :: y :: a, h => rw [opsOf, List.length_cons, opsOf_len m a (by simp at h; omega)]
theorem flat_ints {α : Type} (f : α → List V) (h : α → List Int) (e : ∀ x, f x = (h x).map V.int) (r : List α) : r.flatMap f = (r.flatMap h).map V.int := by
  induction r with
  | nil => rfl
  | cons x r ih => rw [List.flatMap_cons, List.flatMap_cons, List.map_append, ih, e]
def row_sack (x : GapM) : List Int := [x.From, x.To]
theorem row_sack_len (r : List GapM) : (r.flatMap row_sack).length = r.length * 2 := by
  induction r with
  | nil => rfl
  | cons x r ih => rw [List.flatMap_cons, List.length_append, ih, List.length_cons]; simp [row_sack]; omega
/-- The rows so far. -/
def St_sack (r g B : Nat) (ty : TypeId) (pv : Value) (L : List Int) (z : Int) (ws : World) (j : Nat) (wr : World) : Prop :=
  ∃ (A : Option Addr) (m c : Nat), Blk wr g 34 #[.int .i64 z, .slice A m c] ∧ wr.ownsRow B 52 2 (.slice A m c) j (((gapsOf (L.take (4 * j))).flatMap row_sack).map (Value.int .i64)) ∧ RE wr r ty pv (L.drop (4 * j)) ∧ Win r (r + 1) ws wr ∧ B ≤ wr.heap.size
theorem St_sack_turn {r g B : Nat} {ty : TypeId} {pv : Value} {L : List Int} {z : Int} {ws wr : World} {j : Nat} {v2 : Value} (_h : 4 * (j + 1) ≤ L.length) (x0 x1 : Int) (hx : gapsOf (L.take (4 * (j + 1))) = gapsOf (L.take (4 * j)) ++ [⟨x0, x1⟩])
    (k : Blk wr g 34 #[.int .i64 z, v2]) (o : wr.ownsRow B 52 2 v2 (j + 1) (((gapsOf (L.take (4 * j))).flatMap row_sack).map (Value.int .i64) ++ [.int .i64 x0, .int .i64 x1])) (hr : RE wr r ty pv (((L.drop (4 * j)).drop 2).drop 2)) (hw : Win r (r + 1) ws wr) (hB : B ≤ wr.heap.size) : St_sack r g B ty pv L z ws (j + 1) wr := by
  obtain ⟨A, m, c, rfl⟩ := own_sliceE o
  refine ⟨A, m, c, k, ?_, ?_, hw, hB⟩
  · rw [hx, List.flatMap_append]
    simpa [row_sack] using o
  · have e : L.drop (4 * (j + 1)) = ((L.drop (4 * j)).drop 2).drop 2 := by rw [List.drop_drop, List.drop_drop, show 4 * j + 2 + 2 = 4 * (j + 1) by omega]
    rw [e]; exact hr
set_option maxRecDepth 100000 in
set_option maxHeartbeats 8000000 in
theorem sack_ok (r : Nat) (l0 : List Int) (w : World) (ty : TypeId) (pv : Value) (h : RE w r ty pv l0) (h5 : 5 ≤ l0.length) (hn : 5 + 4 * cntN l0 4 ≤ l0.length) (hm : l0.length ≤ 4000000) :
    Calls Tryd.prog 128 #[.pointer (some ⟨r, 0, none⟩)] w (StRes r (SackM.vs ⟨atW l0 0, gapsOf ((l0.drop 5).take (4 * cntN l0 4))⟩) w) := by
  have K1 := Blk.new w 34 #[.int .i64 0, .slice none 0 0]
  have B1 := bal (Below.refl w.heap.size w) (.cells #[.int .i64 0, .slice none 0 0] 34)
  obtain ⟨w1, hw1⟩ : ∃ w1, w.alloc (.cells #[.int .i64 0, .slice none 0 0] 34) = w1 := ⟨_, rfl⟩
  have hs1 : w1.heap.size = w.heap.size + 1 := by rw [← hw1]; simp
  rw [hw1] at K1 B1
  have hrl := h.rd.lt
  have HT := hidH (And.intro (word_ok r l0 w1 ty pv (h.below B1) (by omega)) K1)
  have HK1 := hidH K1
  have W01 := hidH (Win.of_below (B := r) (C := r + 1) B1)
  have HS := hidH (And.intro hs1 hrl)
  have HW1 := hidH hw1
  have HG := hidH (And.intro h5 (And.intro hn hm))
  clear h K1 B1 hs1 hw1 h5 hn hm
  go_enter Tryd.func128, Tryd.ntmps128
  go_wp2_with fail
  rw [HW1.out]
  refine HT.out.1.mono ?_
  rintro e w2 ⟨rfl, h2, hw⟩
  obtain ⟨x0, hx0⟩ : ∃ x, atW l0 0 = x := ⟨_, rfl⟩
  have HX0 := hidH hx0
  rw [hx0]
  have B3 := bal (Below.refl w2.heap.size w2) (.cells #[.int .i64 x0, .slice none 0 0] 34)
  have K3 := hidH (Blk.new w2 34 #[.int .i64 x0, .slice none 0 0])
  have H3 := h2.below B3
  have HZ := hidH hw.size
  have HWW := hidH (hw.trans (Win.of_below B3))
  have HC := hidH (number_ok' r (l0.drop 4) _ ty pv H3 (by have := HG.out; rw [List.length_drop]; omega))
  have hb := h2.by_.get 0
  have hcn : (l0.drop 4).getD 0 0 = ((cntN l0 4 : Nat) : Int) := by rw [getD_drop0]; rw [getD_drop0] at hb; unfold cntN; omega
  have hcb : cntN l0 4 ≤ 255 := by rw [hcn] at hb; omega
  rw [hcn] at HC
  obtain ⟨n, hn⟩ : ∃ n, cntN l0 4 = n := ⟨_, rfl⟩
  have HNN := hidH hn
  rw [hn] at HC HG hcb
  have hnI : (n : Int) ≤ 255 := by omega
  obtain ⟨L, hL⟩ : ∃ L, l0.drop 5 = L := ⟨_, rfl⟩
  have HLQ := hidH hL
  have HLL := hidH (show L.length = l0.length - 5 by rw [← hL, List.length_drop])
  have hL4 : (l0.drop 4).drop 1 = L := by rw [List.drop_drop, ← hL]
  rw [hL4] at HC
  clear h2 hw hx0 B3 H3 hb hcn hcb hn hL hL4 HT
  go_wp2_with fail
  refine HC.out.mono ?_
  rintro e w4 ⟨rfl, h3, hw, hs⟩
  have HST := hidH (show St_sack r w2.heap.size (w2.heap.size + 1) ty pv L x0 w1 0 w4 from ⟨none, 0, 0, hw.blk K3.out (.inr (by have := HS.out; have := HZ.out; omega)), by simpa [gapsOf] using World.ownsRow_nil _ _ _ _, by simpa using h3, HWW.out.trans hw, by rw [hs]; simp⟩)
  clear HC h3 hw hs
  go_wp2
  go_loopw [9] (fun i wr => ∃ j : Nat, j ≤ n ∧ i = .int .i64 j ∧ St_sack r w2.heap.size (w2.heap.size + 1) ty pv L x0 w1 j wr) (fun i _ => n - (intOf i).toNat)
  case atStart => exact ⟨0, by omega, rfl, HST.out⟩
  case round =>
    obtain ⟨j, hj, rfl, hst⟩ := hrel
    by_cases hlt : j < n
    · have hj1 : (j : Int) < (n : Int) := by omega
      have hjl : 4 * (j + 1) ≤ L.length := by have := HG.out.2.1; have := HLL.out; omega
      obtain ⟨A, m, c, k, o, hre, hwin, hB⟩ := hst
      have C1 := hidH (fun (u : World) (hu : RE u r ty pv (L.drop (4 * j))) => pair_ok' r (L.drop (4 * j)) u ty pv hu (by rw [List.length_drop]; omega))
      have C2 := hidH (fun (u : World) (hu : RE u r ty pv ((L.drop (4 * j)).drop 2)) => pair_ok' r ((L.drop (4 * j)).drop 2) u ty pv hu (by rw [List.length_drop, List.length_drop]; omega))
      have hd := Below.refl wr.heap.size wr
      have Hk := hidH (k.below hd.drew)
      have Ho := hidH (own_below0 o hd.drew)
      have Hr := hidH (hre.below hd.drew)
      have Hw := hidH (hwin.trans (Win.of_below hd.drew))
      have HBB := hidH (show w2.heap.size + 1 ≤ wr.drew.heap.size from hB)
      have HSTP := hidH (gaps_step hjl)
      clear k o hre hwin hB hd
      go_wp2_with fail
      refine wp_region_any (by kernel_rfl) ?_
      refine regRgGap _ _ _ _ _ _ _ _ _ _ _ _ _ _ _ _ _ _ _ _ _ w1 r w2.heap.size (w2.heap.size + 1) j _ _ x0 (.slice A m c) _ _ _ _ ty pv (by have := HS.out; have := HZ.out; omega) (Nat.lt_succ_self _) (by have := HZ.out; omega) HZ.out (by have := HG.out; omega) C1.out C2.out (by kernel_rfl) (by kernel_rfl) (by kernel_rfl) rfl (fun h => h) ⟨(fun h => h), (fun h => h), (fun h => h), (fun h => h), (fun h => h)⟩ (fun _ => Hk.out) (fun _ => Ho.out) ⟨(fun _ => Hr.out), (fun h => by simp at h), (fun h => by simp at h)⟩ Hw.out HBB.out ?_
      intros
      rename_i W gr gw gb g10
      obtain ⟨v2, k2, o2⟩ := g10
      have HR := hidH (St_sack_turn hjl _ _ HSTP.out k2 o2 gr gw gb)
      clear gr gw gb k2 o2
      go_wp2
      go_roundw
      case rel => exact ⟨j + 1, by omega, by go_num, HR.out⟩
      case measure => simp [intOf]; omega
    · obtain rfl : j = n := by omega
      obtain ⟨A, m, c, k, o, hre, hwin, hB⟩ := hst
      have hlj : (L.take (4 * j)).length = 4 * j := by rw [List.length_take]; have := HG.out.2.1; have := HLL.out; omega
      have HOB := hidH (own_st o (by rw [row_sack_len, gapsOf_len j _ hlj]))
      have HLJ := hidH (gapsOf_len j _ hlj)
      have hmj : m = j := by rcases o.2 with ⟨q1, q2⟩ | ⟨g1, cap, cur, q1, _⟩ <;> (injection q1 <;> omega)
      obtain rfl : j = m := hmj.symm
      have K5 := hwin.blk HK1.out (.inr (by have := HS.out; omega))
      have y0 := K5.cell 0
      have y1 := K5.cell 1
      have f0 := K5.frozen 0
      have f1 := K5.frozen 1
      have z0 := k.cell 0
      have z1 := k.cell 1
      simp only [List.getElem?_toArray, List.getElem?_cons_succ, List.getElem?_cons_zero] at y0 y1 z0 z1
      have hr5 := K5.lt
      have hr7 := k.lt
      have HWN := hidH (W01.out.trans hwin)
      have HSZ := hidH hB
      have ne1 : w.heap.size ≠ w2.heap.size := by have := HS.out; have := HZ.out; omega
      clear k o hre hwin hB hlj K5 hlt hj
      go_wp2
      have hlo : w.heap.size + 1 ≤ w2.heap.size := by have := HS.out; have := HZ.out; omega
      exact bodyPost_ret (v := .agg #[.int .i64 x0, .slice A j c]) (by simp [results, Tryd.results128, go_sem, y0, y1]) rfl ⟨_, rfl, by
        have e : (SackM.vs ⟨atW l0 0, gapsOf ((l0.drop 5).take (4 * cntN l0 4))⟩) = [.int x0, .st j (((gapsOf (L.take (4 * j))).flatMap row_sack).map V.int)] := by
          simp only [SackM.vs, st_Gap]
          rw [HX0.out, HNN.out, HLQ.out, HLJ.out, flat_ints GapM.vs row_sack (fun _ => rfl)]
        rw [e]
        refine OwN.int x0 ((OwN.cons (B := w2.heap.size + 1) (C := wr.heap.size) (D := wr.heap.size) ?_ (OwN.nil (by simp [World.setCell])) HSZ.out (Nat.le_refl _)).mono (by omega) (by simp [World.setCell]) (Nat.le_refl _))
        iterate 2 (refine OwV.win (B' := w.heap.size) (C' := w.heap.size + 1) ?_ (set_win _ _ _ _) (.inr (by omega)))
        exact HOB.out, by
        refine HWN.out.andBelow5 ?_
        iterate 2 (refine bsc ?_ (Nat.le_refl _) _)
        exact Below.refl _ _⟩
set_option maxRecDepth 100000 in
set_option maxHeartbeats 8000000 in
theorem sack_bad (r : Nat) (l0 : List Int) (w : World) (ty : TypeId) (pv : Value) (h : RE w r ty pv l0) (hno : ¬ (5 ≤ l0.length ∧ 5 + 4 * cntN l0 4 ≤ l0.length)) (hm : l0.length ≤ 4000000) :
    Calls Tryd.prog 128 #[.pointer (some ⟨r, 0, none⟩)] w fun e w' => e = PanE (.iface ty pv) ∧ Win r (r + 1) w w' := by
  have hun : PanE (.iface ty pv) = .panicked [{ v := .iface ty pv, recovered := false }] := rfl
  rw [hun]
  have HUN := hidH hun
  clear hun
  have B1 := bal (Below.refl w.heap.size w) (.cells #[.int .i64 0, .slice none 0 0] 34)
  obtain ⟨w1, hw1⟩ : ∃ w1, w.alloc (.cells #[.int .i64 0, .slice none 0 0] 34) = w1 := ⟨_, rfl⟩
  have hs1 : w1.heap.size = w.heap.size + 1 := by rw [← hw1]; simp
  rw [hw1] at B1
  have hrl := h.rd.lt
  have H1 := h.below B1
  have W01 := hidH (Win.of_below (B := r) (C := r + 1) B1)
  have HS := hidH (And.intro hs1 hrl)
  have HW1 := hidH hw1
  clear h B1 hw1 hs1
  by_cases h4 : l0.length < 4
  · have HC := hidH (word_bad r l0 w1 ty pv H1 h4)
    rw [HUN.out] at HC
    clear H1 h4 hno hm
    go_enter Tryd.func128, Tryd.ntmps128
    go_wp2_with fail
    rw [HW1.out]
    refine HC.out.mono ?_
    rintro e w2 ⟨rfl, hw⟩
    have HE := hidH (W01.out.trans hw)
    clear HC hw
    go_wp2
    exact ⟨rfl, rfl, HE.out⟩
  · have HT := hidH (word_ok r l0 w1 ty pv H1 (by omega))
    have HG := hidH (And.intro hno (And.intro h4 hm))
    clear H1 h4 hno hm
    by_cases h5 : l0.length < 5
    · have H5 := hidH h5
      clear h5
      go_enter Tryd.func128, Tryd.ntmps128
      go_wp2_with fail
      rw [HW1.out]
      refine HT.out.mono ?_
      rintro e w2 ⟨rfl, h2, hw⟩
      obtain ⟨x0, hx0⟩ : ∃ x, atW l0 0 = x := ⟨_, rfl⟩
      rw [hx0]
      have B3 := bal (Below.refl w2.heap.size w2) (.cells #[.int .i64 x0, .slice none 0 0] 34)
      have H3 := h2.below B3
      have HWW := hidH ((W01.out.trans hw).trans (Win.of_below B3))
      have hnil : l0.drop 4 = [] := List.eq_nil_of_length_eq_zero (by rw [List.length_drop]; have := H5.out; omega)
      rw [hnil] at H3
      have HC := hidH (number_bad r _ ty pv H3)
      rw [HUN.out] at HC
      clear h2 hw hx0 B3 H3 hnil HT
      go_wp2_with fail
      refine HC.out.mono ?_
      rintro e w9 ⟨rfl, rfl⟩
      clear HC
      go_wp2
      exact ⟨rfl, rfl, HWW.out⟩
    · have HG5 := hidH (And.intro h5 (show l0.length < 5 + 4 * cntN l0 4 by have := HG.out.1; omega))
      clear h5
      go_enter Tryd.func128, Tryd.ntmps128
      go_wp2_with fail
      rw [HW1.out]
      refine HT.out.mono ?_
      rintro e w2 ⟨rfl, h2, hw⟩
      obtain ⟨x0, hx0⟩ : ∃ x, atW l0 0 = x := ⟨_, rfl⟩
      rw [hx0]
      have B3 := bal (Below.refl w2.heap.size w2) (.cells #[.int .i64 x0, .slice none 0 0] 34)
      have K3 := hidH (Blk.new w2 34 #[.int .i64 x0, .slice none 0 0])
      have H3 := h2.below B3
      have HZ := hidH hw.size
      have HWW := hidH (hw.trans (Win.of_below B3))
      have HC := hidH (number_ok' r (l0.drop 4) _ ty pv H3 (by have := HG5.out; rw [List.length_drop]; omega))
      have hb := h2.by_.get 0
      have hcn : (l0.drop 4).getD 0 0 = ((cntN l0 4 : Nat) : Int) := by rw [getD_drop0]; rw [getD_drop0] at hb; unfold cntN; omega
      have hcb : cntN l0 4 ≤ 255 := by rw [hcn] at hb; omega
      rw [hcn] at HC
      obtain ⟨n, hn⟩ : ∃ n, cntN l0 4 = n := ⟨_, rfl⟩
      rw [hn] at HC HG5 hcb
      have hnI : (n : Int) ≤ 255 := by omega
      obtain ⟨L, hL⟩ : ∃ L, l0.drop 5 = L := ⟨_, rfl⟩
      have HLL := hidH (show L.length < 4 * n ∧ L.length ≤ 4000000 by rw [← hL, List.length_drop]; have := HG5.out; have := HG.out.2; omega)
      have hL4 : (l0.drop 4).drop 1 = L := by rw [List.drop_drop, ← hL]
      rw [hL4] at HC
      clear h2 hw hx0 B3 H3 hb hcn hn hL hL4 HT hcb
      go_wp2_with fail
      refine HC.out.mono ?_
      rintro e w4 ⟨rfl, h3, hw, hs⟩
      have HST := hidH (show St_sack r w2.heap.size (w2.heap.size + 1) ty pv L x0 w1 0 w4 from ⟨none, 0, 0, hw.blk K3.out (.inr (by have := HS.out; have := HZ.out; omega)), by simpa [gapsOf] using World.ownsRow_nil _ _ _ _, by simpa using h3, HWW.out.trans hw, by rw [hs]; simp⟩)
      clear HC h3 hw hs
      go_wp2
      go_loopw [9] (fun i wr => ∃ j : Nat, 4 * j ≤ L.length ∧ i = .int .i64 j ∧ St_sack r w2.heap.size (w2.heap.size + 1) ty pv L x0 w1 j wr) (fun i _ => L.length - (intOf i).toNat)
      case atStart => exact ⟨0, by omega, rfl, HST.out⟩
      case round =>
        obtain ⟨j, hj, rfl, hst⟩ := hrel
        have hj1 : (j : Int) < (n : Int) := by have := HLL.out; omega
        obtain ⟨A, m, c, k, o, hre, hwin, hB⟩ := hst
        have hd := Below.refl wr.heap.size wr
        by_cases hjl : 4 * (j + 1) ≤ L.length
        · have C1 := hidH (fun (u : World) (hu : RE u r ty pv (L.drop (4 * j))) => pair_ok' r (L.drop (4 * j)) u ty pv hu (by rw [List.length_drop]; omega))
          have C2 := hidH (fun (u : World) (hu : RE u r ty pv ((L.drop (4 * j)).drop 2)) => pair_ok' r ((L.drop (4 * j)).drop 2) u ty pv hu (by rw [List.length_drop, List.length_drop]; omega))
          have Hk := hidH (k.below hd.drew)
          have Ho := hidH (own_below0 o hd.drew)
          have Hr := hidH (hre.below hd.drew)
          have Hw := hidH (hwin.trans (Win.of_below hd.drew))
          have HBB := hidH (show w2.heap.size + 1 ≤ wr.drew.heap.size from hB)
          have HSTP := hidH (gaps_step hjl)
          clear k o hre hwin hB hd
          go_wp2_with fail
          refine wp_region_any (by kernel_rfl) ?_
          refine regRgGap _ _ _ _ _ _ _ _ _ _ _ _ _ _ _ _ _ _ _ _ _ w1 r w2.heap.size (w2.heap.size + 1) j _ _ x0 (.slice A m c) _ _ _ _ ty pv (by have := HS.out; have := HZ.out; omega) (Nat.lt_succ_self _) (by have := HZ.out; omega) HZ.out (by have := HLL.out; omega) C1.out C2.out (by kernel_rfl) (by kernel_rfl) (by kernel_rfl) rfl (fun h => h) ⟨(fun h => h), (fun h => h), (fun h => h), (fun h => h), (fun h => h)⟩ (fun _ => Hk.out) (fun _ => Ho.out) ⟨(fun _ => Hr.out), (fun h => by simp at h), (fun h => by simp at h)⟩ Hw.out HBB.out ?_
          intros
          rename_i W gr gw gb g10
          obtain ⟨v2, k2, o2⟩ := g10
          have HR := hidH (St_sack_turn hjl _ _ HSTP.out k2 o2 gr gw gb)
          clear gr gw gb k2 o2
          go_wp2
          go_roundw
          case rel => exact ⟨j + 1, by omega, by go_num, HR.out⟩
          case measure => simp [intOf]; omega
        · have Hk := hidH (k.below hd.drew)
          have Hr := hidH (hre.below hd.drew)
          have Hw := hidH (hwin.trans (Win.of_below hd.drew))
          by_cases hfirst : (L.drop (4 * j)).length < 2
          · have C1 := hidH (fun (u : World) (hu : RE u r ty pv (L.drop (4 * j))) => pair_bad r (L.drop (4 * j)) u ty pv hu hfirst)
            rw [HUN.out] at C1
            clear k o hre hwin hB hd hfirst
            go_wp2_with fail
            refine wp_region_any (by kernel_rfl) ?_
            refine regRgXGap _ _ _ _ _ _ _ _ _ _ _ _ _ _ _ _ _ _ _ _ _ w1 r w2.heap.size x0 (.slice A m c) _ ty pv C1.out ?pan (by kernel_rfl) (by kernel_rfl) (by kernel_rfl) rfl Hk.out Hr.out Hw.out
            case pan =>
              intro ac W hW hdf
              exact ⟨hdf, rfl, W01.out.trans hW⟩
          · have C1 := hidH (fun (u : World) (hu : RE u r ty pv (L.drop (4 * j))) => pair_ok' r (L.drop (4 * j)) u ty pv hu (by omega))
            have C2 := hidH (fun (u : World) (hu : RE u r ty pv ((L.drop (4 * j)).drop 2)) => pair_bad r ((L.drop (4 * j)).drop 2) u ty pv hu (by rw [List.length_drop, List.length_drop]; rw [List.length_drop] at hfirst; omega))
            rw [HUN.out] at C2
            clear k o hre hwin hB hd hfirst
            go_wp2_with fail
            refine wp_region_any (by kernel_rfl) ?_
            refine regRgYGap _ _ _ _ _ _ _ _ _ _ _ _ _ _ _ _ _ _ _ _ _ w1 r w2.heap.size _ x0 (.slice A m c) _ _ ty pv (by have := HS.out; have := HZ.out; omega) C1.out C2.out ?pan (by kernel_rfl) (by kernel_rfl) (by kernel_rfl) rfl Hk.out ⟨(fun _ => Hr.out), (fun h => by simp at h)⟩ Hw.out
            case pan =>
              intro ac W hW hdf
              exact ⟨hdf, rfl, W01.out.trans hW⟩
def row_asconf (x : AddrOpM) : List Int := [x.Kind, x.Addr]
theorem row_asconf_len (r : List AddrOpM) : (r.flatMap row_asconf).length = r.length * 2 := by
  induction r with
  | nil => rfl
  | cons x r ih => rw [List.flatMap_cons, List.length_append, ih, List.length_cons]; simp [row_asconf]; omega
/-- The rows so far. -/
def St_asconf (r g B : Nat) (ty : TypeId) (pv : Value) (L : List Int) (z : Int) (ws : World) (j : Nat) (wr : World) : Prop :=
  ∃ (A : Option Addr) (m c : Nat), Blk wr g 59 #[.int .i64 z, .slice A m c] ∧ wr.ownsRow B 70 2 (.slice A m c) j (((opsOf (L.take (2 * j))).flatMap row_asconf).map (Value.int .i64)) ∧ RE wr r ty pv (L.drop (2 * j)) ∧ Win r (r + 1) ws wr ∧ B ≤ wr.heap.size
theorem St_asconf_turn {r g B : Nat} {ty : TypeId} {pv : Value} {L : List Int} {z : Int} {ws wr : World} {j : Nat} {v2 : Value} (_h : 2 * (j + 1) ≤ L.length) (x0 x1 : Int) (hx : opsOf (L.take (2 * (j + 1))) = opsOf (L.take (2 * j)) ++ [⟨x0, x1⟩])
    (k : Blk wr g 59 #[.int .i64 z, v2]) (o : wr.ownsRow B 70 2 v2 (j + 1) (((opsOf (L.take (2 * j))).flatMap row_asconf).map (Value.int .i64) ++ [.int .i64 x0, .int .i64 x1])) (hr : RE wr r ty pv (((L.drop (2 * j)).drop 1).drop 1)) (hw : Win r (r + 1) ws wr) (hB : B ≤ wr.heap.size) : St_asconf r g B ty pv L z ws (j + 1) wr := by
  obtain ⟨A, m, c, rfl⟩ := own_sliceE o
  refine ⟨A, m, c, k, ?_, ?_, hw, hB⟩
  · rw [hx, List.flatMap_append]
    simpa [row_asconf] using o
  · have e : L.drop (2 * (j + 1)) = ((L.drop (2 * j)).drop 1).drop 1 := by rw [List.drop_drop, List.drop_drop, show 2 * j + 1 + 1 = 2 * (j + 1) by omega]
    rw [e]; exact hr
set_option maxRecDepth 100000 in
set_option maxHeartbeats 8000000 in
theorem asconf_ok (r : Nat) (l0 : List Int) (w : World) (ty : TypeId) (pv : Value) (h : RE w r ty pv l0) (h5 : 5 ≤ l0.length) (hn : 5 + 2 * cntN l0 4 ≤ l0.length) (hm : l0.length ≤ 4000000) :
    Calls Tryd.prog 130 #[.pointer (some ⟨r, 0, none⟩)] w (StRes r (AsconfM.vs ⟨atW l0 0, opsOf ((l0.drop 5).take (2 * cntN l0 4))⟩) w) := by
  have K1 := Blk.new w 59 #[.int .i64 0, .slice none 0 0]
  have B1 := bal (Below.refl w.heap.size w) (.cells #[.int .i64 0, .slice none 0 0] 59)
  obtain ⟨w1, hw1⟩ : ∃ w1, w.alloc (.cells #[.int .i64 0, .slice none 0 0] 59) = w1 := ⟨_, rfl⟩
  have hs1 : w1.heap.size = w.heap.size + 1 := by rw [← hw1]; simp
  rw [hw1] at K1 B1
  have hrl := h.rd.lt
  have HT := hidH (And.intro (word_ok r l0 w1 ty pv (h.below B1) (by omega)) K1)
  have HK1 := hidH K1
  have W01 := hidH (Win.of_below (B := r) (C := r + 1) B1)
  have HS := hidH (And.intro hs1 hrl)
  have HW1 := hidH hw1
  have HG := hidH (And.intro h5 (And.intro hn hm))
  clear h K1 B1 hs1 hw1 h5 hn hm
  go_enter Tryd.func130, Tryd.ntmps130
  go_wp2_with fail
  rw [HW1.out]
  refine HT.out.1.mono ?_
  rintro e w2 ⟨rfl, h2, hw⟩
  obtain ⟨x0, hx0⟩ : ∃ x, atW l0 0 = x := ⟨_, rfl⟩
  have HX0 := hidH hx0
  rw [hx0]
  have B3 := bal (Below.refl w2.heap.size w2) (.cells #[.int .i64 x0, .slice none 0 0] 59)
  have K3 := hidH (Blk.new w2 59 #[.int .i64 x0, .slice none 0 0])
  have H3 := h2.below B3
  have HZ := hidH hw.size
  have HWW := hidH (hw.trans (Win.of_below B3))
  have HC := hidH (number_ok' r (l0.drop 4) _ ty pv H3 (by have := HG.out; rw [List.length_drop]; omega))
  have hb := h2.by_.get 0
  have hcn : (l0.drop 4).getD 0 0 = ((cntN l0 4 : Nat) : Int) := by rw [getD_drop0]; rw [getD_drop0] at hb; unfold cntN; omega
  have hcb : cntN l0 4 ≤ 255 := by rw [hcn] at hb; omega
  rw [hcn] at HC
  obtain ⟨n, hn⟩ : ∃ n, cntN l0 4 = n := ⟨_, rfl⟩
  have HNN := hidH hn
  rw [hn] at HC HG hcb
  have hnI : (n : Int) ≤ 255 := by omega
  obtain ⟨L, hL⟩ : ∃ L, l0.drop 5 = L := ⟨_, rfl⟩
  have HLQ := hidH hL
  have HLL := hidH (show L.length = l0.length - 5 by rw [← hL, List.length_drop])
  have hL4 : (l0.drop 4).drop 1 = L := by rw [List.drop_drop, ← hL]
  rw [hL4] at HC
  clear h2 hw hx0 B3 H3 hb hcn hcb hn hL hL4 HT
  go_wp2_with fail
  refine HC.out.mono ?_
  rintro e w4 ⟨rfl, h3, hw, hs⟩
  have HST := hidH (show St_asconf r w2.heap.size (w2.heap.size + 1) ty pv L x0 w1 0 w4 from ⟨none, 0, 0, hw.blk K3.out (.inr (by have := HS.out; have := HZ.out; omega)), by simpa [opsOf] using World.ownsRow_nil _ _ _ _, by simpa using h3, HWW.out.trans hw, by rw [hs]; simp⟩)
  clear HC h3 hw hs
  go_wp2
  go_loopw [9] (fun i wr => ∃ j : Nat, j ≤ n ∧ i = .int .i64 j ∧ St_asconf r w2.heap.size (w2.heap.size + 1) ty pv L x0 w1 j wr) (fun i _ => n - (intOf i).toNat)
  case atStart => exact ⟨0, by omega, rfl, HST.out⟩
  case round =>
    obtain ⟨j, hj, rfl, hst⟩ := hrel
    by_cases hlt : j < n
    · have hj1 : (j : Int) < (n : Int) := by omega
      have hjl : 2 * (j + 1) ≤ L.length := by have := HG.out.2.1; have := HLL.out; omega
      obtain ⟨A, m, c, k, o, hre, hwin, hB⟩ := hst
      have C1 := hidH (fun (u : World) (hu : RE u r ty pv (L.drop (2 * j))) => number_ok' r (L.drop (2 * j)) u ty pv hu (by rw [List.length_drop]; omega))
      have C2 := hidH (fun (u : World) (hu : RE u r ty pv ((L.drop (2 * j)).drop 1)) => number_ok' r ((L.drop (2 * j)).drop 1) u ty pv hu (by rw [List.length_drop, List.length_drop]; omega))
      have hd := Below.refl wr.heap.size wr
      have Hk := hidH (k.below hd.drew)
      have Ho := hidH (own_below0 o hd.drew)
      have Hr := hidH (hre.below hd.drew)
      have Hw := hidH (hwin.trans (Win.of_below hd.drew))
      have HBB := hidH (show w2.heap.size + 1 ≤ wr.drew.heap.size from hB)
      have HSTP := hidH (ops_step hjl)
      clear k o hre hwin hB hd
      go_wp2_with fail
      refine wp_region_any (by kernel_rfl) ?_
      refine regRgOp _ _ _ _ _ _ _ _ _ _ _ _ _ _ _ _ _ _ _ _ _ w1 r w2.heap.size (w2.heap.size + 1) j _ _ x0 (.slice A m c) _ _ _ _ ty pv (by have := HS.out; have := HZ.out; omega) (Nat.lt_succ_self _) (by have := HZ.out; omega) HZ.out (by have := HG.out; omega) C1.out C2.out (by kernel_rfl) (by kernel_rfl) (by kernel_rfl) rfl (fun h => h) ⟨(fun h => h), (fun h => h), (fun h => h), (fun h => h), (fun h => h)⟩ (fun _ => Hk.out) (fun _ => Ho.out) ⟨(fun _ => Hr.out), (fun h => by simp at h), (fun h => by simp at h)⟩ Hw.out HBB.out ?_
      intros
      rename_i W gr gw gb g10
      obtain ⟨v2, k2, o2⟩ := g10
      have HR := hidH (St_asconf_turn hjl _ _ HSTP.out k2 o2 gr gw gb)
      clear gr gw gb k2 o2
      go_wp2
      go_roundw
      case rel => exact ⟨j + 1, by omega, by go_num, HR.out⟩
      case measure => simp [intOf]; omega
    · obtain rfl : j = n := by omega
      obtain ⟨A, m, c, k, o, hre, hwin, hB⟩ := hst
      have hlj : (L.take (2 * j)).length = 2 * j := by rw [List.length_take]; have := HG.out.2.1; have := HLL.out; omega
      have HOB := hidH (own_st o (by rw [row_asconf_len, opsOf_len j _ hlj]))
      have HLJ := hidH (opsOf_len j _ hlj)
      have hmj : m = j := by rcases o.2 with ⟨q1, q2⟩ | ⟨g1, cap, cur, q1, _⟩ <;> (injection q1 <;> omega)
      obtain rfl : j = m := hmj.symm
      have K5 := hwin.blk HK1.out (.inr (by have := HS.out; omega))
      have y0 := K5.cell 0
      have y1 := K5.cell 1
      have f0 := K5.frozen 0
      have f1 := K5.frozen 1
      have z0 := k.cell 0
      have z1 := k.cell 1
      simp only [List.getElem?_toArray, List.getElem?_cons_succ, List.getElem?_cons_zero] at y0 y1 z0 z1
      have hr5 := K5.lt
      have hr7 := k.lt
      have HWN := hidH (W01.out.trans hwin)
      have HSZ := hidH hB
      have ne1 : w.heap.size ≠ w2.heap.size := by have := HS.out; have := HZ.out; omega
      clear k o hre hwin hB hlj K5 hlt hj
      go_wp2
      have hlo : w.heap.size + 1 ≤ w2.heap.size := by have := HS.out; have := HZ.out; omega
      exact bodyPost_ret (v := .agg #[.int .i64 x0, .slice A j c]) (by simp [results, Tryd.results130, go_sem, y0, y1]) rfl ⟨_, rfl, by
        have e : (AsconfM.vs ⟨atW l0 0, opsOf ((l0.drop 5).take (2 * cntN l0 4))⟩) = [.int x0, .st j (((opsOf (L.take (2 * j))).flatMap row_asconf).map V.int)] := by
          simp only [AsconfM.vs, st_AddrOp]
          rw [HX0.out, HNN.out, HLQ.out, HLJ.out, flat_ints AddrOpM.vs row_asconf (fun _ => rfl)]
        rw [e]
        refine OwN.int x0 ((OwN.cons (B := w2.heap.size + 1) (C := wr.heap.size) (D := wr.heap.size) ?_ (OwN.nil (by simp [World.setCell])) HSZ.out (Nat.le_refl _)).mono (by omega) (by simp [World.setCell]) (Nat.le_refl _))
        iterate 2 (refine OwV.win (B' := w.heap.size) (C' := w.heap.size + 1) ?_ (set_win _ _ _ _) (.inr (by omega)))
        exact HOB.out, by
        refine HWN.out.andBelow5 ?_
        iterate 2 (refine bsc ?_ (Nat.le_refl _) _)
        exact Below.refl _ _⟩
set_option maxRecDepth 100000 in
set_option maxHeartbeats 8000000 in
theorem asconf_bad (r : Nat) (l0 : List Int) (w : World) (ty : TypeId) (pv : Value) (h : RE w r ty pv l0) (hno : ¬ (5 ≤ l0.length ∧ 5 + 2 * cntN l0 4 ≤ l0.length)) (hm : l0.length ≤ 4000000) :
    Calls Tryd.prog 130 #[.pointer (some ⟨r, 0, none⟩)] w fun e w' => e = PanE (.iface ty pv) ∧ Win r (r + 1) w w' := by
  have hun : PanE (.iface ty pv) = .panicked [{ v := .iface ty pv, recovered := false }] := rfl
  rw [hun]
  have HUN := hidH hun
  clear hun
  have B1 := bal (Below.refl w.heap.size w) (.cells #[.int .i64 0, .slice none 0 0] 59)
  obtain ⟨w1, hw1⟩ : ∃ w1, w.alloc (.cells #[.int .i64 0, .slice none 0 0] 59) = w1 := ⟨_, rfl⟩
  have hs1 : w1.heap.size = w.heap.size + 1 := by rw [← hw1]; simp
  rw [hw1] at B1
  have hrl := h.rd.lt
  have H1 := h.below B1
  have W01 := hidH (Win.of_below (B := r) (C := r + 1) B1)
  have HS := hidH (And.intro hs1 hrl)
  have HW1 := hidH hw1
  clear h B1 hw1 hs1
  by_cases h4 : l0.length < 4
  · have HC := hidH (word_bad r l0 w1 ty pv H1 h4)
    rw [HUN.out] at HC
    clear H1 h4 hno hm
    go_enter Tryd.func130, Tryd.ntmps130
    go_wp2_with fail
    rw [HW1.out]
    refine HC.out.mono ?_
    rintro e w2 ⟨rfl, hw⟩
    have HE := hidH (W01.out.trans hw)
    clear HC hw
    go_wp2
    exact ⟨rfl, rfl, HE.out⟩
  · have HT := hidH (word_ok r l0 w1 ty pv H1 (by omega))
    have HG := hidH (And.intro hno (And.intro h4 hm))
    clear H1 h4 hno hm
    by_cases h5 : l0.length < 5
    · have H5 := hidH h5
      clear h5
      go_enter Tryd.func130, Tryd.ntmps130
      go_wp2_with fail
      rw [HW1.out]
      refine HT.out.mono ?_
      rintro e w2 ⟨rfl, h2, hw⟩
      obtain ⟨x0, hx0⟩ : ∃ x, atW l0 0 = x := ⟨_, rfl⟩
      rw [hx0]
      have B3 := bal (Below.refl w2.heap.size w2) (.cells #[.int .i64 x0, .slice none 0 0] 59)
      have H3 := h2.below B3
      have HWW := hidH ((W01.out.trans hw).trans (Win.of_below B3))
      have hnil : l0.drop 4 = [] := List.eq_nil_of_length_eq_zero (by rw [List.length_drop]; have := H5.out; omega)
      rw [hnil] at H3
      have HC := hidH (number_bad r _ ty pv H3)
      rw [HUN.out] at HC
      clear h2 hw hx0 B3 H3 hnil HT
      go_wp2_with fail
      refine HC.out.mono ?_
      rintro e w9 ⟨rfl, rfl⟩
      clear HC
      go_wp2
      exact ⟨rfl, rfl, HWW.out⟩
    · have HG5 := hidH (And.intro h5 (show l0.length < 5 + 2 * cntN l0 4 by have := HG.out.1; omega))
      clear h5
      go_enter Tryd.func130, Tryd.ntmps130
      go_wp2_with fail
      rw [HW1.out]
      refine HT.out.mono ?_
      rintro e w2 ⟨rfl, h2, hw⟩
      obtain ⟨x0, hx0⟩ : ∃ x, atW l0 0 = x := ⟨_, rfl⟩
      rw [hx0]
      have B3 := bal (Below.refl w2.heap.size w2) (.cells #[.int .i64 x0, .slice none 0 0] 59)
      have K3 := hidH (Blk.new w2 59 #[.int .i64 x0, .slice none 0 0])
      have H3 := h2.below B3
      have HZ := hidH hw.size
      have HWW := hidH (hw.trans (Win.of_below B3))
      have HC := hidH (number_ok' r (l0.drop 4) _ ty pv H3 (by have := HG5.out; rw [List.length_drop]; omega))
      have hb := h2.by_.get 0
      have hcn : (l0.drop 4).getD 0 0 = ((cntN l0 4 : Nat) : Int) := by rw [getD_drop0]; rw [getD_drop0] at hb; unfold cntN; omega
      have hcb : cntN l0 4 ≤ 255 := by rw [hcn] at hb; omega
      rw [hcn] at HC
      obtain ⟨n, hn⟩ : ∃ n, cntN l0 4 = n := ⟨_, rfl⟩
      rw [hn] at HC HG5 hcb
      have hnI : (n : Int) ≤ 255 := by omega
      obtain ⟨L, hL⟩ : ∃ L, l0.drop 5 = L := ⟨_, rfl⟩
      have HLL := hidH (show L.length < 2 * n ∧ L.length ≤ 4000000 by rw [← hL, List.length_drop]; have := HG5.out; have := HG.out.2; omega)
      have hL4 : (l0.drop 4).drop 1 = L := by rw [List.drop_drop, ← hL]
      rw [hL4] at HC
      clear h2 hw hx0 B3 H3 hb hcn hn hL hL4 HT hcb
      go_wp2_with fail
      refine HC.out.mono ?_
      rintro e w4 ⟨rfl, h3, hw, hs⟩
      have HST := hidH (show St_asconf r w2.heap.size (w2.heap.size + 1) ty pv L x0 w1 0 w4 from ⟨none, 0, 0, hw.blk K3.out (.inr (by have := HS.out; have := HZ.out; omega)), by simpa [opsOf] using World.ownsRow_nil _ _ _ _, by simpa using h3, HWW.out.trans hw, by rw [hs]; simp⟩)
      clear HC h3 hw hs
      go_wp2
      go_loopw [9] (fun i wr => ∃ j : Nat, 2 * j ≤ L.length ∧ i = .int .i64 j ∧ St_asconf r w2.heap.size (w2.heap.size + 1) ty pv L x0 w1 j wr) (fun i _ => L.length - (intOf i).toNat)
      case atStart => exact ⟨0, by omega, rfl, HST.out⟩
      case round =>
        obtain ⟨j, hj, rfl, hst⟩ := hrel
        have hj1 : (j : Int) < (n : Int) := by have := HLL.out; omega
        obtain ⟨A, m, c, k, o, hre, hwin, hB⟩ := hst
        have hd := Below.refl wr.heap.size wr
        by_cases hjl : 2 * (j + 1) ≤ L.length
        · have C1 := hidH (fun (u : World) (hu : RE u r ty pv (L.drop (2 * j))) => number_ok' r (L.drop (2 * j)) u ty pv hu (by rw [List.length_drop]; omega))
          have C2 := hidH (fun (u : World) (hu : RE u r ty pv ((L.drop (2 * j)).drop 1)) => number_ok' r ((L.drop (2 * j)).drop 1) u ty pv hu (by rw [List.length_drop, List.length_drop]; omega))
          have Hk := hidH (k.below hd.drew)
          have Ho := hidH (own_below0 o hd.drew)
          have Hr := hidH (hre.below hd.drew)
          have Hw := hidH (hwin.trans (Win.of_below hd.drew))
          have HBB := hidH (show w2.heap.size + 1 ≤ wr.drew.heap.size from hB)
          have HSTP := hidH (ops_step hjl)
          clear k o hre hwin hB hd
          go_wp2_with fail
          refine wp_region_any (by kernel_rfl) ?_
          refine regRgOp _ _ _ _ _ _ _ _ _ _ _ _ _ _ _ _ _ _ _ _ _ w1 r w2.heap.size (w2.heap.size + 1) j _ _ x0 (.slice A m c) _ _ _ _ ty pv (by have := HS.out; have := HZ.out; omega) (Nat.lt_succ_self _) (by have := HZ.out; omega) HZ.out (by have := HLL.out; omega) C1.out C2.out (by kernel_rfl) (by kernel_rfl) (by kernel_rfl) rfl (fun h => h) ⟨(fun h => h), (fun h => h), (fun h => h), (fun h => h), (fun h => h)⟩ (fun _ => Hk.out) (fun _ => Ho.out) ⟨(fun _ => Hr.out), (fun h => by simp at h), (fun h => by simp at h)⟩ Hw.out HBB.out ?_
          intros
          rename_i W gr gw gb g10
          obtain ⟨v2, k2, o2⟩ := g10
          have HR := hidH (St_asconf_turn hjl _ _ HSTP.out k2 o2 gr gw gb)
          clear gr gw gb k2 o2
          go_wp2
          go_roundw
          case rel => exact ⟨j + 1, by omega, by go_num, HR.out⟩
          case measure => simp [intOf]; omega
        · have Hk := hidH (k.below hd.drew)
          have Hr := hidH (hre.below hd.drew)
          have Hw := hidH (hwin.trans (Win.of_below hd.drew))
          by_cases hfirst : (L.drop (2 * j)).length < 1
          · have C1 := hidH (fun (u : World) (hu : RE u r ty pv (L.drop (2 * j))) => number_bad' r (L.drop (2 * j)) u ty pv hu hfirst)
            rw [HUN.out] at C1
            clear k o hre hwin hB hd hfirst
            go_wp2_with fail
            refine wp_region_any (by kernel_rfl) ?_
            refine regRgXOp _ _ _ _ _ _ _ _ _ _ _ _ _ _ _ _ _ _ _ _ _ w1 r w2.heap.size x0 (.slice A m c) _ ty pv C1.out ?pan (by kernel_rfl) (by kernel_rfl) (by kernel_rfl) rfl Hk.out Hr.out Hw.out
            case pan =>
              intro ac W hW hdf
              exact ⟨hdf, rfl, W01.out.trans hW⟩
          · have C1 := hidH (fun (u : World) (hu : RE u r ty pv (L.drop (2 * j))) => number_ok' r (L.drop (2 * j)) u ty pv hu (by omega))
            have C2 := hidH (fun (u : World) (hu : RE u r ty pv ((L.drop (2 * j)).drop 1)) => number_bad' r ((L.drop (2 * j)).drop 1) u ty pv hu (by rw [List.length_drop, List.length_drop]; rw [List.length_drop] at hfirst; omega))
            rw [HUN.out] at C2
            clear k o hre hwin hB hd hfirst
            go_wp2_with fail
            refine wp_region_any (by kernel_rfl) ?_
            refine regRgYOp _ _ _ _ _ _ _ _ _ _ _ _ _ _ _ _ _ _ _ _ _ w1 r w2.heap.size _ x0 (.slice A m c) _ _ ty pv (by have := HS.out; have := HZ.out; omega) C1.out C2.out ?pan (by kernel_rfl) (by kernel_rfl) (by kernel_rfl) rfl Hk.out ⟨(fun _ => Hr.out), (fun h => by simp at h)⟩ Hw.out
            case pan =>
              intro ac W hW hdf
              exact ⟨hdf, rfl, W01.out.trans hW⟩
end Go.Proofs.YtjjileefdjjijaaDoor
