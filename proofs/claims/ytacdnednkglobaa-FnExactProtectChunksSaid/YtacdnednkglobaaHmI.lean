/- The program's HmacSha, by an invariant over its region that draws its order. -/
import Derived.Test.YtacdnednkglobaaDigI
import Derived.Test.YtacdnednkglobaaKeysI
import Derived.Test.YtacdnednkglobaaLawKit
namespace Go.Proofs.Ytacdnednkglobaa
open Go.RowKit Go.Deep

theorem und27 : ∃ fs, Try.prog.underlying 27 = some (.struct fs) := by
  have h : (match Try.prog.underlying 27 with | some (.struct _) => true | _ => false) = true := by kernel_rfl
  split at h
  · next fs e => exact ⟨fs, e⟩
  · cases h
theorem size27 : (Try.prog.info? 27).map (·.size) = some 2 := by kernel_rfl
theorem built27 (A : Option Addr) (n c : Nat) : Try.prog.built 27 [(1, .slice A n c)] = some #[.int .i64 0, .slice A n c] := by kernel_rfl
theorem fat1 (u : World) (b : Nat) : (Instr.fieldAt 80 (.pointer (some ⟨b, 0, none⟩)) 1).run Try.prog u = .ok (.pointer (some ⟨b, 64, none⟩)) u := by kernel_rfl
theorem fat0 (u : World) (b : Nat) : (Instr.fieldAt 80 (.pointer (some ⟨b, 0, none⟩)) 0).run Try.prog u = .ok (.pointer (some ⟨b, 0, none⟩)) u := by kernel_rfl
theorem sizeOK : (Try.prog.info? 78).map (·.size) = some 64 := by kernel_rfl
theorem sizeIK : (Try.prog.info? 77).map (·.size) = some 64 := by kernel_rfl
theorem Ob.row {B : Nat} {w : World} {A : Option Addr} {l : List Int} (h : Ob B w.heap.size w A l) (g : Nat) (hg : g < B) (cs : Array Value) : Ob B (w.setRow g cs).heap.size (w.setRow g cs) A l := by
  have hs : (w.setRow g cs).heap.size = w.heap.size := by simp [World.setRow]
  rw [hs]
  rcases h with h | ⟨b, off, h1, h2, h3, h4, h5⟩
  · exact .inl h
  · have e := setRow_other w g b cs (by omega)
    refine .inr ⟨b, off, h1, h2, h3, by rw [hs]; exact h4, fun j hj => ⟨(World.cell?_of_block (a := ⟨b, off + j, none⟩) e).trans (h5 j hj).1, ?_⟩⟩
    have := (h5 j hj).2
    simp only [World.frozen?] at this ⊢
    rw [e]; exact this
def SVal (w0 : World) (l : List Int) (v : Value) (w : World) : Prop :=
  ∃ A cp, v = .slice A l.length cp ∧ Ob w0.heap.size w.heap.size w A l ∧ Below w0.heap.size w0 w ∧ l.length ≤ cp ∧ (cp : Int) ≤ 9223372036854775807
theorem SRes.val {w0 : World} {l : List Int} {e : Ending} {w : World} (h : SRes w0 l e w) : ∃ v, e = .returned v ∧ SVal w0 l v w := by
  obtain ⟨A, cp, rfl, h1, h2, h3, h4⟩ := h
  exact ⟨_, rfl, A, cp, rfl, h1, h2, h3, h4⟩
theorem ub_range0 {w : World} {g : Nat} {t : TypeId} {x y : List Int} (h : Blk w g t (Ub (x ++ y))) : w.rangeAt g 0 (x.map (Value.int .u8)) := by
  intro j v hv
  rw [Nat.zero_add, h.cell j, Ub, List.map_append]
  simp only [List.getElem?_toArray]
  rw [List.getElem?_append_left]
  · exact hv
  · rcases Nat.lt_or_ge j (x.map (Value.int .u8)).length with h | h
    · exact h
    · rw [List.getElem?_eq_none h] at hv; cases hv
theorem ub_range1 {w : World} {g n : Nat} {t : TypeId} {x y : List Int} (h : Blk w g t (Ub (x ++ y))) (hx : x.length = n) : w.rangeAt g n (y.map (Value.int .u8)) := by
  intro j v hv
  rw [h.cell, Ub, List.map_append]
  simp only [List.getElem?_toArray]
  rw [List.getElem?_append_right (by simp; omega)]
  simp only [List.length_map, hx, Nat.add_sub_cancel_left]
  exact hv
set_option maxRecDepth 100000 in
set_option maxHeartbeats 1000000 in
theorem hmac_yes (A B : Option Addr) (l d : List Int) (c1 c2 : Nat) (w : World) (hA : Bs w A l) (hB : Bs w B d) (hl : Bytes l) (hd : Bytes d) (hm : l.length ≤ 200) (hn : d.length ≤ 600) :
    Calls Try.prog 51 #[.slice A l.length c1, .slice B d.length c2] w (BRes w 0 (hmL l d)) := by
  obtain ⟨x, hx⟩ : ∃ x, blockK l 54 = x := ⟨_, rfl⟩
  obtain ⟨y, hy⟩ : ∃ y, blockK l 92 = y := ⟨_, rfl⟩
  obtain ⟨Y, hY⟩ : ∃ Y, shaL (x ++ d) = Y := ⟨_, rfl⟩
  obtain ⟨X, hX⟩ : ∃ X, hmL l d = X := ⟨_, rfl⟩
  have hX2 : shaL (y ++ Y) = X := by rw [← hX, hmL, hx, hy, hY]
  rw [hX]
  have xl : x.length = 64 := hx ▸ blockK_len l 54
  have yl : y.length = 64 := hy ▸ blockK_len l 92
  have xb : Bytes x := hx ▸ blockK_bytes hl (by omega)
  have yb : Bytes y := hy ▸ blockK_bytes hl (by omega)
  have Yl : Y.length = 32 := hY ▸ shaL_len' _
  have Yb : Bytes Y := hY ▸ shaL_bytes _
  have hinn := fun (u : World) (hu : Bs u B d) => (inner_any x d Y B c2 u xb xl hu hd hn hY).mono fun _ _ => SRes.val
  have hout := fun (u : World) (A' : Option Addr) (c' : Nat) (hu : Bs u A' Y) => (outer_any y Y X A' c' u yb yl hu Yb (by omega) hX2).mono fun _ _ => SRes.val
  have hkeys := keysOf_any A l c1 (w.alloc (.cells #[.int .i64 0, .slice none 0 0] 27)) (bs_below hA (bal (Below.refl _ w) _)) hl hm
  rw [hx, hy] at hkeys
  have hos := Ub_len (x ++ y)
  rw [show (x ++ y).length = 128 by rw [List.length_append, xl, yl]] at hos
  have ho := Ub_one (x ++ y)
  have hr0 := fun (u : World) (g : Nat) (t : TypeId) (h : Blk u g t (Ub (x ++ y))) => ub_range0 h
  have hr1 := fun (u : World) (g : Nat) (t : TypeId) (h : Blk u g t (Ub (x ++ y))) => ub_range1 h xl
  have hx2 := Ub_len x
  have hy2 := Ub_len y
  have hxe : Ub x = (x.map (Value.int .u8)).toArray := rfl
  have hye : Ub y = (y.map (Value.int .u8)).toArray := rfl
  generalize Ub (x ++ y) = os at *
  obtain ⟨z2, hz2⟩ : ∃ z2, Ub (List.replicate 128 0) = z2 := ⟨_, rfl⟩
  have hz := zero50
  rw [hz2] at hz
  have hzo : z2.size = os.size := by rw [← hz2, Ub_len, hos]; simp
  have hso : (Try.prog.info? 80).map (·.size) = some os.size := by rw [hos]; exact size50
  have HZ := hidH hz
  have HF := hidH (And.intro hso (And.intro hzo ho))
  have HXL := hidH xl
  have HYL := hidH yl
  have HI := hidH hinn
  have HO := hidH hout
  have HK := hidH hkeys
  have HR := hidH (And.intro hr0 hr1)
  have HE := hidH (And.intro hxe hye)
  have HB := hidH hB
  have hm1 : (l.length : Int) ≤ 200 := by omega
  have hn1 : (d.length : Int) ≤ 600 := by omega
  clear hx hy hY hX hX2 xb yb Yl Yb hinn hout hkeys hos ho hr0 hr1 hz hzo hso hz2 hA hB hl hd xl yl hx2 hy2 hxe hye
  go_enter Try.func51, Try.ntmps51
  go_wp2_with fail
  refine HK.out.mono ?_
  rintro e w2 ⟨rfl, b2⟩
  have R0 := Blk.new w 27 #[.int .i64 0, .slice none 0 0]
  have R2 := R0.below b2
  have B2 := btr (bal (Below.refl w.heap.size w) (.cells #[.int .i64 0, .slice none 0 0] 27)) b2
  have hlt2 : w.heap.size < w2.heap.size := R2.lt
  have R3 := R2.alloc (.cells z2 80)
  have B3 := bal B2 (.cells z2 80)
  have K4 : Blk ((w2.alloc (.cells z2 80)).setRow w2.heap.size os) w2.heap.size 80 os := setRow_heap _ _ _ _ _ _ (Blk.new w2 80 z2)
  have R4 : Blk ((w2.alloc (.cells z2 80)).setRow w2.heap.size os) w.heap.size 27 #[.int .i64 0, .slice none 0 0] := (setRow_other (w2.alloc (.cells z2 80)) w2.heap.size w.heap.size os (by omega)).trans R3
  have B4 := below_setRow B3 (g := w2.heap.size) (by omega) os
  obtain ⟨w4, hw4⟩ : ∃ w4, (w2.alloc (.cells z2 80)).setRow w2.heap.size os = w4 := ⟨_, rfl⟩
  rw [hw4] at K4 R4 B4
  have HK4 := hidH K4
  have HR4 := hidH R4
  have HB4 := hidH B4
  have HW4 := hidH hw4
  clear R0 R2 B2 R3 B3 K4 R4 B4 hw4 b2 HK
  go_wp2_with (first | (refine wpList_allocRow rfl 80 rfl _ rfl z2 HZ.out ?_) | (refine wpList_store_rowTo rfl _ _ _ rfl rfl w2.heap.size os rfl rfl 80 _ (heap_alloc_last w2 _) HF.out.1 HF.out.2.1 HF.out.2.2 ?_; rw [HW4.out]))
  refine wp_region_any (by kernel_rfl) ?_
  refine region_inv 9 (fun i => [[], [0], [], [2], [], [3, 4], [1, 5], [6], [0, 1, 2, 3, 4, 5, 6, 7]].getD i [])
    (fun dn a W => ∃ t17 t18 t19 t20 t21 t22 t23 t24, a = { tmps := #[.slice A l.length c1, .slice B d.length c2, undef, undef, .pointer (some ⟨w.heap.size, 0, none⟩), .pointer (some ⟨w2.heap.size, 0, none⟩), .slice A l.length c1, .int .i64 l.length, .bool (decide ((200 : Int) < l.length)), .bool (decide ((200 : Int) < l.length)), .slice B d.length c2, .int .i64 d.length, .bool (decide ((600 : Int) < d.length)), .bool (decide ((200 : Int) < l.length) || decide ((600 : Int) < d.length)), undef, .slice A l.length c1, .agg os, t17, t18, t19, t20, t21, t22, t23, t24], defers := [] } ∧
      Blk W w2.heap.size 80 os ∧ Below w.heap.size w W ∧ Bs W B d ∧ (dn 8 = false → Blk W w.heap.size 27 #[.int .i64 0, .slice none 0 0]) ∧
      (dn 8 = true → ∃ A' c', Blk W w.heap.size 27 #[.int .i64 0, .slice A' X.length c'] ∧ Ob (w.heap.size + 1) W.heap.size W A' X ∧ X.length ≤ c' ∧ (c' : Int) ≤ 9223372036854775807) ∧
      (dn 0 = true → t17 = .pointer (some ⟨w2.heap.size, 64, none⟩)) ∧ (dn 1 = true → t18 = .agg (Ub y)) ∧ (dn 2 = true → t19 = .pointer (some ⟨w2.heap.size, 0, none⟩)) ∧ (dn 3 = true → t20 = .agg (Ub x)) ∧ (dn 4 = true → t21 = .slice B d.length c2) ∧
      (dn 5 = true → ∃ A' c', t22 = .slice A' Y.length c' ∧ Ob (w.heap.size + 1) W.heap.size W A' Y) ∧
      (dn 6 = true → ∃ A' c', t23 = .slice A' X.length c' ∧ Ob (w.heap.size + 1) W.heap.size W A' X ∧ X.length ≤ c' ∧ (c' : Int) ≤ 9223372036854775807) ∧
      (dn 7 = true → ∃ A' c', t24 = .agg #[.int .i64 0, .slice A' X.length c'] ∧ Ob (w.heap.size + 1) W.heap.size W A' X ∧ X.length ≤ c' ∧ (c' : Int) ≤ 9223372036854775807))
    rfl (by kernel_rfl) (by kernel_rfl) ?start ?step ?fin
  case start => exact ⟨undef, undef, undef, undef, undef, undef, undef, undef, rfl, HK4.out.below (Below.refl _ _).drew, HB4.out.drew, bs_below HB.out (HB4.out.drew.mono (by exact Nat.le_refl _)), fun _ => HR4.out.below (Below.refl _ _).drew, fun h => by simp at h, fun h => by simp at h, fun h => by simp at h, fun h => by simp at h, fun h => by simp at h, fun h => by simp at h, fun h => by simp at h, fun h => by simp at h, fun h => by simp at h⟩
  case step =>
    intro i hi dn a W hJ hdn hdep
    obtain ⟨t17, t18, t19, t20, t21, t22, t23, t24, rfl, hK, hB, hD, h8, h8', h0, h1, h2, h3, h4, h5, h6, h7⟩ := hJ
    match i, hi with
    | 0, _ =>
      refine wpOp_plain (by rfl) rfl ?_
      refine wp_fieldAddr 80 _ 1 rfl _ rfl (.pointer (some ⟨w2.heap.size, 64, none⟩)) _ rfl (fat1 W w2.heap.size) ?_
      exact ⟨_, t18, t19, t20, t21, t22, t23, t24, rfl, hK, hB, hD, h8, h8', fun _ => rfl, h1, h2, h3, h4, h5, h6, h7⟩
    | 1, _ =>
      refine wpOp_plain (by rfl) rfl ?_
      obtain rfl := h0 (hdep 0 (by simp))
      refine wp_load_mid 78 _ rfl w2.heap.size 64 rfl (y.map (Value.int .u8)) (.array 64 5) (HR.out.2 _ _ _ hK) (by kernel_rfl) rfl (by rw [List.length_map, HYL.out]; exact sizeOK) ?_
      exact ⟨_, _, t19, t20, t21, t22, t23, t24, rfl, hK, hB, hD, h8, h8', h0, fun _ => rfl, h2, h3, h4, h5, h6, h7⟩
    | 2, _ =>
      refine wpOp_plain (by rfl) rfl ?_
      refine wp_fieldAddr 80 _ 0 rfl _ rfl (.pointer (some ⟨w2.heap.size, 0, none⟩)) _ rfl (fat0 W w2.heap.size) ?_
      exact ⟨t17, t18, _, t20, t21, t22, t23, t24, rfl, hK, hB, hD, h8, h8', h0, h1, fun _ => rfl, h3, h4, h5, h6, h7⟩
    | 3, _ =>
      refine wpOp_plain (by rfl) rfl ?_
      obtain rfl := h2 (hdep 2 (by simp))
      refine wp_load_mid 77 _ rfl w2.heap.size 0 rfl (x.map (Value.int .u8)) (.array 64 5) (HR.out.1 _ _ _ hK) (by kernel_rfl) rfl (by rw [List.length_map, HXL.out]; exact sizeIK) ?_
      exact ⟨t17, t18, _, _, t21, t22, t23, t24, rfl, hK, hB, hD, h8, h8', h0, h1, h2, fun _ => rfl, h4, h5, h6, h7⟩
    | 4, _ =>
      refine wpOp_plain (by rfl) rfl ?_
      refine wp_moveOp _ rfl _ rfl (.slice B d.length c2) rfl ?_
      exact ⟨t17, t18, t19, t20, _, t22, t23, t24, rfl, hK, hB, hD, h8, h8', h0, h1, h2, h3, fun _ => rfl, h5, h6, h7⟩
    | 5, _ =>
      refine wpOp_plain (by rfl) rfl ?_
      obtain rfl := h3 (hdep 3 (by simp))
      obtain rfl := h4 (hdep 4 (by simp))
      refine wp_callAny 60 _ Try.func60 (by kernel_rfl) (by kernel_rfl) #[.agg (Ub x), .slice B d.length c2] _ _ rfl (by simp [Act.eval]) _ rfl _ (HI.out W hD) ?_
      rintro v w' ⟨A', c', rfl, o, hb, _, _⟩
      exact ⟨t17, t18, t19, _, _, _, t23, t24, rfl, hK.below hb, btr hB hb, bs_below hD hb, fun h => (h8 h).below hb, fun h => by obtain ⟨A', c', p, q, r, s⟩ := h8' h; exact ⟨A', c', p.below hb, (Ob.below q hb).upto hb.size (Nat.le_refl _), r, s⟩,
        h0, h1, h2, h3, h4, fun _ => ⟨A', c', rfl, o.mono (by have := hK.lt; omega)⟩, fun h => by obtain ⟨A', c', p, q, r, s⟩ := h6 h; exact ⟨A', c', p, (Ob.below q hb).upto hb.size (Nat.le_refl _), r, s⟩, fun h => by obtain ⟨A', c', p, q, r, s⟩ := h7 h; exact ⟨A', c', p, (Ob.below q hb).upto hb.size (Nat.le_refl _), r, s⟩⟩
    | 6, _ =>
      refine wpOp_plain (by rfl) rfl ?_
      obtain rfl := h1 (hdep 1 (by simp))
      obtain ⟨A5, c5, rfl, s5⟩ := h5 (hdep 5 (by simp))
      refine wp_callAny 59 _ Try.func59 (by kernel_rfl) (by kernel_rfl) #[.agg (Ub y), .slice A5 Y.length c5] _ _ rfl (by simp [Act.eval]) _ rfl _ (HO.out W A5 c5 s5.bs) ?_
      rintro v w' ⟨A', c', rfl, o, hb, k1, k2⟩
      have hsz := hB.size
      exact ⟨t17, _, t19, t20, t21, _, _, t24, rfl, hK.below hb, btr hB hb, bs_below hD hb, fun h => (h8 h).below hb, fun h => by obtain ⟨A', c', p, q, r, s⟩ := h8' h; exact ⟨A', c', p.below hb, (Ob.below q hb).upto hb.size (Nat.le_refl _), r, s⟩,
        h0, h1, h2, h3, h4, fun _ => ⟨A5, c5, rfl, (Ob.below s5 hb).upto hb.size (Nat.le_refl _)⟩, fun _ => ⟨A', c', rfl, o.mono (by have := hK.lt; omega), k1, k2⟩, fun h => by obtain ⟨A', c', p, q, r, s⟩ := h7 h; exact ⟨A', c', p, (Ob.below q hb).upto hb.size (Nat.le_refl _), r, s⟩⟩
    | 7, _ =>
      refine wpOp_plain (by rfl) rfl ?_
      obtain ⟨A6, c6, rfl, o6, k1, k2⟩ := h6 (hdep 6 (by simp))
      refine wp_buildTo 27 _ rfl _ rfl #[.int .i64 0, .slice A6 X.length c6] ((congrArg (Try.prog.built 27) (by simp [Act.eval])).trans (built27 A6 X.length c6)) ?_
      exact ⟨t17, t18, t19, t20, t21, t22, _, _, rfl, hK, hB, hD, h8, h8', h0, h1, h2, h3, h4, h5, h6, fun _ => ⟨A6, c6, rfl, o6, k1, k2⟩⟩
    | 8, _ =>
      refine wpOp_plain (by rfl) rfl ?_
      obtain ⟨A6, c6, rfl, o6, k1, k2⟩ := h7 (hdep 7 (by simp))
      refine wp_store_row 27 _ _ rfl w.heap.size #[.int .i64 0, .slice A6 X.length c6] rfl rfl 27 _ (h8 hdn) size27 rfl (by simp [Value.oneCell']) ?_
      have hBn := below_setRow hB (Nat.le_refl _) #[.int .i64 0, .slice A6 X.length c6]
      refine ⟨t17, t18, t19, t20, t21, t22, t23, _, rfl, (setRow_other W _ _ _ (by omega)).trans hK, hBn, bs_below HB.out hBn, fun h => by simp at h, fun _ => ⟨A6, c6, setRow_heap _ _ _ _ _ _ (h8 hdn), Ob.row o6 _ (Nat.lt_succ_self _) _, k1, k2⟩,
        h0, h1, h2, h3, h4, fun h => by obtain ⟨A', c', p, q⟩ := h5 h; exact ⟨A', c', p, Ob.row q _ (Nat.lt_succ_self _) _⟩, fun h => by obtain ⟨A', c', p, q, r, s⟩ := h6 h; exact ⟨A', c', p, Ob.row q _ (Nat.lt_succ_self _) _, r, s⟩, fun _ => ⟨A6, c6, rfl, Ob.row o6 _ (Nat.lt_succ_self _) _, k1, k2⟩⟩
    | n + 9, h => omega
  case fin =>
    rintro dn a W ⟨t17, t18, t19, t20, t21, t22, t23, t24, rfl, hK, hB, hD, h8, h8', h0, h1, h2, h3, h4, h5, h6, h7⟩ hall
    obtain ⟨A6, c6, hR, o6, k1, k2⟩ := h8' (hall 8 (by omega))
    obtain ⟨fs, hfs⟩ := und27
    go_wp2
    exact bodyPost_ret (v := .agg #[.int .i64 0, .slice A6 X.length c6]) (results_cell_row rfl _ _ w.heap.size 27 _ (0, 0) (.struct fs) rfl hR hfs rfl size27) rfl ⟨A6, c6, rfl, o6.mono (Nat.le_succ _), hB, k1, k2⟩
set_option maxHeartbeats 400000 in
theorem hmac_impl (A B : Option Addr) (l d : List Int) (c1 c2 : Nat) (w : World) (hA : Bs w A l) (hB : Bs w B d) (hl : Bytes l) (hd : Bytes d) (hm : (l.length : Int) ≤ 9223372036854775807) (hn : (d.length : Int) ≤ 9223372036854775807) :
    Calls Try.prog 51 #[.slice A l.length c1, .slice B d.length c2] w (BRes w (hmC l d) (hmM l d)) := by
  by_cases h : l.length ≤ 200 ∧ d.length ≤ 600
  · rw [hmC, hmM, if_pos h, if_pos h]
    exact hmac_yes A B l d c1 c2 w hA hB hl hd h.1 h.2
  · rw [hmC, hmM, if_neg h, if_neg h]
    have h1 : (200 : Int) < (l.length : Int) ∨ (600 : Int) < (d.length : Int) := by omega
    clear h hA hB hl hd
    by_cases h2 : (200 : Int) < (l.length : Int)
    · clear h1
      go_enter Try.func51, Try.ntmps51
      go_wp2
      exact bodyPost_ret (v := .agg #[.int .i64 2, .slice none 0 0]) (by simp [results, Try.results51, go_sem]) rfl ⟨_, _, rfl, .inl rfl, bal (Below.refl _ _) _, Nat.le_refl _, by omega⟩
    · have h3 : (600 : Int) < (d.length : Int) := by omega
      clear h1
      go_enter Try.func51, Try.ntmps51
      go_wp2
      exact bodyPost_ret (v := .agg #[.int .i64 2, .slice none 0 0]) (by simp [results, Try.results51, go_sem]) rfl ⟨_, _, rfl, .inl rfl, bal (Below.refl _ _) _, Nat.le_refl _, by omega⟩
end Go.Proofs.Ytacdnednkglobaa
