import Derived.Test.YtncnibkojneejaaGreatDoorChR
import Derived.Test.YtncnibkojneejaaGreatDoorJa0
import Derived.Test.YtncnibkojneejaaGreatDoorJa6
import Derived.Deep.LoopGhost
import Derived.Test.YtncnibkojneejaaGreatDoorJa4
import Derived.Test.YtncnibkojneejaaGreatDoorJa8

/- The model's bytes of a chunk: l4Chunk, PackChunk. -/
namespace Go.Proofs.YtncnibkojneejaaGreatDoor
open Go.RowKit Go.Deep

/-- The head and the body, j noughts behind. -/
def chTo (H : List Int) (j : Nat) : List Int := H ++ List.replicate j 0
theorem chTo_len (H : List Int) (j : Nat) : (chTo H j).length = H.length + j := by simp [chTo]
theorem chTo_succ (H : List Int) (j : Nat) : chTo H (j + 1) = chTo H j ++ [0] := by simp [chTo, List.replicate_succ']
theorem ch_test (n j : Nat) (hj : j ≤ chPad n) : (4 + n + j) % 4 = 0 ↔ j = chPad n := by unfold chPad at *; omega
set_option maxRecDepth 100000 in
set_option maxHeartbeats 2000000 in
theorem l4Chunk_any (g o : Nat) (k f : Int) (A : Option Addr) (b : List Int) (c : Nat) (w : World) (hC : CkB w g o k f A b c) (hk0 : 0 ≤ k) (hk1 : k ≤ 255) (hf0 : 0 ≤ f) (hf1 : f ≤ 255) (hb : b.length ≤ 1000) :
    Calls Tryz.prog 63 #[.pointer (some ⟨g, o, none⟩)] w (OwnB w (chL k f b)) := by
  obtain ⟨H, hH⟩ : ∃ H, [k, f, ((b.length : Int) + 4) / 256, ((b.length : Int) + 4) % 256] ++ b = H := ⟨_, rfl⟩
  have hHl : H.length = 4 + b.length := by rw [← hH]; simp; omega
  have hL : chL k f b = chTo H (chPad b.length) := by rw [chL, hH, chTo]
  rw [hL]
  have hz4 : chPad b.length < 4 := by unfold chPad; omega
  have HTEST := hidH (ch_test b.length)
  obtain ⟨z, hz⟩ : ∃ z, chPad b.length = z := ⟨_, rfl⟩
  rw [hz] at hz4 HTEST ⊢
  have HC := hidH hC
  have HH := hidH hH
  have HHL := hidH hHl
  have HB := hidH hb
  have hbI : (b.length : Int) ≤ 1000 := by omega
  have HFIN := hidH (And.intro hk0 (And.intro hk1 (And.intro hf0 hf1)))
  clear hC hH hHl hL hz hb hk0 hk1 hf0 hf1
  go_enter Tryz.func63, Tryz.ntmps63
  go_wp2_with fail
  refine wp_region_any (by kernel_rfl) ?_
  refine regCh _ _ g o k f A b c HFIN.out.1 HFIN.out.2.1 HFIN.out.2.2.1 HFIN.out.2.2.2 hbI (by kernel_rfl) (by kernel_rfl) (by kernel_rfl) rfl (fun h => h) (HC.out.below (Below.refl w.heap.size w).drew) (Below.refl _ _) ?_
  intros
  rename_i t3 W hO hown
  have hB : Below w.heap.size w W := btr (Below.refl w.heap.size w).drew hO
  have OW := hidH (show W.ownsRow w.heap.size 5 1 t3 4 _ from hown)
  have HBW := hidH hB
  have CW := HC.out.below hB
  have q2 := CW.c2
  have hlt := CW.lt
  have SB := hidH CW.body
  have hsz := hB.size
  clear CW hown hO hB
  go_wp2_with (at_builtin; refine wpList_append_bs rfl _ _ rfl w.heap.size _ _ _ rfl OW.out A b c rfl SB.out (by have := HB.out; omega) hsz ?_)
  intro v2 w2 o2 g2
  have B2 := hidH (HBW.out.grown g2 hsz (fun x hx => (OW.out.lt x hx).1))
  have O2 := hidH (show w2.ownsRow w.heap.size 5 1 v2 (chTo H 0).length ((chTo H 0).map (Value.int .u8)) by
    rw [chTo_len, HHL.out]
    have := o2
    simpa [chTo, ← HH.out] using this)
  clear o2 g2 q2 SB OW
  go_wp2_with fail
  go_loopg [3] z (fun q v wr => ∃ j : Nat, j ≤ z ∧ q = z - j ∧ wr.ownsRow w.heap.size 5 1 v (chTo H j).length ((chTo H j).map (Value.int .u8)) ∧ Below w.heap.size w wr)
  case atStart => exact ⟨0, by omega, by omega, O2.out, B2.out⟩
  case round =>
    obtain ⟨j, hj, rfl, hown, hB⟩ := hrel
    have hsz := hB.size
    have HL := hidH (show (chTo H j).length = 4 + b.length + j by rw [chTo_len, HHL.out])
    have hpl : ((chTo H j).length : Int) ≤ 60000 := by rw [HL.out]; have := HB.out; omega
    by_cases hlt : j < z
    · have ht : (((chTo H j).length : Int) % 4 != 0) = true := by
        rw [HL.out]
        have := HTEST.out j hj
        rw [bne_iff_ne]; omega
      obtain ⟨A1, c1, rfl, ob, _, _⟩ := own_ob hown
      have P1 := lit_bs wr 5 [0]
      have PH := hidH P1
      have OH := hidH hown
      clear P1 ob
      go_wp2_with (at_builtin; refine wpList_append_bs rfl _ _ rfl w.heap.size _ _ _ rfl (OH.out.alloc _) (some ⟨wr.heap.size, 0, none⟩) [0] 1 rfl PH.out (by have := HL.out; have := HB.out; simp; omega) (by simp; omega) ?_)
      intro v3 w3 o3 g3
      have B3 := hidH (own_grow (m := 0) hB hown g3)
      have O3 := hidH o3
      clear o3 g3 hown hB
      go_wp2
      go_roundg (z - (j + 1))
      case rel => exact ⟨j + 1, by omega, rfl, by rw [chTo_succ]; simpa using O3.out, B3.out⟩
      case measure => omega
    · obtain rfl : j = z := by omega
      have ht : (((chTo H j).length : Int) % 4 != 0) = false := by
        rw [HL.out]
        have := (HTEST.out j hj).2 rfl
        rw [bne_eq_false_iff_eq]; omega
      obtain ⟨A1, c1, rfl, ob, _, _⟩ := own_ob hown
      have OH := hidH hown
      have HBB := hidH hB
      clear ob hlt hj hown hB
      go_wp2
      go_ret
      exact ⟨_, rfl, OH.out, HBB.out⟩
def chM (k f : Int) (b : List Int) : List Int := if chF k f b = 0 then chL k f b else []
theorem chF_zero {k f : Int} {b : List Int} (h : chF k f b = 0) : (0 ≤ k ∧ k ≤ 255) ∧ (0 ≤ f ∧ f ≤ 255) ∧ b.length ≤ 160 := by
  unfold chF inB at h
  split at h
  · next h1 =>
    simp at h1
    split at h
    · exact ⟨h1.1, h1.2, by assumption⟩
    · cases h
  · cases h
theorem bres_at {w W : World} {R : Nat} {A : Option Addr} {l : List Int} {cp : Nat} (x : Int) (hO : Ob (R + 1) W.heap.size W A l) (hR : w.heap.size ≤ R) (hb : Below w.heap.size w W) (h1 : l.length ≤ cp) (h2 : (cp : Int) ≤ 9223372036854775807) (u0 u1 : Value) :
    BRes w x l (.returned (.agg #[.int .i64 x, .slice A l.length cp])) ((W.setCell ⟨R, 0, none⟩ u0).setCell ⟨R, 1, none⟩ u1) := by
  have e : ((W.setCell ⟨R, 0, none⟩ u0).setCell ⟨R, 1, none⟩ u1).heap.size = W.heap.size := by simp [World.setCell]
  refine ⟨A, cp, rfl, ?_, bst (bst hb hR _) hR _, h1, h2⟩
  rw [e]
  exact ((hO.setCell (p := ⟨R, 0, none⟩) (Nat.lt_succ_self _) _).setCell (p := ⟨R, 1, none⟩) (Nat.lt_succ_self _) _).mono (by omega)
end Go.Proofs.YtncnibkojneejaaGreatDoor

/- Bytes at the head of a block of bytes of their own. -/
namespace Go.Proofs.YtncnibkojneejaaGreatDoor
open Go.RowKit Go.Deep

/-- A row of bytes of the call's own, opened. -/
theorem own_row {w : World} {B : Nat} {v : Value} {l : List Int} (h : w.ownsRow B 5 1 v l.length (l.map (Value.int .u8))) (hp : 0 < l.length) :
    ∃ g cap cur, v = .slice (some ⟨g, 0, none⟩) l.length cap ∧ B ≤ g ∧ g < w.heap.size ∧ Blk w g 5 cur ∧ l.length ≤ cap ∧ (cap : Int) ≤ 9223372036854775807 ∧ cur.size = cap ∧ cur.toList.take l.length = l.map (Value.int .u8) := by
  have hl := h.lt
  obtain ⟨_, ⟨rfl, hn⟩ | ⟨g, cap, cur, rfl, hg, hblk, hnc, hm, hs, ht⟩⟩ := h
  · omega
  · unfold maxLen at hm
    exact ⟨g, cap, cur, rfl, hg, (hl g rfl).2, hblk, hnc, by omega, by omega, by simpa using ht⟩
theorem row_cell {w : World} {g : Nat} {cur : Array Value} {l : List Int} (h : Blk w g 5 cur) (ht : cur.toList.take l.length = l.map (Value.int .u8)) (j : Nat) (hj : j < l.length) : w.cell? ⟨g, j, none⟩ = some (.int .u8 (l.getD j 0)) := by
  have e : cur[j]? = (cur.toList.take l.length)[j]? := by rw [List.getElem?_take_of_lt hj]; simp
  rw [h.cell, e, ht]
  simp [hj]
/-- Bytes at the head of a block of bytes. -/
def Tb (w : World) (b : Nat) (A : Option Addr) (l : List Int) : Prop :=
  l = [] ∨ (A = some ⟨b, 0, none⟩ ∧ ∃ cur, Blk w b 5 cur ∧ cur.toList.take l.length = l.map (Value.int .u8))
theorem Tb.below {w w' : World} {b : Nat} {A : Option Addr} {l : List Int} (h : Tb w b A l) (hb : Below w.heap.size w w') : Tb w' b A l := by
  rcases h with h | ⟨h1, cur, h2, h3⟩
  · exact .inl h
  · exact .inr ⟨h1, cur, h2.below hb, h3⟩
theorem Tb.ob {w : World} {b : Nat} {A : Option Addr} {l : List Int} (h : Tb w b A l) : Ob b (b + 1) w A l := by
  rcases h with h | ⟨h1, cur, h2, h3⟩
  · exact .inl h
  · exact .inr ⟨b, 0, h1, Nat.le_refl _, Nat.lt_succ_self _, h2.lt, fun j hj => by rw [Nat.zero_add]; exact ⟨row_cell h2 h3 j hj, h2.frozen j⟩⟩
theorem tb_own {w : World} {B : Nat} {v : Value} {l : List Int} (h : w.ownsRow B 5 1 v l.length (l.map (Value.int .u8))) (d : Nat) (h1 : B ≤ d) (h2 : d < w.heap.size) :
    ∃ A c b, v = .slice A l.length c ∧ B ≤ b ∧ b < w.heap.size ∧ Tb w b A l ∧ l.length ≤ c ∧ (c : Int) ≤ 9223372036854775807 := by
  rcases Nat.eq_zero_or_pos l.length with h0 | h0
  · obtain ⟨A, cp, rfl, _, h3, h4⟩ := own_ob h
    exact ⟨A, cp, d, rfl, h1, h2, .inl (List.eq_nil_of_length_eq_zero h0), h3, h4⟩
  · obtain ⟨g, cap, cur, rfl, hg, hgl, hk, hc, hcm, _, ht⟩ := own_row h h0
    exact ⟨_, cap, g, rfl, hg, hgl, .inr ⟨rfl, cur, hk, ht⟩, hc, hcm⟩
theorem Tb.win {B C : Nat} {w w' : World} {b : Nat} {A : Option Addr} {l : List Int} (h : Tb w b A l) (hw : Win B C w w') (ho : l = [] ∨ b < B ∨ C ≤ b) : Tb w' b A l := by
  rcases h with h | ⟨h1, cur, h2, h3⟩
  · exact .inl h
  · rcases ho with ho | ho
    · exact .inl ho
    · exact .inr ⟨h1, cur, hw.blk h2 ho, h3⟩
theorem own_tb {w0 w : World} {v : Value} {l : List Int} (h : w.ownsRow w0.heap.size 5 1 v l.length (l.map (Value.int .u8))) : ∃ A c b, v = .slice A l.length c ∧ Tb w b A l ∧ (l = [] ∨ w0.heap.size ≤ b ∧ b < w.heap.size) := by
  rcases Nat.eq_zero_or_pos l.length with h0 | h0
  · obtain ⟨A, cp, rfl, _⟩ := own_ob h
    have e := List.eq_nil_of_length_eq_zero h0
    exact ⟨A, cp, 0, rfl, .inl e, .inl e⟩
  · obtain ⟨g, cap, cur, rfl, hg, hgl, hk, _, _, _, ht⟩ := own_row h h0
    exact ⟨_, cap, g, rfl, .inr ⟨rfl, cur, hk, ht⟩, .inr ⟨hg, hgl⟩⟩
theorem tb_pick {w : World} {b B q : Nat} {A : Option Addr} {l : List Int} (h : Tb w b A l) (h1 : B ≤ q) (h2 : q < w.heap.size) (h3 : l = [] ∨ B ≤ b ∧ b < w.heap.size) : ∃ b', Tb w b' A l ∧ B ≤ b' ∧ b' < w.heap.size := by
  rcases h3 with e | ⟨r1, r2⟩
  · exact ⟨q, .inl e, h1, h2⟩
  · exact ⟨b, h, r1, r2⟩
/-- Bytes of the call's own: in a window, and at the head of a block of bytes. -/
def Xb (B C : Nat) (w : World) (A : Option Addr) (l : List Int) : Prop := Ob B C w A l ∧ ∃ b, Tb w b A l ∧ (l = [] ∨ B ≤ b ∧ b < C)
theorem Xb.bs {B C : Nat} {w : World} {A : Option Addr} {l : List Int} (h : Xb B C w A l) : Bs w A l := h.1.bs
theorem Xb.below {B C : Nat} {w w' : World} {A : Option Addr} {l : List Int} (h : Xb B C w A l) (hb : Below w.heap.size w w') : Xb B C w' A l := by
  obtain ⟨h1, b, h2, h3⟩ := h
  exact ⟨h1.below hb, b, h2.below hb, h3⟩
theorem Xb.win {B C B' C' : Nat} {w w' : World} {A : Option Addr} {l : List Int} (h : Xb B C w A l) (hw : Win B' C' w w') (ho : C ≤ B' ∨ C' ≤ B) : Xb B C w' A l := by
  obtain ⟨h1, b, h2, h3⟩ := h
  exact ⟨h1.win hw ho, b, h2.win hw (h3.imp id (fun q => by omega)), h3⟩
theorem Xb.mono {B C B' : Nat} {w : World} {A : Option Addr} {l : List Int} (h : Xb B C w A l) (hB : B' ≤ B) : Xb B' C w A l := by
  obtain ⟨h1, b, h2, h3⟩ := h
  exact ⟨h1.mono hB, b, h2, h3.imp id (fun q => ⟨by omega, q.2⟩)⟩
theorem Xb.upto {B C C' : Nat} {w : World} {A : Option Addr} {l : List Int} (h : Xb B C w A l) (h1 : C ≤ C') (h2 : C' ≤ w.heap.size) : Xb B C' w A l := by
  obtain ⟨q1, b, q2, q3⟩ := h
  refine ⟨?_, b, q2, q3.imp id (fun q => ⟨q.1, by omega⟩)⟩
  rcases q1 with h | ⟨b, off, e1, e2, e3, e4, e5⟩
  · exact .inl h
  · exact .inr ⟨b, off, e1, e2, by omega, h2, e5⟩
theorem Xb.put {B C : Nat} {w : World} {A : Option Addr} {l : List Int} (h : Xb B C w A l) {p : Addr} (hs : p.spot = none) (hp : p.block < B ∨ C ≤ p.block) (u : Value) : Xb B C (w.setCell p u) A l := by
  obtain ⟨b, off, sp⟩ := p
  subst hs
  exact h.win (win_set w b off u) (by simp at hp; omega)
theorem Xb.setCell {B C : Nat} {w : World} {A : Option Addr} {l : List Int} (h : Xb B C w A l) {p : Addr} (hp : p.block < B) (u : Value) (hs : p.spot = none := by rfl) : Xb B C (w.setCell p u) A l := h.put hs (.inl hp) u
theorem Xb.setFar' {B C : Nat} {w : World} {A : Option Addr} {l : List Int} (h : Xb B C w A l) {p : Addr} (hp : C ≤ p.block) (u : Value) (hs : p.spot = none := by rfl) : Xb B C (w.setCell p u) A l := h.put hs (.inr hp) u
theorem own_xb {w : World} {B : Nat} {v : Value} {d : List Int} (h : w.ownsRow B 5 1 v d.length (d.map (Value.int .u8))) :
    ∃ A cp, v = .slice A d.length cp ∧ Xb B w.heap.size w A d ∧ d.length ≤ cp ∧ (cp : Int) ≤ 9223372036854775807 := by
  rcases Nat.eq_zero_or_pos d.length with h0 | h0
  · obtain ⟨A, cp, e, h1, h2, h3⟩ := own_ob h
    have e0 := List.eq_nil_of_length_eq_zero h0
    exact ⟨A, cp, e, ⟨h1, 0, .inl e0, .inl e0⟩, h2, h3⟩
  · obtain ⟨g, cap, cur, rfl, hg, hgl, hk, hc, hcm, _, ht⟩ := own_row h h0
    have hT : Tb w g (some ⟨g, 0, none⟩) d := .inr ⟨rfl, cur, hk, ht⟩
    exact ⟨_, cap, rfl, ⟨.inr ⟨g, 0, rfl, hg, hgl, Nat.le_refl _, fun j hj => by rw [Nat.zero_add]; exact ⟨row_cell hk ht j hj, hk.frozen j⟩⟩, g, hT, .inr ⟨hg, hgl⟩⟩, hc, hcm⟩
end Go.Proofs.YtncnibkojneejaaGreatDoor

/- The drawn chunks: l4Draw, l4Bent, DrawPackChunk, DrawChunkFault, DrawActionOf. -/
namespace Go.Proofs.YtncnibkojneejaaGreatDoor
open Go.RowKit Go.Deep

theorem Src.far {w : World} {g : Nat} {A : Option Addr} {l : List Int} {c at_ : Nat} (h : Src w g A l c at_) {p : Addr} (hp : g < p.block) (u : Value) : Src (w.setCell p u) g A l c at_ := by
  refine ⟨(heap_setCell_other w p g u (by omega)).trans h.blk, h.bytes, ?_, h.len⟩
  rcases h.row with h1 | ⟨b, off, h1, h2, h3⟩
  · exact .inl h1
  · exact .inr ⟨b, off, h1, h2, fun j hj => (World.cell?_setCell_other _ _ _ _ (fun e => by subst e; simp at hp; omega)).trans (h3 j hj)⟩
theorem Win.put {g : Nat} {w W : World} (h : Win g (g + 1) w W) {p : Addr} (hp : w.heap.size ≤ p.block) (u : Value) : Win g (g + 1) w (W.setCell p u) :=
  ⟨h.os, h.tape, h.output, by simpa [World.setCell] using h.size, fun k hk ho => (heap_setCell_other W p k u (by omega)).trans (h.block k hk ho), fun q hq => (World.frozen?_setCell _ _ _ _).trans (h.frozen q hq)⟩
/-- Some chunk comes back: its body in memory, at most k draws. -/
def CkRes (k : Nat) (w : World) (g : Nat) (A : Option Addr) (l : List Int) (c at_ : Nat) (e : Ending) (w' : World) : Prop :=
  ∃ (kk ff : Int) (b : List Int) (X : Option Addr) (cx at' : Nat), e = .returned (ckV kk ff X b.length cx) ∧ Bytes b ∧ b.length ≤ 200 ∧ Xb w.heap.size w'.heap.size w' X b ∧ b.length ≤ cx ∧ (cx : Int) ≤ 9223372036854775807 ∧ Src w' g A l c at' ∧ at' ≤ at_ + k ∧ Win g (g + 1) w w'
/-- The same, where kind, flags and length are in their ranges. -/
def CkOk (k : Nat) (w : World) (g : Nat) (A : Option Addr) (l : List Int) (c at_ : Nat) (e : Ending) (w' : World) : Prop :=
  ∃ (kk ff : Int) (b : List Int) (X : Option Addr) (cx at' : Nat), e = .returned (ckV kk ff X b.length cx) ∧ ((0 ≤ kk ∧ kk ≤ 255) ∧ (0 ≤ ff ∧ ff ≤ 255) ∧ b.length ≤ 160) ∧ Bytes b ∧ Xb w.heap.size w'.heap.size w' X b ∧ b.length ≤ cx ∧ (cx : Int) ≤ 9223372036854775807 ∧ Src w' g A l c at' ∧ at' ≤ at_ + k ∧ Win g (g + 1) w w'
theorem CkOk.res {k : Nat} {w : World} {g : Nat} {A : Option Addr} {l : List Int} {c at_ : Nat} {e : Ending} {w' : World} (h : CkOk k w g A l c at_ e w') : CkRes k w g A l c at_ e w' := by
  obtain ⟨kk, ff, b, X, cx, at', h1, h2, h3, h4⟩ := h
  exact ⟨kk, ff, b, X, cx, at', h1, h3, by omega, h4⟩
set_option maxHeartbeats 2000000 in
theorem l4Draw_ok (g : Nat) (A : Option Addr) (l : List Int) (c at_ : Nat) (w : World) (h : Src w g A l c at_) (ha : (at_ : Int) ≤ 600000000) :
    Calls Tryz.prog 29 #[.pointer (some ⟨g, 0, none⟩)] w (CkOk 50 w g A l c at_) := by
  have hg := h.lt
  have S0 := h.below (bal (Below.refl w.heap.size w) (.cells #[.int .i64 0, .int .i64 0, .slice none 0 0] 37))
  have R0 := Blk.new w 37 #[.int .i64 0, .int .i64 0, .slice none 0 0]
  have W0 : Win g (g + 1) w (w.alloc (.cells #[.int .i64 0, .int .i64 0, .slice none 0 0] 37)) := Win.of_below (bal (Below.refl _ _) _)
  obtain ⟨w0, hw0⟩ : ∃ w0, w.alloc (.cells #[.int .i64 0, .int .i64 0, .slice none 0 0] 37) = w0 := ⟨_, rfl⟩
  rw [hw0] at S0 R0 W0
  have HW := hidH hw0
  clear hw0 h
  go_enter Tryz.func29, Tryz.ntmps29
  have hs0 : w0.heap.size = w.heap.size + 1 := by have := HW.out; rw [← this]; simp
  go_wp2_with fail
  rw [HW.out, ← hs0]
  refine (pick_any g A l c at_ w0.heap.size [0, 1, 2, 3, 4, 5, 6, 10, 11, 15, 128, 193, 77, 200] _ (S0.below (bal (Below.refl _ _) _)) (by omega)
    (Ns.of_blk (t := 2) (Blk.new w0 _ _)) (by simp) (by simp) (by omega)).mono ?_
  rintro e w1 ⟨y1, a1, rfl, hy1, ha1, S1, V1⟩
  have hk1 : 0 ≤ y1 ∧ y1 ≤ 255 := by
    simp at hy1
    omega
  have W1 := W0.trans ((Win.of_below (bal (Below.refl _ _) _)).trans V1)
  have R1 := V1.blk (R0.alloc _) (.inr (by omega))
  clear S0 V1 W0 R0 hy1 HW
  have g1 := S1.lt
  go_wp2_with fail
  refine (pick_any g A l c a1 w1.heap.size [0, 0, 3, 7, 255] _ (S1.below (bal (Below.refl _ _) _)) (by omega)
    (Ns.of_blk (t := 2) (Blk.new w1 _ _)) (by simp) (by simp) (by omega)).mono ?_
  rintro e w2 ⟨y2, a2, rfl, hy2, ha2, S2, V2⟩
  have hk2 : 0 ≤ y2 ∧ y2 ≤ 255 := by
    simp at hy2
    omega
  have HKF := hidH (And.intro hk1 hk2)
  clear hk1 hk2
  have W2 := W1.trans ((Win.of_below (bal (Below.refl _ _) _)).trans V2)
  have R2 := V2.blk (R1.alloc _) (.inr (by omega))
  clear S1 V2 W1 R1 hy2
  have g2 := S2.lt
  go_wp2_with fail
  refine (pick_any g A l c a2 w2.heap.size [0, 1, 2, 4, 9, 40] _ (S2.below (bal (Below.refl _ _) _)) (by omega)
    (Ns.of_blk (t := 2) (Blk.new w2 _ _)) (by simp) (by simp) (by omega)).mono ?_
  rintro e w3 ⟨y3, a3, rfl, hy3, ha3, S3, V3⟩
  obtain ⟨N, rfl, hN⟩ : ∃ N : Nat, y3 = N ∧ N ≤ 40 := by
    simp at hy3
    rcases hy3 with rfl | rfl | rfl | rfl | rfl | rfl
    · exact ⟨0, rfl, by omega⟩
    · exact ⟨1, rfl, by omega⟩
    · exact ⟨2, rfl, by omega⟩
    · exact ⟨4, rfl, by omega⟩
    · exact ⟨9, rfl, by omega⟩
    · exact ⟨40, rfl, by omega⟩
  have W3 := W2.trans ((Win.of_below (bal (Below.refl _ _) _)).trans V3)
  have R3 := V3.blk (R2.alloc _) (.inr (by omega))
  clear S2 V3 W2 R2 hy3
  have g3 := S3.lt
  go_wp2_with fail
  refine (some_any N _ _ _ _ _ _ S3 (by omega) (by omega)).mono ?_
  rintro e w4 ⟨v4, d4, a4, rfl, hd4, hl4, O4, S4, ha4, V4⟩
  obtain ⟨A4, c4, rfl, o4, hc4, hm4⟩ := own_xb O4
  have W4 := W3.trans V4
  have R4 := V4.blk R3 (.inr (by omega))
  have hr3 := R3.lt
  have x0 := R4.cell 0
  have x1 := R4.cell 1
  have x2 := R4.cell 2
  have f0 := R4.frozen 0
  have f1 := R4.frozen 1
  have f2 := R4.frozen 2
  simp only [List.getElem?_toArray, List.getElem?_cons_succ, List.getElem?_cons_zero] at x0 x1 x2
  have HO := hidH (o4.mono (B' := w.heap.size + 1) (by omega))
  have HS := hidH S4
  have HWW := hidH W4
  have HC := hidH (And.intro hd4 (And.intro (show d4.length ≤ 160 by omega) (And.intro hc4 (And.intro hm4 (show a4 ≤ at_ + 50 by omega)))))
  have hgg : g < w.heap.size := hg
  clear S3 W3 R3 O4 o4 hd4 hl4 hc4 hm4 S4 W4 R4 V4 ha1 ha2 ha3 ha4 g1 g2 g3 hr3
  go_wp2
  have O5 := ((HO.out.setCell (p := ⟨w.heap.size, 0, none⟩) (Nat.lt_succ_self _) (.int .i64 y1)).setCell (p := ⟨w.heap.size, 1, none⟩) (Nat.lt_succ_self _) (.int .i64 y2)).setCell (p := ⟨w.heap.size, 2, none⟩) (Nat.lt_succ_self _) (.slice A4 d4.length c4)
  have S5 := ((HS.out.far (p := ⟨w.heap.size, 0, none⟩) hgg (.int .i64 y1)).far (p := ⟨w.heap.size, 1, none⟩) hgg (.int .i64 y2)).far (p := ⟨w.heap.size, 2, none⟩) hgg (.slice A4 d4.length c4)
  have W5 := ((HWW.out.put (p := ⟨w.heap.size, 0, none⟩) (Nat.le_refl _) (.int .i64 y1)).put (p := ⟨w.heap.size, 1, none⟩) (Nat.le_refl _) (.int .i64 y2)).put (p := ⟨w.heap.size, 2, none⟩) (Nat.le_refl _) (.slice A4 d4.length c4)
  have es : ∀ (u : World) (p : Addr) (v : Value), (u.setCell p v).heap.size = u.heap.size := fun u p v => by simp [World.setCell]
  have O6 := O5.mono (B' := w.heap.size) (Nat.le_succ _)
  exact bodyPost_ret (v := .agg #[.int .i64 y1, .int .i64 y2, .slice A4 d4.length c4]) (by simp [results, Tryz.results29, go_sem, x0, x1, x2]) rfl ⟨y1, y2, d4, A4, c4, a4, rfl, ⟨HKF.out.1, HKF.out.2, HC.out.2.1⟩, HC.out.1, by simp only [es]; exact O6, HC.out.2.2.1, HC.out.2.2.2.1, S5, HC.out.2.2.2.2, W5⟩
theorem l4Draw_any (g : Nat) (A : Option Addr) (l : List Int) (c at_ : Nat) (w : World) (h : Src w g A l c at_) (ha : (at_ : Int) ≤ 600000000) :
    Calls Tryz.prog 29 #[.pointer (some ⟨g, 0, none⟩)] w (CkRes 50 w g A l c at_) := (l4Draw_ok g A l c at_ w h ha).mono fun _ _ q => q.res
theorem ne_beq {a b : Int} (h : a ≠ b) : (a == b) = false := by simp [h]
theorem Ob.setFar' {B C : Nat} {w : World} {A : Option Addr} {l : List Int} (h : Ob B C w A l) {p : Addr} (hp : C ≤ p.block) (u : Value) : Ob B C (w.setCell p u) A l := by
  rcases h with h | ⟨b, off, h1, h2, h3, h4, h5⟩
  · exact .inl h
  · exact .inr ⟨b, off, h1, h2, h3, by simpa [World.setCell] using h4, fun j hj => ⟨(World.cell?_setCell_other _ _ _ _ (fun e => by subst e; simp at hp; omega)).trans (h5 j hj).1, (World.frozen?_setCell _ _ _ _).trans (h5 j hj).2⟩⟩
set_option maxHeartbeats 4000000 in
theorem l4Bent_any (g : Nat) (A : Option Addr) (l : List Int) (c at_ : Nat) (w : World) (h : Src w g A l c at_) (ha : (at_ : Int) ≤ 500000000) :
    Calls Tryz.prog 56 #[.pointer (some ⟨g, 0, none⟩)] w (CkRes 300 w g A l c at_) := by
  have hg := h.lt
  have S0 := h.below (bal (Below.refl w.heap.size w) (.cells #[.int .i64 0, .int .i64 0, .slice none 0 0] 37))
  have R0 := Blk.new w 37 #[.int .i64 0, .int .i64 0, .slice none 0 0]
  have W0 : Win g (g + 1) w (w.alloc (.cells #[.int .i64 0, .int .i64 0, .slice none 0 0] 37)) := Win.of_below (bal (Below.refl _ _) _)
  obtain ⟨w0, hw0⟩ : ∃ w0, w.alloc (.cells #[.int .i64 0, .int .i64 0, .slice none 0 0] 37) = w0 := ⟨_, rfl⟩
  rw [hw0] at S0 R0 W0
  have HW := hidH hw0
  clear hw0 h
  go_enter Tryz.func56, Tryz.ntmps56
  have hs0 : w0.heap.size = w.heap.size + 1 := by have := HW.out; rw [← this]; simp
  go_wp2_with fail
  rw [HW.out]
  refine (l4Draw_any _ _ _ _ _ _ S0 (by omega)).mono ?_
  rintro e w1 ⟨kk, ff, b, X, cx, a1, rfl, hb, hbl, hX, hcx, hcm, S1, ha1, V1⟩
  have W1 := W0.trans V1
  have R1 := V1.blk R0 (.inr (by omega))
  have hw1 := V1.size
  clear S0 V1 W0 R0 HW
  unfold ckV
  have C1 := Blk.new w1 37 #[.int .i64 kk, .int .i64 ff, .slice X b.length cx]
  have R1' := R1.alloc (.cells #[.int .i64 kk, .int .i64 ff, .slice X b.length cx] 37)
  have S1' := S1.below (bal (Below.refl _ _) (.cells #[.int .i64 kk, .int .i64 ff, .slice X b.length cx] 37))
  have X1 := hX.below (bal (Below.refl _ _) (.cells #[.int .i64 kk, .int .i64 ff, .slice X b.length cx] 37))
  have W1' := W1.trans (Win.of_below (bal (Below.refl w1.heap.size w1) (.cells #[.int .i64 kk, .int .i64 ff, .slice X b.length cx] 37)))
  clear S1 R1 hX W1
  have HC := hidH C1
  have HR := hidH R1'
  have HX := hidH X1
  have HWW := hidH W1'
  have HF := hidH (And.intro hb (And.intro hbl (And.intro hcx hcm)))
  clear C1 R1' X1 W1' hb hbl hcx hcm
  have HS := hidH S1'
  clear S1'
  go_wp2_with fail
  refine (next_any g A l c a1 16 _ HS.out (by omega)).mono ?_
  rintro e w2 ⟨y, rfl, y0, y1, S2, V2, hs2⟩
  have hs2' : w2.heap.size = w1.heap.size + 1 := by rw [hs2]; simp
  have C2 := V2.blk HC.out (.inr (by omega))
  have R2 := V2.blk HR.out (.inr (by omega))
  have X2 := HX.out.win V2 (.inr (by omega))
  have W2 := HWW.out.trans V2
  clear hs2 y0 y1 V2 HC HR HX HWW HS
  by_cases hy : y = 0
  ·
    subst hy
    go_wp2_with fail
    refine (pick_any g A l c (a1 + 1) (w1.heap.size + 1) [-1, 256] _ (S2.below (bal (Below.refl _ _) _)) (by omega) (by rw [← hs2']; exact Ns.of_blk (t := 2) (Blk.new w2 _ _)) (by simp) (by simp) (by omega)).mono ?_
    rintro e w3 ⟨v, a3, rfl, hv, ha3, S3, V3⟩
    have C3 := V3.blk (C2.alloc _) (.inr (by omega))
    have R3 := V3.blk (R2.alloc _) (.inr (by omega))
    have X3 := (X2.below (bal (Below.refl _ _) _)).win V3 (.inr (by omega))
    have W3 := (W2.trans (Win.of_below (bal (Below.refl _ _) _))).trans V3
    clear S2 C2 R2 X2 W2 V3 hv
    obtain ⟨p0, p1, p2, pz⟩ := (⟨C3.cell 0, C3.cell 1, C3.cell 2, C3.lt⟩ : _ ∧ _ ∧ _ ∧ _)
    have f0 := C3.frozen 0
    have f1 := C3.frozen 1
    have f2 := C3.frozen 2
    have x0 := R3.cell 0
    have x1 := R3.cell 1
    have x2 := R3.cell 2
    have e0 := R3.frozen 0
    have e1 := R3.frozen 1
    have e2 := R3.frozen 2
    simp only [List.getElem?_toArray, List.getElem?_cons_succ, List.getElem?_cons_zero] at p0 p1 p2 x0 x1 x2
    have hrs : w.heap.size < w3.heap.size := R3.lt
    have X5 := hidH X3
    have S5 := hidH S3
    have W5 := hidH W3
    have A5 : a3 ≤ at_ + 300 := by omega
    have A6 := hidH A5
    clear X3 S3 W3 C3 R3 A5 ha1 ha3
    go_wp2
    have S6 := ((((S5.out.far (p := ⟨w1.heap.size, 0, none⟩) (show g < w1.heap.size by omega) (.int .i64 v)).far (p := ⟨w.heap.size, 0, none⟩) hg (.int .i64 v)).far (p := ⟨w.heap.size, 1, none⟩) hg (.int .i64 ff)).far (p := ⟨w.heap.size, 2, none⟩) hg (.slice X b.length cx))
    have X6 := ((((X5.out.setFar' (p := ⟨w1.heap.size, 0, none⟩) (Nat.le_refl _) (.int .i64 v)).setCell (p := ⟨w.heap.size, 0, none⟩) (show w.heap.size < w0.heap.size by omega) (.int .i64 v)).setCell (p := ⟨w.heap.size, 1, none⟩) (show w.heap.size < w0.heap.size by omega) (.int .i64 ff)).setCell (p := ⟨w.heap.size, 2, none⟩) (show w.heap.size < w0.heap.size by omega) (.slice X b.length cx))
    have W6 := ((((W5.out.put (p := ⟨w1.heap.size, 0, none⟩) (show w.heap.size ≤ w1.heap.size by omega) (.int .i64 v)).put (p := ⟨w.heap.size, 0, none⟩) (Nat.le_refl _) (.int .i64 v)).put (p := ⟨w.heap.size, 1, none⟩) (Nat.le_refl _) (.int .i64 ff)).put (p := ⟨w.heap.size, 2, none⟩) (Nat.le_refl _) (.slice X b.length cx))
    have es : ∀ (u : World) (p : Addr) (v : Value), (u.setCell p v).heap.size = u.heap.size := fun u p v => by simp [World.setCell]
    exact bodyPost_ret (v := .agg #[.int .i64 v, .int .i64 ff, .slice X b.length cx]) (by simp [results, Tryz.results56, go_sem, x0, x1, x2]) rfl ⟨v, ff, b, X, cx, a3, rfl, HF.out.1, HF.out.2.1, (X6.mono (by omega)).upto (by simp only [es]; omega) (Nat.le_refl _), HF.out.2.2.1, HF.out.2.2.2, S6, A6.out, W6⟩
  have n0 := ne_beq hy
  by_cases hy : y = 1
  ·
    subst hy
    go_wp2_with fail
    refine (pick_any g A l c (a1 + 1) (w1.heap.size + 1) [-1, 256] _ (S2.below (bal (Below.refl _ _) _)) (by omega) (by rw [← hs2']; exact Ns.of_blk (t := 2) (Blk.new w2 _ _)) (by simp) (by simp) (by omega)).mono ?_
    rintro e w3 ⟨v, a3, rfl, hv, ha3, S3, V3⟩
    have C3 := V3.blk (C2.alloc _) (.inr (by omega))
    have R3 := V3.blk (R2.alloc _) (.inr (by omega))
    have X3 := (X2.below (bal (Below.refl _ _) _)).win V3 (.inr (by omega))
    have W3 := (W2.trans (Win.of_below (bal (Below.refl _ _) _))).trans V3
    clear S2 C2 R2 X2 W2 V3 hv
    obtain ⟨p0, p1, p2, pz⟩ := (⟨C3.cell 0, C3.cell 1, C3.cell 2, C3.lt⟩ : _ ∧ _ ∧ _ ∧ _)
    have f0 := C3.frozen 0
    have f1 := C3.frozen 1
    have f2 := C3.frozen 2
    have x0 := R3.cell 0
    have x1 := R3.cell 1
    have x2 := R3.cell 2
    have e0 := R3.frozen 0
    have e1 := R3.frozen 1
    have e2 := R3.frozen 2
    simp only [List.getElem?_toArray, List.getElem?_cons_succ, List.getElem?_cons_zero] at p0 p1 p2 x0 x1 x2
    have hrs : w.heap.size < w3.heap.size := R3.lt
    have X5 := hidH X3
    have S5 := hidH S3
    have W5 := hidH W3
    have A5 : a3 ≤ at_ + 300 := by omega
    have A6 := hidH A5
    clear X3 S3 W3 C3 R3 A5 ha1 ha3
    go_wp2
    have S6 := ((((S5.out.far (p := ⟨w1.heap.size, 1, none⟩) (show g < w1.heap.size by omega) (.int .i64 v)).far (p := ⟨w.heap.size, 0, none⟩) hg (.int .i64 kk)).far (p := ⟨w.heap.size, 1, none⟩) hg (.int .i64 v)).far (p := ⟨w.heap.size, 2, none⟩) hg (.slice X b.length cx))
    have X6 := ((((X5.out.setFar' (p := ⟨w1.heap.size, 1, none⟩) (Nat.le_refl _) (.int .i64 v)).setCell (p := ⟨w.heap.size, 0, none⟩) (show w.heap.size < w0.heap.size by omega) (.int .i64 kk)).setCell (p := ⟨w.heap.size, 1, none⟩) (show w.heap.size < w0.heap.size by omega) (.int .i64 v)).setCell (p := ⟨w.heap.size, 2, none⟩) (show w.heap.size < w0.heap.size by omega) (.slice X b.length cx))
    have W6 := ((((W5.out.put (p := ⟨w1.heap.size, 1, none⟩) (show w.heap.size ≤ w1.heap.size by omega) (.int .i64 v)).put (p := ⟨w.heap.size, 0, none⟩) (Nat.le_refl _) (.int .i64 kk)).put (p := ⟨w.heap.size, 1, none⟩) (Nat.le_refl _) (.int .i64 v)).put (p := ⟨w.heap.size, 2, none⟩) (Nat.le_refl _) (.slice X b.length cx))
    have es : ∀ (u : World) (p : Addr) (v : Value), (u.setCell p v).heap.size = u.heap.size := fun u p v => by simp [World.setCell]
    exact bodyPost_ret (v := .agg #[.int .i64 kk, .int .i64 v, .slice X b.length cx]) (by simp [results, Tryz.results56, go_sem, x0, x1, x2]) rfl ⟨kk, v, b, X, cx, a3, rfl, HF.out.1, HF.out.2.1, (X6.mono (by omega)).upto (by simp only [es]; omega) (Nat.le_refl _), HF.out.2.2.1, HF.out.2.2.2, S6, A6.out, W6⟩
  have n1 := ne_beq hy
  by_cases hy : y = 2
  ·
    subst hy
    go_wp2_with fail
    refine (pick_any g A l c (a1 + 1) (w1.heap.size + 1) [160, 161] _ (S2.below (bal (Below.refl _ _) _)) (by omega) (by rw [← hs2']; exact Ns.of_blk (t := 2) (Blk.new w2 _ _)) (by simp) (by simp) (by omega)).mono ?_
    rintro e w3 ⟨v, a3, rfl, hv, ha3, S3, V3⟩
    obtain ⟨N, rfl, hN⟩ : ∃ N : Nat, v = N ∧ N ≤ 161 := by
      simp at hv
      rcases hv with rfl | rfl
      · exact ⟨160, rfl, by omega⟩
      · exact ⟨161, rfl, by omega⟩
    have C3 := V3.blk (C2.alloc _) (.inr (by omega))
    have R3 := V3.blk (R2.alloc _) (.inr (by omega))
    have W3 := (W2.trans (Win.of_below (bal (Below.refl _ _) _))).trans V3
    have z3 : w1.heap.size < w3.heap.size := C3.lt
    clear S2 C2 R2 X2 W2 V3 hv
    go_wp2_with fail
    refine (some_any N _ _ _ _ _ _ S3 (by omega) (by omega)).mono ?_
    rintro e w4 ⟨v4, d4, a4, rfl, hd4, hl4, O4, S4, ha4, V4⟩
    obtain ⟨A4, c4, rfl, X4, hc4, hm4⟩ := own_xb O4
    have C4 := V4.blk C3 (.inr (by omega))
    have R4 := V4.blk R3 (.inr (by omega))
    have W4 := W3.trans V4
    have HF := hidH (And.intro hd4 (And.intro (show d4.length ≤ 200 by omega) (And.intro hc4 hm4)))
    clear S3 C3 R3 W3 V4 O4 hd4 hl4 hc4 hm4
    obtain ⟨p0, p1, p2, pz⟩ := (⟨C4.cell 0, C4.cell 1, C4.cell 2, C4.lt⟩ : _ ∧ _ ∧ _ ∧ _)
    have f0 := C4.frozen 0
    have f1 := C4.frozen 1
    have f2 := C4.frozen 2
    have x0 := R4.cell 0
    have x1 := R4.cell 1
    have x2 := R4.cell 2
    have e0 := R4.frozen 0
    have e1 := R4.frozen 1
    have e2 := R4.frozen 2
    simp only [List.getElem?_toArray, List.getElem?_cons_succ, List.getElem?_cons_zero] at p0 p1 p2 x0 x1 x2
    have hrs : w.heap.size < w4.heap.size := R4.lt
    have X5 := hidH X4
    have S5 := hidH S4
    have W5 := hidH W4
    have A5 : a4 ≤ at_ + 300 := by omega
    have A6 := hidH A5
    clear X4 S4 W4 C4 R4 A5 ha1 ha4
    go_wp2
    have S6 := ((((S5.out.far (p := ⟨w1.heap.size, 2, none⟩) (show g < w1.heap.size by omega) (.slice A4 d4.length c4)).far (p := ⟨w.heap.size, 0, none⟩) hg (.int .i64 kk)).far (p := ⟨w.heap.size, 1, none⟩) hg (.int .i64 ff)).far (p := ⟨w.heap.size, 2, none⟩) hg (.slice A4 d4.length c4))
    have X6 := ((((X5.out.setCell (p := ⟨w1.heap.size, 2, none⟩) z3 (.slice A4 d4.length c4)).setCell (p := ⟨w.heap.size, 0, none⟩) (show w.heap.size < w3.heap.size by omega) (.int .i64 kk)).setCell (p := ⟨w.heap.size, 1, none⟩) (show w.heap.size < w3.heap.size by omega) (.int .i64 ff)).setCell (p := ⟨w.heap.size, 2, none⟩) (show w.heap.size < w3.heap.size by omega) (.slice A4 d4.length c4))
    have W6 := ((((W5.out.put (p := ⟨w1.heap.size, 2, none⟩) (show w.heap.size ≤ w1.heap.size by omega) (.slice A4 d4.length c4)).put (p := ⟨w.heap.size, 0, none⟩) (Nat.le_refl _) (.int .i64 kk)).put (p := ⟨w.heap.size, 1, none⟩) (Nat.le_refl _) (.int .i64 ff)).put (p := ⟨w.heap.size, 2, none⟩) (Nat.le_refl _) (.slice A4 d4.length c4))
    have es : ∀ (u : World) (p : Addr) (v : Value), (u.setCell p v).heap.size = u.heap.size := fun u p v => by simp [World.setCell]
    exact bodyPost_ret (v := .agg #[.int .i64 kk, .int .i64 ff, .slice A4 d4.length c4]) (by simp [results, Tryz.results56, go_sem, x0, x1, x2]) rfl ⟨kk, ff, d4, A4, c4, a4, rfl, HF.out.1, HF.out.2.1, (X6.mono (by omega)).upto (by simp only [es]; omega) (Nat.le_refl _), HF.out.2.2.1, HF.out.2.2.2, S6, A6.out, W6⟩
  have n2 := ne_beq hy
  obtain ⟨p0, p1, p2, pz⟩ := (⟨C2.cell 0, C2.cell 1, C2.cell 2, C2.lt⟩ : _ ∧ _ ∧ _ ∧ _)
  have f0 := C2.frozen 0
  have f1 := C2.frozen 1
  have f2 := C2.frozen 2
  have x0 := R2.cell 0
  have x1 := R2.cell 1
  have x2 := R2.cell 2
  have e0 := R2.frozen 0
  have e1 := R2.frozen 1
  have e2 := R2.frozen 2
  simp only [List.getElem?_toArray, List.getElem?_cons_succ, List.getElem?_cons_zero] at p0 p1 p2 x0 x1 x2
  have hrs : w.heap.size < w2.heap.size := R2.lt
  have X5 := hidH X2
  have S5 := hidH S2
  have W5 := hidH W2
  have A5 : (a1 + 1) ≤ at_ + 300 := by omega
  have A6 := hidH A5
  clear X2 S2 W2 C2 R2 A5 ha1
  go_wp2
  have S6 := (((S5.out.far (p := ⟨w.heap.size, 0, none⟩) hg (.int .i64 kk)).far (p := ⟨w.heap.size, 1, none⟩) hg (.int .i64 ff)).far (p := ⟨w.heap.size, 2, none⟩) hg (.slice X b.length cx))
  have X6 := (((X5.out.setCell (p := ⟨w.heap.size, 0, none⟩) (show w.heap.size < w0.heap.size by omega) (.int .i64 kk)).setCell (p := ⟨w.heap.size, 1, none⟩) (show w.heap.size < w0.heap.size by omega) (.int .i64 ff)).setCell (p := ⟨w.heap.size, 2, none⟩) (show w.heap.size < w0.heap.size by omega) (.slice X b.length cx))
  have W6 := (((W5.out.put (p := ⟨w.heap.size, 0, none⟩) (Nat.le_refl _) (.int .i64 kk)).put (p := ⟨w.heap.size, 1, none⟩) (Nat.le_refl _) (.int .i64 ff)).put (p := ⟨w.heap.size, 2, none⟩) (Nat.le_refl _) (.slice X b.length cx))
  have es : ∀ (u : World) (p : Addr) (v : Value), (u.setCell p v).heap.size = u.heap.size := fun u p v => by simp [World.setCell]
  exact bodyPost_ret (v := .agg #[.int .i64 kk, .int .i64 ff, .slice X b.length cx]) (by simp [results, Tryz.results56, go_sem, x0, x1, x2]) rfl ⟨kk, ff, b, X, cx, (a1 + 1), rfl, HF.out.1, HF.out.2.1, (X6.mono (by omega)).upto (by simp only [es]; omega) (Nat.le_refl _), HF.out.2.2.1, HF.out.2.2.2, S6, A6.out, W6⟩
end Go.Proofs.YtncnibkojneejaaGreatDoor

/- Chapter 7: the drawn lists of chunks. -/
namespace Go.Proofs.YtncnibkojneejaaGreatDoor
open Go.RowKit Go.Deep

theorem RT.of_xb {w : World} {B C cx : Nat} {X : Option Addr} {b : List Int} (h : Xb B C w X b) (hB : B ≤ w.heap.size) (h1 : b.length ≤ cx) (h2 : (cx : Int) ≤ 9223372036854775807) (ps : List V) :
    ∃ lo hi, B ≤ lo ∧ RT w ⟨ps, .slice X b.length cx, b, lo, hi⟩ := by
  by_cases hl : b = []
  · exact ⟨B, B, Nat.le_refl _, ⟨hB, by unfold Ow; exact ⟨X, cx, rfl, ⟨h1, h2⟩, .inl hl⟩⟩, .inl (Nat.le_refl _)⟩
  · obtain ⟨_, b0, ht, hb⟩ := h
    have hbb : B ≤ b0 := by
      rcases hb with hb | hb
      · exact absurd hb hl
      · exact hb.1
    have ho := ht.ob
    rcases ht with ht | ⟨rfl, cur, hk, _⟩
    · exact absurd ht hl
    · exact ⟨b0, b0 + 1, hbb, Ob.owv ho hk.lt ⟨h1, h2⟩, .inr ⟨rfl, cur, hk⟩⟩
/-- A list of chunks comes back of which P holds each: at most n of them, at most k draws. -/
def CsRes (P : ChunkM → Prop) (k n : Nat) (w : World) (g : Nat) (A : Option Addr) (l : List Int) (c at_ : Nat) (e : Ending) (w' : World) : Prop :=
  ∃ (v : Value) (q : List RowE) (r : List ChunkM) (at' : Nat), e = .returned v ∧ RowCk q r ∧ r.length ≤ n ∧ (∀ x ∈ r, P x) ∧ w'.ownsRow w.heap.size 37 3 v r.length (flatR q) ∧ RTs w.heap.size w' q ∧ Src w' g A l c at' ∧ at' ≤ at_ + k ∧ Win g (g + 1) w w'
def CkG (x : ChunkM) : Prop := cmOk x ∧ Bytes x.Body
set_option maxRecDepth 100000 in
set_option maxHeartbeats 4000000 in
theorem l7Draw_any (g : Nat) (A : Option Addr) (l : List Int) (c at_ : Nat) (w : World) (h : Src w g A l c at_) (ha : (at_ : Int) ≤ 500000000) :
    Calls Tryz.prog 27 #[.pointer (some ⟨g, 0, none⟩)] w (CsRes CkG 160 3 w g A l c at_) := by
  have hg := h.lt
  have HO0 := hidH (show (w.alloc (.cells #[] 37)).ownsRow w.heap.size 37 3 (.slice (some ⟨w.heap.size, 0, none⟩) 0 0) 0 [] from World.ownsRow_lit w #[] 0 (Nat.le_refl _) (by unfold maxLen; omega) rfl)
  have S0 := h.below (bal (Below.refl w.heap.size w) (.cells #[] 37))
  have W0 : Win g (g + 1) w (w.alloc (.cells #[] 37)) := Win.of_below (bal (Below.refl _ _) _)
  obtain ⟨w0, hw0⟩ : ∃ w0, w.alloc (.cells #[] 37) = w0 := ⟨_, rfl⟩
  have hs0 : w0.heap.size = w.heap.size + 1 := by rw [← hw0]; simp
  rw [hw0] at S0 W0 HO0
  have HW := hidH hw0
  have HG := hidH hg
  clear hw0 h hg
  go_enter Tryz.func27, Tryz.ntmps27
  go_wp2_with fail
  rw [HW.out, ← hs0]
  refine (pick_any g A l c at_ w0.heap.size [1, 1, 2, 3, 0] _ (S0.below (bal (Below.refl _ _) _)) (by omega) (Ns.of_blk (t := 2) (Blk.new w0 _ _)) (by simp) (by simp) (by have := HG.out; omega)).mono ?_
  rintro e w2 ⟨y2, a2, rfl, hy2, ha2, S2, V2⟩
  obtain ⟨N, rfl, hN⟩ : ∃ N : Nat, y2 = N ∧ N ≤ 3 := by
    simp at hy2
    exact ⟨y2.toNat, by omega, by omega⟩
  have HW2 := hidH (W0.trans ((Win.of_below (bal (Below.refl _ _) _)).trans V2))
  have HO2 := hidH (own_keptT (own_below0 HO0.out (bal (Below.refl w0.heap.size w0) _)) V2 HG.out)
  have HS2 := hidH S2
  have HA := hidH (show a2 ≤ at_ + 1 ∧ (at_ : Int) ≤ 500000000 by omega)
  have HNN := hidH hN
  clear S0 W0 V2 hy2 S2 ha2 hN ha hs0
  go_wp2_with fail
  go_loopw [3, 4] (fun v m wr => ∃ (q : List RowE) (r : List ChunkM) (M a3 : Nat), r.length + M ≤ 3 ∧ m = .int .i64 (M : Int) ∧ RowCk q r ∧ (∀ x ∈ r, CkG x) ∧ wr.ownsRow w.heap.size 37 3 v r.length (flatR q) ∧ RTs w.heap.size wr q ∧ Src wr g A l c a3 ∧ a3 ≤ at_ + 1 + 50 * r.length ∧ Win g (g + 1) w wr) (fun _ m _ => (intOf m).toNat)
  case atStart => exact ⟨[], [], N, a2, by simpa using HNN.out, rfl, RowCk.nil, fun x hx => by simp at hx, HO2.out, RTs.nil _ _, HS2.out, by have := HA.out.1; simp; omega, HW2.out⟩
  case round =>
    obtain ⟨q, r, M, a3, hM, rfl, hq, hr, ho, hk, S3, ha3, W3⟩ := hrel
    have hM4 : (M : Int) ≤ 3 := by omega
    have HQ := hidH (And.intro hq hr)
    have HO := hidH ho
    have HKT := hidH hk
    have HS := hidH S3
    have HWW := hidH W3
    have HB := hidH (And.intro hM ha3)
    by_cases hz : 0 < M
    · have hz1 : (0 : Int) < (M : Int) := by omega
      have HZ := hidH hz
      have HDR := hidH (l4Draw_ok g A l c a3 wr S3 (by have := HA.out.2; omega))
      clear ho hk W3 hM hz hq hr ha3 S3
      go_wp2_with fail
      refine HDR.out.mono ?_
      rintro e w5 ⟨k, f, b, X, cx, a5, rfl, hok, hby, hX, hc5, hm5, S5, ha5, V5⟩
      have ub := B8.of_win V5 HS.out.blk (by decide)
      obtain ⟨lo, hi, hlo, hkt⟩ := RT.of_xb hX V5.size hc5 hm5 [.int k, .int f]
      have HO5 := hidH (own_keptT HO.out V5 HG.out)
      have HK5 := hidH ((HKT.out.turn V5.size ub).snoc (x := ckE ⟨k, f, b⟩ (.slice X b.length cx) lo hi) hkt (Nat.le_trans HWW.out.size hlo) (fun y hy => Nat.le_trans (HKT.out.top y hy) hlo))
      have HS5 := hidH S5
      have HW5 := hidH (HWW.out.trans V5)
      have HD := hidH (show CkG ⟨k, f, b⟩ from ⟨hok, hby⟩)
      have HA5 := hidH ha5
      have ba := bal (Below.refl w5.heap.size w5) (.cells #[.int .i64 k, .int .i64 f, .slice X b.length cx] 37)
      have HBA := hidH ba
      have KB := hidH (Blk.new w5 37 #[.int .i64 k, .int .i64 f, .slice X b.length cx])
      unfold ckV
      clear S5 V5 ub hkt hlo hok hby hX hc5 hm5 ha5 ba HDR
      go_wp2_with (at_builtin; go_loud (refine wpList_append_Ck rfl _ _ rfl w.heap.size _ r.length (flatR q) rfl (own_below0 HO5.out HBA.out) w5.heap.size _ k f X b.length cx rfl KB.out (by have := HB.out.1; omega) (Nat.le_trans HW5.out.size HBA.out.size) ?_))
      intro v6 w6 o6 hg6
      have r5 := own_below0 HO5.out HBA.out
      have HS6 := hidH ((HS5.out.below HBA.out).grown hg6 (fun k hk => Nat.lt_of_lt_of_le HG.out (r5.lt k hk).1))
      have HW6 := hidH (Win.row (HW5.out.trans (Win.of_below HBA.out)) hg6 (fun k hk => (r5.lt k hk).1))
      have HK6 := hidH (HK5.out.turn (Nat.le_trans HBA.out.size hg6.size) ((B8.of_below HBA.out).trans (B8.of_grown hg6 r5 (by decide))))
      have HO6 := hidH (show w6.ownsRow w.heap.size 37 3 v6 (r ++ [(⟨k, f, b⟩ : ChunkM)]).length (flatR (q ++ [ckE ⟨k, f, b⟩ (.slice X b.length cx) lo hi])) by rw [List.length_append, flatR_app]; exact o6)
      clear o6 hg6 r5
      go_wp2
      go_roundw
      case rel =>
        refine ⟨_, r ++ [(⟨k, f, b⟩ : ChunkM)], M - 1, a5, ?_, by have := HZ.out; go_num, HQ.out.1.snoc _ _ _ _, ?_, HO6.out, HK6.out, HS6.out, ?_, HW6.out⟩
        · rw [List.length_append]; have := HB.out.1; have := HZ.out; simp; omega
        · intro x hx
          rcases List.mem_append.1 hx with hx | hx
          · exact HQ.out.2 x hx
          · simp at hx; subst hx; exact HD.out
        · rw [List.length_append]; have := HB.out.2; have := HA5.out; simp; omega
      case measure => simp [intOf]; have := HZ.out; omega
    · have hz1 : ¬ (0 : Int) < (M : Int) := by omega
      clear ho hk W3 hM hz hq hr S3 ha3
      go_wp2
      go_ret
      exact ⟨_, q, r, a3, rfl, HQ.out.1, by have := HB.out.1; omega, HQ.out.2, HO.out, HKT.out, HS.out, by have := HB.out.1; have := HB.out.2; omega, HWW.out⟩
end Go.Proofs.YtncnibkojneejaaGreatDoor
