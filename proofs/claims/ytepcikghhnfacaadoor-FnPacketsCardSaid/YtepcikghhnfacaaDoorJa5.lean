import Derived.Test.YtepcikghhnfacaaDoorJa3
import Derived.Test.YtepcikghhnfacaaDoorJa4
import Derived.StillTailTactics
import Derived.Test.YtepcikghhnfacaaDoorBytes
import Derived.Laws.BitsAllLaws

/- The model's PacketFault, l4Pack and PackPacket. -/
namespace Go.Proofs.YtepcikghhnfacaaDoor
open Go.RowKit Go.Deep

/-- A packet's value. -/
def pkV (tag : Int) (P : Option Addr) (n c : Nat) : Value := .agg #[.int .i64 tag, .slice P n c]
def chkF (x : Chk) : Int := chF x.kind x.flags x.body
def firstF : List Chk → Int
  | [] => 0
  | x :: r => if chkF x = 0 then firstF r else chkF x
theorem firstF_app (a b : List Chk) (h : firstF a = 0) : firstF (a ++ b) = firstF b := by
  induction a with
  | nil => rfl
  | cons x r ih =>
    simp only [firstF] at h
    simp only [List.cons_append, firstF]
    split at h
    · next hx => rw [if_pos hx]; exact ih h
    · next hx => exact absurd h hx
theorem firstF_mem {cs : List Chk} (h : firstF cs = 0) : ∀ x ∈ cs, chkF x = 0 := by
  induction cs with
  | nil => intro x hx; cases hx
  | cons y r ih =>
    simp only [firstF] at h
    split at h
    · next hy =>
      intro x hx
      rcases List.mem_cons.1 hx with rfl | hx
      · exact hy
      · exact ih h x hx
    · next hy => exact absurd h hy
theorem firstF_ok {cs : List Chk} (h : firstF cs = 0) : ∀ x ∈ cs, chkOk x := fun x hx => chF_zero (firstF_mem h x hx)
theorem firstF_take {cs : List Chk} {j : Nat} (hj : j < cs.length) (h : firstF (cs.take j) = 0) : firstF (cs.take (j + 1)) = chkF cs[j] := by
  rw [List.take_add_one, List.getElem?_eq_getElem hj, Option.toList_some, firstF_app _ _ h]
  simp only [firstF]
  split
  · next hx => exact hx.symm
  · rfl
theorem firstF_hit {cs : List Chk} {j : Nat} (hj : j < cs.length) (h : firstF (cs.take j) = 0) (hne : chkF cs[j] ≠ 0) : firstF cs = chkF cs[j] := by
  have h2 : cs.take j ++ cs[j] :: cs.drop (j + 1) = cs := by simp
  have h3 := firstF_app (cs.take j) (cs[j] :: cs.drop (j + 1)) h
  rw [h2] at h3
  rw [h3]
  simp [firstF, hne]
def pkF (tag : Int) (cs : List Chk) : Int :=
  if wB tag then (if 1 ≤ cs.length ∧ cs.length ≤ 8 then (if firstF cs = 0 then (if (rawL tag 0 cs).length ≤ 500 then 0 else 2) else firstF cs) else 2) else 3
set_option maxRecDepth 100000 in
set_option maxHeartbeats 2000000 in
theorem pkFault_spec (tag : Int) (P : Option Addr) (cs : List Chk) (c : Nat) (w : World) (hP : Cs w P cs) (hm : (cs.length : Int) ≤ 9223372036854775807) (hbl : ∀ x ∈ cs, (x.body.length : Int) ≤ 9223372036854775807) :
    Calls Tryd.prog 10 #[pkV tag P cs.length c] w fun e w' => e = .returned (.int .i64 (pkF tag cs)) ∧ Below w.heap.size w w' := by
  unfold pkV
  by_cases ht : wB tag = true
  · by_cases hn : 1 ≤ cs.length ∧ cs.length ≤ 8
    · have hn1 : (1 : Int) ≤ (cs.length : Int) := by omega
      have hn8 : (cs.length : Int) ≤ 8 := by omega
      have e : pkF tag cs = (if firstF cs = 0 then (if (rawL tag 0 cs).length ≤ 500 then 0 else 2) else firstF cs) := by rw [pkF, if_pos ht, if_pos hn]
      have HE := hidH e
      have P1 : PkB (w.alloc (.cells #[.int .i64 tag, .slice P cs.length c] 26)) w.heap.size 0 tag P cs c :=
        ⟨by simp, (Blk.new w 26 _).cell 0, (Blk.new w 26 _).cell 1, hP.below (bal (Below.refl _ w) _)⟩
      have B1 := bal (Below.refl w.heap.size w) (.cells #[.int .i64 tag, .slice P cs.length c] 26)
      obtain ⟨w1, hw1⟩ : ∃ w1, w.alloc (.cells #[.int .i64 tag, .slice P cs.length c] 26) = w1 := ⟨_, rfl⟩
      rw [hw1] at P1 B1
      have HP1 := hidH P1
      have HB1 := hidH B1
      have HW1 := hidH hw1
      have HBL := hidH hbl
      have htB : (0 ≤ tag ∧ tag ≤ 4294967295) := by simpa [wB, inB] using ht
      have HT := hidH htB
      clear P1 B1 hw1 hP hbl e hm htB
      go_enter Tryd.func10, Tryd.ntmps10
      go_wp2_with (go_at_call 41; refine (word32_any _ _).mono ?_; rintro e w' ⟨rfl, rfl⟩)
      rw [HW1.out]
      go_loopw [3] (fun i wr => ∃ j : Nat, j ≤ cs.length ∧ i = .int .i64 j ∧ firstF (cs.take j) = 0 ∧ Below w1.heap.size w1 wr) (fun i _ => cs.length - (intOf i).toNat)
      case atStart => exact ⟨0, by omega, rfl, rfl, Below.refl _ _⟩
      case round =>
        obtain ⟨j, hj, rfl, hf, hB⟩ := hrel
        have P1 := HP1.out.below hB
        have q1 := P1.c1
        have hlt1 := P1.lt
        by_cases hlt : j < cs.length
        · have hj0 : (0 : Int) ≤ (j : Int) := by omega
          have hj1 : (j : Int) < (cs.length : Int) := by omega
          obtain ⟨cg, co, rfl, hg, hcc⟩ : ∃ cg co, P = some ⟨cg, co, none⟩ ∧ cg < wr.heap.size ∧ ∀ j (hj : j < cs.length), ∃ A c, CkB wr cg (co + j * 3) cs[j].kind cs[j].flags A cs[j].body c := by
            rcases P1.list with h | h
            · rw [h] at hlt; simp at hlt
            · exact h
          obtain ⟨A, cb, CK⟩ := hcc j hlt
          have c0 := CK.c0
          have c1 := CK.c1
          have c2 := CK.c2
          have HF := hidH (chFault_spec cs[j].kind cs[j].flags A cs[j].body cb wr (HBL.out _ (List.getElem_mem hlt)))
          unfold ckV at HF
          have HT2 := hidH (firstF_take hlt hf)
          have HHIT := hidH (fun h => firstF_hit hlt hf h)
          have HFF := hidH hf
          have HBW := hidH hB
          clear hcc CK P1 hf hB
          go_wp2_with fail
          refine HF.out.mono ?_
          rintro e w3 ⟨rfl, b3⟩
          have B3 := hidH (btr HBW.out b3)
          clear HF b3 HBW c0 c1 c2 q1
          obtain ⟨F, hF⟩ : ∃ F, chF cs[j].kind cs[j].flags cs[j].body = F := ⟨_, rfl⟩
          rw [hF]
          have HF := hidH (show chkF cs[j] = F from hF)
          clear hF
          by_cases hz : F = 0
          · subst hz
            go_wp2
            go_roundw
            case rel => exact ⟨j + 1, by omega, by go_num, by rw [HT2.out]; exact HF.out, B3.out⟩
            case measure => simp [intOf]; omega
          · have hne : (F != 0) = true := by rw [bne_iff_ne]; exact hz
            have HR := hidH (show pkF tag cs = F by
              have h1 : chkF cs[j] ≠ 0 := by rw [HF.out]; exact hz
              rw [HE.out, HHIT.out h1, if_neg h1, HF.out])
            clear hz
            go_wp2
            go_ret
            exact ⟨by rw [HR.out]; rfl, btr HB1.out (by first | exact B3.out | exact B3.out.drew)⟩
        · obtain rfl : j = cs.length := by omega
          rw [List.take_length] at hf
          have HOK := hidH (firstF_ok hf)
          have HRAW := hidH (l4Raw_any w.heap.size 0 tag 0 P cs c wr P1 HT.out.1 HT.out.2 (by omega) (by omega) (firstF_ok hf) (by omega))
          have HFF := hidH hf
          have HLEN := hidH (rawTo_len tag 0 cs (firstF_ok hf) cs.length (Nat.le_refl _))
          have HBW := hidH hB
          obtain ⟨L, hL⟩ : ∃ L, rawL tag 0 cs = L := ⟨_, rfl⟩
          rw [hL] at HRAW
          have HLL := hidH hL
          clear hf hB hlt hj P1 hL
          go_wp2_with fail
          refine HRAW.out.mono ?_
          rintro e w3 ⟨v, rfl, O3, b3⟩
          obtain ⟨A3, c3, rfl, ob3, _, _⟩ := own_ob O3
          have B3 := hidH (btr HBW.out b3)
          clear O3 ob3 b3 HBW HRAW q1
          by_cases h5 : L.length ≤ 500
          · have h5I : (L.length : Int) ≤ 500 := by omega
            have HR := hidH (show pkF tag cs = 0 by rw [HE.out, if_pos HFF.out, HLL.out, if_pos h5])
            clear h5
            go_wp2
            go_ret
            exact ⟨by rw [HR.out]; rfl, btr HB1.out B3.out⟩
          · have h5I : (500 : Int) < (L.length : Int) := by omega
            have HR := hidH (show pkF tag cs = 2 by rw [HE.out, if_pos HFF.out, HLL.out, if_neg h5])
            clear h5
            go_wp2
            go_ret
            exact ⟨by rw [HR.out]; rfl, btr HB1.out B3.out⟩
    · have e : pkF tag cs = 2 := by rw [pkF, if_pos ht, if_neg hn]
      rw [e]
      clear e hbl
      by_cases h1 : cs.length < 1
      · have h1I : (cs.length : Int) < 1 := by omega
        clear h1 hn
        go_enter Tryd.func10, Tryd.ntmps10
        go_wp2_with (go_at_call 41; refine (word32_any _ _).mono ?_; rintro e w' ⟨rfl, rfl⟩)
        go_ret
        exact ⟨rfl, bal (Below.refl _ _) _⟩
      · have h1I : (1 : Int) ≤ (cs.length : Int) := by omega
        have h8I : (8 : Int) < (cs.length : Int) := by omega
        have hd1 : decide ((cs.length : Int) < 1) = false := by simp; omega
        clear h1 hn
        go_enter Tryd.func10, Tryd.ntmps10
        go_wp2_with (go_at_call 41; refine (word32_any _ _).mono ?_; rintro e w' ⟨rfl, rfl⟩)
        go_ret
        exact ⟨rfl, bal (Below.refl _ _) _⟩
  · have ht2 : wB tag = false := by simpa using ht
    have e : pkF tag cs = 3 := by rw [pkF, if_neg ht]
    rw [e]
    clear e ht hbl
    go_enter Tryd.func10, Tryd.ntmps10
    go_wp2_with (go_at_call 41; refine (word32_any _ _).mono ?_; rintro e w' ⟨rfl, rfl⟩)
    go_ret
    exact ⟨rfl, bal (Below.refl _ _) _⟩
end Go.Proofs.YtepcikghhnfacaaDoor

/- The laws' helpers for packets: szChunkS, szPacket, toChunkS, toPacket, eqChunkS, eqPacket. -/
namespace Go.Proofs.YtepcikghhnfacaaDoor
open Go.RowKit Go.Deep

/-- How many bytes the bodies have together. -/
def totB (cs : List Chk) : Nat := (cs.map fun x => x.body.length).sum
theorem totB_take (cs : List Chk) (j : Nat) (hj : j < cs.length) : totB (cs.take (j + 1)) = totB (cs.take j) + cs[j].body.length := by
  rw [totB, totB, List.take_add_one, List.getElem?_eq_getElem hj, Option.toList_some, List.map_append, List.sum_append]
  simp
theorem totB_le (cs : List Chk) (x : Chk) (hx : x ∈ cs) : x.body.length ≤ totB cs := by
  unfold totB
  induction cs with
  | nil => cases hx
  | cons y r ih =>
    simp only [List.map_cons, List.sum_cons]
    rcases List.mem_cons.1 hx with rfl | h
    · omega
    · have := ih h; omega
theorem Cs.get {w : World} {P : Option Addr} {cs : List Chk} (h : Cs w P cs) {j : Nat} (hj : j < cs.length) : ∃ g o, P = some ⟨g, o, none⟩ ∧ g < w.heap.size ∧ ∃ A c, CkB w g (o + j * 3) cs[j].kind cs[j].flags A cs[j].body c := by
  rcases h with h | ⟨g, o, h1, h2, h3⟩
  · rw [h] at hj; simp at hj
  · exact ⟨g, o, h1, h2, h3 j hj⟩
/-- What szPacket and szChunkS answer: less than nothing, or what is left. -/
def SzR (left : Int) (cs : List Chk) (z : Int) : Prop := -1 ≤ z ∧ z ≤ left ∧ (0 ≤ z → (cs.length : Int) + (totB cs : Int) ≤ left - z)
/-- A list of chunks that the call made: the list in a block of its own, each body in a window of its own. -/
def OCs (B C : Nat) (w : World) (P : Option Addr) (cs : List Chk) : Prop :=
  cs = [] ∨ ∃ (g o : Nat) (lo hi : Nat → Nat), P = some ⟨g, o, none⟩ ∧ B ≤ g ∧ g < C ∧ C ≤ w.heap.size ∧ (∀ i j, i < j → j < cs.length → hi i ≤ lo j) ∧
    ∀ j (hj : j < cs.length), B ≤ lo j ∧ hi j ≤ C ∧ (g < lo j ∨ hi j ≤ g) ∧ ∃ A c, w.cell? ⟨g, o + j * 3, none⟩ = some (.int .i64 cs[j].kind) ∧ w.cell? ⟨g, o + j * 3 + 1, none⟩ = some (.int .i64 cs[j].flags) ∧ w.cell? ⟨g, o + j * 3 + 2, none⟩ = some (.slice A cs[j].body.length c) ∧
      (∀ t, w.frozen? ⟨g, t, none⟩ = false) ∧ Ob (lo j) (hi j) w A cs[j].body
theorem Ob.sub {B C B' C' : Nat} {w : World} {A : Option Addr} {l : List Int} (h : Ob B C w A l) (hB : B' ≤ B) (hC : C ≤ C') (hw : C' ≤ w.heap.size) : Ob B' C' w A l := by
  rcases h with h | ⟨b, off, h1, h2, h3, h4, h5⟩
  · exact .inl h
  · exact .inr ⟨b, off, h1, by omega, by omega, hw, h5⟩
theorem OCs.cs {B C : Nat} {w : World} {P : Option Addr} {cs : List Chk} (h : OCs B C w P cs) : Cs w P cs := by
  rcases h with h | ⟨g, o, lo, hi, h1, h2, h3, h4, h5, h6⟩
  · exact .inl h
  · refine .inr ⟨g, o, h1, by omega, fun j hj => ?_⟩
    obtain ⟨_, _, _, A, c, c0, c1, c2, _, ob⟩ := h6 j hj
    exact ⟨A, c, by show g < _; omega, c0, c1, c2, ob.bs⟩
theorem OCs.below {B C : Nat} {w w' : World} {P : Option Addr} {cs : List Chk} (h : OCs B C w P cs) (hb : Below w.heap.size w w') : OCs B C w' P cs := by
  rcases h with h | ⟨g, o, lo, hi, h1, h2, h3, h4, h5, h6⟩
  · exact .inl h
  · refine .inr ⟨g, o, lo, hi, h1, h2, h3, Nat.le_trans h4 hb.size, h5, fun j hj => ?_⟩
    obtain ⟨q1, q2, q3, A, c, c0, c1, c2, fz, ob⟩ := h6 j hj
    have hg : g < w.heap.size := by omega
    exact ⟨q1, q2, q3, A, c, (hb.cell (p := ⟨g, _, none⟩) hg).trans c0, (hb.cell (p := ⟨g, _, none⟩) hg).trans c1, (hb.cell (p := ⟨g, _, none⟩) hg).trans c2, fun t => (hb.frozen (p := ⟨g, t, none⟩) hg).trans (fz t), ob.below hb⟩
theorem OCs.win {B C B' C' : Nat} {w w' : World} {P : Option Addr} {cs : List Chk} (h : OCs B C w P cs) (hw : Win B' C' w w') (ho : C ≤ B' ∨ C' ≤ B) : OCs B C w' P cs := by
  rcases h with h | ⟨g, o, lo, hi, h1, h2, h3, h4, h5, h6⟩
  · exact .inl h
  · refine .inr ⟨g, o, lo, hi, h1, h2, h3, Nat.le_trans h4 hw.size, h5, fun j hj => ?_⟩
    obtain ⟨q1, q2, q3, A, c, c0, c1, c2, fz, ob⟩ := h6 j hj
    have hg : g < w.heap.size := by omega
    have hg2 : g < B' ∨ C' ≤ g := by omega
    exact ⟨q1, q2, q3, A, c, (hw.cell (p := ⟨g, _, none⟩) hg hg2).trans c0, (hw.cell (p := ⟨g, _, none⟩) hg hg2).trans c1, (hw.cell (p := ⟨g, _, none⟩) hg hg2).trans c2, fun t => (hw.frozen ⟨g, t, none⟩ hg).trans (fz t), ob.win hw (by omega)⟩
theorem OCs.mono {B C B' : Nat} {w : World} {P : Option Addr} {cs : List Chk} (h : OCs B C w P cs) (hB : B' ≤ B) : OCs B' C w P cs := by
  rcases h with h | ⟨g, o, lo, hi, h1, h2, h3, h4, h5, h6⟩
  · exact .inl h
  · refine .inr ⟨g, o, lo, hi, h1, by omega, h3, h4, h5, fun j hj => ?_⟩
    obtain ⟨q1, q2⟩ := h6 j hj
    exact ⟨by omega, q2⟩
/-- Three cells of block g written, from offset x on. -/
def put3 (w : World) (g x : Nat) (a b c : Value) : World := ((w.setCell ⟨g, x, none⟩ a).setCell ⟨g, x + 1, none⟩ b).setCell ⟨g, x + 2, none⟩ c
theorem put3_size (w : World) (g x : Nat) (a b c : Value) : (put3 w g x a b c).heap.size = w.heap.size := by simp [put3, World.setCell]
theorem put3_win (w : World) (g x : Nat) (a b c : Value) : Win g (g + 1) w (put3 w g x a b c) :=
  ⟨rfl, rfl, rfl, by rw [put3_size]; exact Nat.le_refl _, fun k _ ho => by
    unfold put3
    rw [Below.heap_setCell _ _ _ _ (by show k ≠ g; omega), Below.heap_setCell _ _ _ _ (by show k ≠ g; omega), Below.heap_setCell _ _ _ _ (by show k ≠ g; omega)], fun _ _ => by simp [put3]⟩
theorem put3_other (w : World) (g x : Nat) (a b c : Value) (y : Nat) (h : y < x ∨ x + 3 ≤ y) : (put3 w g x a b c).cell? ⟨g, y, none⟩ = w.cell? ⟨g, y, none⟩ := by
  unfold put3
  rw [World.cell?_setCell_other _ _ _ _ (fun e => by injection e with _ e2; omega), World.cell?_setCell_other _ _ _ _ (fun e => by injection e with _ e2; omega), World.cell?_setCell_other _ _ _ _ (fun e => by injection e with _ e2; omega)]
theorem put3_at {w : World} {g x : Nat} {a b c : Value} (h : ∀ t, t < 3 → ∃ v, w.cell? ⟨g, x + t, none⟩ = some v) :
    (put3 w g x a b c).cell? ⟨g, x, none⟩ = some a ∧ (put3 w g x a b c).cell? ⟨g, x + 1, none⟩ = some b ∧ (put3 w g x a b c).cell? ⟨g, x + 2, none⟩ = some c := by
  obtain ⟨v0, h0⟩ := h 0 (by omega)
  obtain ⟨v1, h1⟩ := h 1 (by omega)
  obtain ⟨v2, h2⟩ := h 2 (by omega)
  have s0 : (w.setCell ⟨g, x, none⟩ a).cell? ⟨g, x, none⟩ = some a := World.cell?_setCell_same _ _ _ h0
  have s1 : (w.setCell ⟨g, x, none⟩ a).cell? ⟨g, x + 1, none⟩ = some v1 := (World.cell?_setCell_other _ _ _ _ (fun e => by injection e with _ e2; omega)).trans h1
  have s2 : (w.setCell ⟨g, x, none⟩ a).cell? ⟨g, x + 2, none⟩ = some v2 := (World.cell?_setCell_other _ _ _ _ (fun e => by injection e with _ e2; omega)).trans h2
  have t0 : ((w.setCell ⟨g, x, none⟩ a).setCell ⟨g, x + 1, none⟩ b).cell? ⟨g, x, none⟩ = some a := (World.cell?_setCell_other _ _ _ _ (fun e => by injection e with _ e2; omega)).trans s0
  have t1 : ((w.setCell ⟨g, x, none⟩ a).setCell ⟨g, x + 1, none⟩ b).cell? ⟨g, x + 1, none⟩ = some b := World.cell?_setCell_same _ _ _ s1
  have t2 : ((w.setCell ⟨g, x, none⟩ a).setCell ⟨g, x + 1, none⟩ b).cell? ⟨g, x + 2, none⟩ = some v2 := (World.cell?_setCell_other _ _ _ _ (fun e => by injection e with _ e2; omega)).trans s2
  exact ⟨(World.cell?_setCell_other _ _ _ _ (fun e => by injection e with _ e2; omega)).trans t0, (World.cell?_setCell_other _ _ _ _ (fun e => by injection e with _ e2; omega)).trans t1, World.cell?_setCell_same _ _ _ t2⟩
theorem infoCk : (Tryd.prog.info? 49).map (fun i => (i.zero, i.size, i.bytes)) = some (some (.agg #[.int .i64 0, .int .i64 0, .slice none 0 0]), 3, 40) := by kernel_rfl
/-- The list while it is filled: j chunks are there. -/
structure FillC (w0 : World) (g : Nat) (cs : List Chk) (j : Nat) (lo hi : Nat → Nat) (W : World) : Prop where
  old : Below w0.heap.size w0 W
  hg : w0.heap.size ≤ g
  hgl : g < W.heap.size
  room : ∀ x, x < cs.length * 3 → ∃ v, W.cell? ⟨g, x, none⟩ = some v
  fz : ∀ t, W.frozen? ⟨g, t, none⟩ = false
  ord : ∀ i k, i < k → k < j → hi i ≤ lo k
  top : ∀ i, i < j → hi i ≤ W.heap.size
  at_ : ∀ i (hj : i < cs.length), i < j → w0.heap.size ≤ lo i ∧ g < lo i ∧ ∃ A c, W.cell? ⟨g, i * 3, none⟩ = some (.int .i64 cs[i].kind) ∧ W.cell? ⟨g, i * 3 + 1, none⟩ = some (.int .i64 cs[i].flags) ∧ W.cell? ⟨g, i * 3 + 2, none⟩ = some (.slice A cs[i].body.length c) ∧ Ob (lo i) (hi i) W A cs[i].body
theorem FillC.done {w0 W : World} {g : Nat} {cs : List Chk} {lo hi : Nat → Nat} (h : FillC w0 g cs cs.length lo hi W) : OCs w0.heap.size W.heap.size W (some ⟨g, 0, none⟩) cs :=
  .inr ⟨g, 0, lo, hi, rfl, h.hg, h.hgl, Nat.le_refl _, fun i j hij hj => h.ord i j hij hj, fun j hj => by
    obtain ⟨q1, q2, A, c, c0, c1, c2, ob⟩ := h.at_ j hj hj
    simp only [Nat.zero_add]
    exact ⟨q1, h.top j hj, .inl q2, A, c, c0, c1, c2, h.fz, ob⟩⟩
/-- One chunk more. -/
theorem FillC.step {w0 W W1 : World} {g j : Nat} {cs : List Chk} {lo hi : Nat → Nat} {A : Option Addr} {c : Nat} (h : FillC w0 g cs j lo hi W) (hj : j < cs.length) (hb : Below W.heap.size W W1) (ho : Ob W.heap.size W1.heap.size W1 A cs[j].body) :
    ∃ lo' hi', FillC w0 g cs (j + 1) lo' hi' (put3 W1 g (j * 3) (.int .i64 cs[j].kind) (.int .i64 cs[j].flags) (.slice A cs[j].body.length c)) := by
  have hw := put3_win W1 g (j * 3) (.int .i64 cs[j].kind) (.int .i64 cs[j].flags) (.slice A cs[j].body.length c)
  have hroom : ∀ x, x < cs.length * 3 → ∃ v, W1.cell? ⟨g, x, none⟩ = some v := fun x hx => by
    obtain ⟨v, hv⟩ := h.room x hx
    exact ⟨v, (hb.cell (p := ⟨g, x, none⟩) h.hgl).trans hv⟩
  have hat := put3_at (w := W1) (g := g) (x := j * 3) (a := .int .i64 cs[j].kind) (b := .int .i64 cs[j].flags) (c := .slice A cs[j].body.length c) (fun t ht => hroom (j * 3 + t) (by omega))
  have hz := put3_size W1 g (j * 3) (.int .i64 cs[j].kind) (.int .i64 cs[j].flags) (.slice A cs[j].body.length c)
  refine ⟨fun i => if i = j then W.heap.size else lo i, fun i => if i = j then W1.heap.size else hi i, ?_⟩
  refine ⟨(btr h.old hb).trans ((hw.below (Nat.le_of_lt (Nat.lt_of_lt_of_le h.hgl hb.size))).mono h.hg), h.hg, by rw [hz]; exact Nat.lt_of_lt_of_le h.hgl hb.size, fun x hx => ?_, fun t => ?_, fun i k hik hk => ?_, fun i hi' => ?_, fun i hi' hij => ?_⟩
  · by_cases hx2 : x < j * 3 ∨ j * 3 + 3 ≤ x
    · rw [put3_other _ _ _ _ _ _ _ hx2]; exact hroom x hx
    · obtain rfl | rfl | rfl : x = j * 3 ∨ x = j * 3 + 1 ∨ x = j * 3 + 2 := by omega
      · exact ⟨_, hat.1⟩
      · exact ⟨_, hat.2.1⟩
      · exact ⟨_, hat.2.2⟩
  · have := (hb.frozen (p := ⟨g, t, none⟩) h.hgl).trans (h.fz t)
    simpa [put3] using this
  · by_cases e : k = j
    · subst e
      simp only [if_true]
      rw [if_neg (by omega)]
      exact h.top i (by omega)
    · simp only [if_neg e]
      rw [if_neg (by omega)]
      exact h.ord i k hik (by omega)
  · rw [hz]
    by_cases e : i = j
    · simp [e]
    · simp only [if_neg e]
      exact Nat.le_trans (h.top i (by omega)) hb.size
  · by_cases e : i = j
    · subst e
      simp only [if_true]
      exact ⟨h.old.size, h.hgl, A, c, hat.1, hat.2.1, hat.2.2, ho.win hw (.inr (by have := h.hgl; omega))⟩
    · simp only [if_neg e]
      obtain ⟨q1, q2, A', c', c0, c1, c2, ob⟩ := h.at_ i hi' (by omega)
      refine ⟨q1, q2, A', c', ?_, ?_, ?_, (ob.below hb).win hw (.inr (by omega))⟩
      · rw [put3_other _ _ _ _ _ _ _ (by omega)]; exact (hb.cell (p := ⟨g, _, none⟩) h.hgl).trans c0
      · rw [put3_other _ _ _ _ _ _ _ (by omega)]; exact (hb.cell (p := ⟨g, _, none⟩) h.hgl).trans c1
      · rw [put3_other _ _ _ _ _ _ _ (by omega)]; exact (hb.cell (p := ⟨g, _, none⟩) h.hgl).trans c2
end Go.Proofs.YtepcikghhnfacaaDoor

/- A byte turned by a mask. Nothing of the program. -/
namespace Go.Proofs.YtepcikghhnfacaaDoor
open Go.RowKit Go.Deep

def byteX (m : Nat) (x : Int) : Int := ((x.toNat ^^^ m : Nat) : Int)
theorem byteX_byte {m : Nat} (hm : m < 256) {x : Int} (h0 : 0 ≤ x) (h1 : x ≤ 255) : 0 ≤ byteX m x ∧ byteX m x ≤ 255 := by
  have : x.toNat ^^^ m < 256 := Nat.xor_lt_two_pow (n := 8) (by omega) hm
  unfold byteX
  omega
theorem byteX_ne {m : Nat} (hm : 0 < m) {x : Int} (h0 : 0 ≤ x) : byteX m x ≠ x := by
  intro h
  have h2 : x.toNat ^^^ m = x.toNat ^^^ 0 := by unfold byteX at h; rw [Nat.xor_zero]; omega
  have := xor_can' h2
  omega
theorem u8_xor (x m : Int) (h0 : 0 ≤ x) (h1 : x ≤ 255) (h2 : 0 ≤ m) (h3 : m ≤ 255) : bits .xor .u8 x m = byteX m.toNat x := by
  obtain ⟨a, rfl⟩ : ∃ a : Nat, x = a := ⟨x.toNat, by omega⟩
  obtain ⟨b, rfl⟩ : ∃ b : Nat, m = b := ⟨m.toNat, by omega⟩
  have hx : a ^^^ b < 256 := Nat.xor_lt_two_pow (n := 8) (by omega) (by omega)
  show IntKind.u8.wrap ((BitVec.ofInt 8 (a : Int) ^^^ BitVec.ofInt 8 (b : Int)).toNat : Int) = _
  have e1 : (BitVec.ofInt 8 (a : Int)).toNat = a := by simp; omega
  have e2 : (BitVec.ofInt 8 (b : Int)).toNat = b := by simp; omega
  rw [BitVec.toNat_xor, e1, e2]
  unfold byteX IntKind.wrap
  simp only [Int.toNat_natCast]
  simp [IntKind.bits, IntKind.signed]
  omega
/-- Turned at one place a list is another one. -/
theorem turn_ne {l : List Int} (hl : Bytes l) (k m : Nat) (hk : k < l.length) (hm : 0 < m) : l.set k (byteX m (l.getD k 0)) ≠ l := by
  intro h
  have h2 := congrArg (fun x => x.getD k 0) h
  simp [List.getD_eq_getElem?_getD, hk] at h2
  have hb := hl.get k
  rw [List.getD_eq_getElem?_getD] at hb
  simp [hk] at hb
  exact byteX_ne hm hb.1 h2
end Go.Proofs.YtepcikghhnfacaaDoor
