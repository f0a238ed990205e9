/- Chapter 9: SackOf, the model's and the program's. (WRITTEN BY tools/sack9.py) -/
import Derived.Test.YtncnibkojneejaaS9M
import Derived.Test.YtncnibkojneejaaTySack
import Derived.Test.YtncnibkojneejaaRows7
namespace Go.Proofs.Ytncnibkojneejaa
open Go.RowKit Go.Deep

def gapZ (g : GapM) : List Int := [g.From, g.To]
/-- One more distance: the last gap grows, or a new one begins. -/
def gst (q : List GapM) (d : Int) : List GapM := match q.getLast? with | none => [⟨d, d⟩] | some x => if x.To + 1 = d then q.dropLast ++ [⟨x.From, d⟩] else q ++ [⟨d, d⟩]
theorem gst_nil (d : Int) : gst [] d = [⟨d, d⟩] := rfl
theorem gst_yes (p : List GapM) (x : GapM) (d : Int) (h : x.To + 1 = d) : gst (p ++ [x]) d = p ++ [⟨x.From, d⟩] := by simp [gst, h]
theorem gst_no (p : List GapM) (x : GapM) (d : Int) (h : ¬ x.To + 1 = d) : gst (p ++ [x]) d = p ++ [x] ++ [⟨d, d⟩] := by simp [gst, h]
def gq (cum : Int) (l : List Int) : List GapM := (l.map (gapV cum)).foldl gst []
theorem gq_succ (cum : Int) {l : List Int} {j : Nat} (hj : j < l.length) : gq cum (l.take (j + 1)) = gst (gq cum (l.take j)) (gapV cum (l.getD j 0)) := by
  rw [getD_at hj, List.take_add_one, List.getElem?_eq_getElem hj]
  show ((l.take j ++ [l[j]]).map (gapV cum)).foldl gst [] = _
  rw [List.map_append, List.foldl_append]
  rfl
theorem snoc {α : Type} (q : List α) : q = [] ∨ ∃ p x, q = p ++ [x] := by
  rcases List.eq_nil_or_concat q with h | ⟨p, x, h⟩
  · exact .inl h
  · exact .inr ⟨p, x, by simpa using h⟩
def gOk (q : List GapM) : Prop := ∀ x ∈ q, (0 ≤ x.From ∧ x.From ≤ 4294967295) ∧ 0 ≤ x.To ∧ x.To ≤ 4294967295
theorem gst_ok {q : List GapM} {d : Int} (h : gOk q) (h0 : 0 ≤ d ∧ d ≤ 4294967295) : gOk (gst q d) ∧ (gst q d).length ≤ q.length + 1 := by
  rcases snoc q with rfl | ⟨p, x, rfl⟩
  · rw [gst_nil]; exact ⟨fun y hy => by simp at hy; subst hy; exact ⟨h0, h0⟩, by simp⟩
  · by_cases e : x.To + 1 = d
    · rw [gst_yes _ _ _ e]
      refine ⟨fun y hy => ?_, by simp⟩
      rcases List.mem_append.1 hy with hy | hy
      · exact h y (by simp [hy])
      · simp at hy; subst hy; exact ⟨(h x (by simp)).1, h0⟩
    · rw [gst_no _ _ _ e]
      refine ⟨fun y hy => ?_, by simp⟩
      rcases List.mem_append.1 hy with hy | hy
      · exact h y hy
      · simp at hy; subst hy; exact ⟨h0, h0⟩
theorem gq_ok (cum : Int) (l : List Int) : ∀ j, j ≤ l.length → gOk (gq cum (l.take j)) ∧ (gq cum (l.take j)).length ≤ j := by
  intro j
  induction j with
  | zero => intro _; exact ⟨fun x hx => by simp [gq] at hx, by simp [gq]⟩
  | succ j ih =>
    intro hj
    obtain ⟨h1, h2⟩ := ih (by omega)
    rw [gq_succ cum (by omega)]
    have h3 := gst_ok h1 (gapV_rng cum (l.getD j 0))
    exact ⟨h3.1, by omega⟩
def gcs (q : List GapM) : List Value := (q.flatMap gapZ).map (Value.int .i64)
theorem gcs_app (p q : List GapM) : gcs (p ++ q) = gcs p ++ gcs q := by simp [gcs]
theorem gcs_one (x : GapM) : gcs [x] = [.int .i64 x.From, .int .i64 x.To] := rfl
theorem gcs_len (q : List GapM) : (gcs q).length = q.length * 2 := by
  induction q with
  | nil => rfl
  | cons x q ih => rw [show x :: q = [x] ++ q from rfl, gcs_app, List.length_append, ih]; simp [gcs_one]; omega
theorem gcs_set (p : List GapM) (x : GapM) (d : Int) : (gcs (p ++ [x])).set (p.length * 2 + 1) (.int .i64 d) = gcs (p ++ [⟨x.From, d⟩]) := by
  rw [gcs_app, gcs_app, List.set_append_right _ _ (by rw [gcs_len]; omega), gcs_len, show p.length * 2 + 1 - p.length * 2 = 1 by omega]
  rfl
theorem gcs_to (p : List GapM) (x : GapM) : (gcs (p ++ [x]))[p.length * 2 + 1]? = some (.int .i64 x.To) := by
  rw [gcs_app, List.getElem?_append_right (by rw [gcs_len]; omega), gcs_len, show p.length * 2 + 1 - p.length * 2 = 1 by omega]
  rfl
theorem st_gap (q : List GapM) : st_Gap q = .st q.length ((q.flatMap gapZ).map V.int) := by
  have e : q.flatMap GapM.vs = (q.flatMap gapZ).map V.int := by rw [List.map_flatMap]; rfl
  show V.st q.length (q.flatMap GapM.vs) = _
  rw [e]
theorem OwL.ints9 {w : World} {g : Nat} : ∀ (zs : List Int) (o : Nat) (S : Fp), (∀ k, k < zs.length → w.cell? ⟨g, o + k, none⟩ = some (.int .i64 (zs.getD k 0)) ∧ w.frozen? ⟨g, o + k, none⟩ = false ∧ S g (o + k)) → OwL w (zs.map V.int) S g o
  | [], _, _, _ => by simp only [List.map_nil]; unfold OwL; trivial
  | x :: zs, o, S, h => by
    rw [List.map_cons]
    unfold OwL
    obtain ⟨h1, h2, h3⟩ := h 0 (by simp)
    refine ⟨_, fun _ _ => False, fun a b => (a = g ∧ o + 1 ≤ b) ∧ S a b, h1, h2, h3, by unfold Ow; rfl, ?_, fun _ _ q => q.elim, fun _ _ q => q.2, fun q => q, fun q => by have := q.1.2; omega, fun _ _ q => q.elim⟩
    refine OwL.ints9 zs (o + 1) _ (fun k hk => ?_)
    obtain ⟨q1, q2, q3⟩ := h (k + 1) (by simpa using hk)
    rw [show o + 1 + k = o + (k + 1) by omega]
    exact ⟨by simpa using q1, q2, ⟨rfl, by omega⟩, q3⟩
theorem own_st9 {w : World} {B n : Nat} {e : TypeId} {v : Value} {zs : List Int} (h : w.ownsRow B e 2 v n (zs.map (Value.int .i64))) (hl : zs.length = n * 2) : OwV B w.heap.size w (.st n (zs.map V.int)) v := by
  obtain ⟨_, ⟨rfl, hn⟩ | ⟨g, cap, cur, rfl, hg, hblk, hnc, hm, hcs, htake⟩⟩ := h
  · subst hn
    have : zs = [] := List.eq_nil_of_length_eq_zero (by omega)
    subst this
    refine ⟨Nat.le_refl _, ?_⟩
    unfold Ow
    exact ⟨none, 0, rfl, ⟨Nat.le_refl _, by simp⟩, .inl ⟨rfl, rfl⟩⟩
  · have K : Blk w g e cur := hblk
    unfold maxLen at hm
    refine ⟨Nat.le_refl _, ?_⟩
    unfold Ow
    refine ⟨_, cap, rfl, ⟨hnc, by omega⟩, .inr ⟨g, 0, rfl, K.lt, OwL.ints9 zs 0 _ (fun k hk => ⟨?_, K.frozen _, hg, K.lt⟩)⟩⟩
    rw [Nat.zero_add, K.cell]
    have h1 : (cur.toList.take (n * 2))[k]? = (zs.map (Value.int .i64))[k]? := by rw [htake]
    rw [List.getElem?_take_of_lt (by omega)] at h1
    simpa [hk, List.getD_eq_getElem?_getD] using h1
theorem info_Gap9 : (Try.prog.info? 36).map (fun i => (i.zero, i.size, i.bytes)) = some (some (.agg #[.int .i64 0, .int .i64 0]), 2, 16) := by kernel_rfl
theorem wpList_append_Gap {w : World} {ops : Array Oper} {rest : List Oper} {o : Oper} {a : Act} {Q : Exit → Act → World → Prop} (hgd : o.guard = none) (s x : Operand)
    (ho : o.op = .call { callee := .builtin .append, args := #[s, x], argTypes := #[29, 29] })
    (base : Nat) (v : Value) (n : Nat) (xs : List Value) (hs : a.eval s = v) (hown : w.ownsRow base 36 2 v n xs)
    (q t : Nat) (k f : Int) (hx : a.eval x = .slice (some ⟨q, 0, none⟩) 1 1) (hq : Blk w q t #[.int .i64 k, .int .i64 f]) (hm : n ≤ 90000) (hbase : base ≤ w.heap.size)
    (h : ∀ v' w', w'.ownsRow base 36 2 v' (n + 1) (xs ++ [.int .i64 k, .int .i64 f]) → w.grownBy w' v.ownBlock → wpList Try.prog ops Q rest (a.put o.dst v') w') : wpList Try.prog ops Q (o :: rest) a w :=
  wpList_append_row hgd s x Try.underlying29 info_Gap9 rfl (by decide) (by decide) ho base v n xs hs hown q 1 1 [.int .i64 k, .int .i64 f] hx rfl
    (fun j u hu => by rw [hq.cell, ← hu]; simp) (fun u hu => by simp only [List.mem_cons, List.not_mem_nil, or_false] at hu; rcases hu with rfl | rfl <;> rfl) (by omega) hbase (fun v' w' h1 h2 _ => h v' w' h1 h2)
/-- The acknowledgement under way: its box in the block gs, its gaps in blocks above it, all below gs as it was. -/
structure GI (ww : World) (gs : Nat) (cum : Int) (q : List GapM) (v : Value) (W : World) : Prop where
  box : Blk W gs 31 #[.int .i64 cum, v]
  row : W.ownsRow (gs + 1) 36 2 v q.length (gcs q)
  bel : Below gs ww W
theorem GI.below {u W W' : World} {gs : Nat} {cum : Int} {q : List GapM} {v : Value} (h : GI u gs cum q v W) (hb : Below W.heap.size W W') : GI u gs cum q v W' := ⟨h.box.below hb, own_below0 h.row hb, h.bel.trans (hb.mono (Nat.le_of_lt h.box.lt))⟩
theorem GI.sh {u W : World} {gs : Nat} {cum : Int} {q : List GapM} {v : Value} (h : GI u gs cum q v W) : ∃ (A : Option Addr) (c : Nat), v = .slice A q.length c := own_lenT h.row
theorem GI.cel {u W : World} {gs : Nat} {cum : Int} {q : List GapM} {v : Value} (h : GI u gs cum q v W) {p : Addr} (hp : p.block < gs) : W.cell? p = u.cell? p := h.bel.cell hp
/-- The last gap's cells. -/
theorem GI.last {u W : World} {gs : Nat} {cum : Int} {p : List GapM} {x : GapM} {v : Value} (h : GI u gs cum (p ++ [x]) v W) :
    ∃ g c, v = .slice (some ⟨g, 0, none⟩) (p.length + 1) c ∧ gs + 1 ≤ g ∧ g < W.heap.size ∧ W.cell? ⟨g, p.length * 2 + 1, none⟩ = some (.int .i64 x.To) ∧ W.frozen? ⟨g, p.length * 2 + 1, none⟩ = false := by
  obtain ⟨A, c, e, hc⟩ := own_cellsT h.row
  have hl : (p ++ [x]).length = p.length + 1 := by simp
  rw [hl] at e hc
  obtain ⟨g, rfl, h1, h2, h3⟩ := hc (p.length * 2 + 1) (by omega)
  refine ⟨g, c, e, h1, h2, (h3 _ (by omega)).trans (gcs_to p x), ?_⟩
  obtain ⟨_, ⟨_, h0⟩ | ⟨g', cap, cur, e2, _, hb, _⟩⟩ := h.row
  · rw [hl] at h0; omega
  · rw [e] at e2
    injection e2 with e2
    injection e2 with e2
    injection e2 with e2
    subst e2
    exact Blk.frozen hb _
theorem GI.put {u W : World} {gs g c : Nat} {cum : Int} {p : List GapM} {x : GapM} (h : GI u gs cum (p ++ [x]) (.slice (some ⟨g, 0, none⟩) (p.length + 1) c) W) (hg : gs + 1 ≤ g) (d : Int) :
    GI u gs cum (p ++ [⟨x.From, d⟩]) (.slice (some ⟨g, 0, none⟩) (p.length + 1) c) (W.setCell ⟨g, p.length * 2 + 1, none⟩ (.int .i64 d)) := by
  have hb : Below (gs + 1) W (W.setCell ⟨g, p.length * 2 + 1, none⟩ (.int .i64 d)) := (Below.refl (gs + 1) W).setCell (p := ⟨g, _, none⟩) hg _
  refine ⟨(hb.block gs (Nat.lt_succ_self _)).trans h.box, ?_, h.bel.trans (hb.mono (Nat.le_succ _))⟩
  have hl : (p ++ [x]).length = p.length + 1 := by simp
  have h2 := h.row
  rw [hl] at h2
  have := (h2.stored (p.length * 2 + 1) (.int .i64 d)).1
  rw [gcs_set] at this
  simpa using this
theorem GI.app {u W W2 : World} {gs : Nat} {cum : Int} {q : List GapM} {v v2 : Value} (h : GI u gs cum q v W) (d : Int) (ho : W2.ownsRow (gs + 1) 36 2 v2 (q.length + 1) (gcs q ++ [.int .i64 d, .int .i64 d])) (hg : W.grownBy W2 v.ownBlock) :
    Blk W2 gs 31 #[.int .i64 cum, v] ∧ GI u gs cum (q ++ [⟨d, d⟩]) v2 (W2.setCell ⟨gs, 1, none⟩ v2) := by
  have hb : Below (gs + 1) W W2 := (Below.refl (gs + 1) W).grown hg h.box.lt (fun x hx => (h.row.lt x hx).1)
  have K : Blk W2 gs 31 #[.int .i64 cum, v] := (hb.block gs (Nat.lt_succ_self _)).trans h.box
  refine ⟨K, K.put 1 v2, ?_, (h.bel.trans (hb.mono (Nat.le_succ _))).setCell (p := ⟨gs, 1, none⟩) (Nat.le_refl _) _⟩
  have := ownsRow_setCell_below ho (a := ⟨gs, 1, none⟩) (Nat.lt_succ_self _) v2
  rw [gcs_app, gcs_one, List.length_append]
  exact this
theorem GI.own {u W : World} {gs : Nat} {cum : Int} {q : List GapM} {v : Value} (h : GI u gs cum q v W) : OwV (gs + 1) W.heap.size W (st_Gap q) v := by
  rw [st_gap]
  refine own_st9 h.row ?_
  have := gcs_len q
  simpa [gcs] using this
def skR (y : RecvM) : SackResultM := if rvF y = 0 then ⟨0, y.Cum, gq y.Cum y.Beyond⟩ else ⟨rvF y, 0, []⟩
theorem skR_ok {y : RecvM} (h : rvF y = 0) : (skR y).vs = [.int 0, .int y.Cum, st_Gap (gq y.Cum y.Beyond)] := by unfold skR; rw [if_pos h]; rfl
theorem skR_no {y : RecvM} (h : rvF y ≠ 0) : (skR y).vs = [.int (rvF y), .int 0, .st 0 []] := by unfold skR; rw [if_neg h]; rfl
theorem byF_words : ∀ {l : List Int} {cum a : Int}, byF cum a l = 0 → ∀ t ∈ l, wB t = true
  | [], _, _, _, t, ht => by simp at ht
  | x :: l, cum, a, h, t, ht => by
    unfold byF at h
    cases hx : wB x
    · rw [hx] at h; simp at h
    · rw [hx, if_pos rfl] at h
      rcases List.mem_cons.1 ht with rfl | ht
      · exact hx
      · split at h
        · split at h
          · exact byF_words h t ht
          · cases h
        · cases h
theorem rv_beyond {y : RecvM} (h : rvF y = 0) : wB y.Cum = true ∧ (∀ t ∈ y.Beyond, wB t = true) ∧ y.Beyond.length ≤ 16 := by
  obtain ⟨h1, h2, h3, _, _⟩ := rvF_zero h
  refine ⟨h1, byF_words h3, ?_⟩
  by_cases e : 16 < y.Beyond.length
  · rw [rvN_b e] at h2; cases h2
  · omega
theorem skR_len (y : RecvM) (_ : WfA y.vs) (_ : tot.totL y.vs ≤ 1048576) : vcA (skR y).vs ≤ 1000000000 := by
  by_cases h : rvF y = 0
  · have h1 := (gq_ok y.Cum y.Beyond y.Beyond.length (Nat.le_refl _)).2
    rw [List.take_length] at h1
    have h2 := (rv_beyond h).2.2
    rw [skR_ok h]
    have h3 := ccS_Gap (gq y.Cum y.Beyond)
    have h4 : tot.totL ((gq y.Cum y.Beyond).flatMap GapM.vs) = 0 := by
      generalize gq y.Cum y.Beyond = q
      induction q with
      | nil => rfl
      | cons x q ih => rw [List.flatMap_cons]; show tot (.int x.From) + (tot (.int x.To) + tot.totL (q.flatMap GapM.vs)) = 0; rw [ih]; rfl
    simp only [vcA, vc, st_Gap]
    simp only [cc]
    omega
  · rw [skR_no h]; exact (show (0 : Nat) ≤ 1000000000 by omega)
set_option maxRecDepth 100000 in
set_option maxHeartbeats 8000000 in
theorem l9Sack_any (g o : Nat) (y : RecvM) (w : World) (h : RdL w y.vs g o) (hc : wB y.Cum = true) (hb : ∀ t ∈ y.Beyond, wB t = true) (hl : y.Beyond.length ≤ 16) :
    Calls Try.prog 32 #[.pointer (some ⟨g, o, none⟩)] w (Res w [.int y.Cum, st_Gap (gq y.Cum y.Beyond)]) := by
  obtain ⟨A1, c1, A2, c2, A3, c3, m0, m1, m2, m3, i1, _, _⟩ := mem_Recv h
  have hg : g < w.heap.size := World.block_lt_of_cell? _ _ m0
  obtain ⟨B1, d1, e1, _, hI⟩ := i1.is_out
  injection e1 with e1 _ _
  subst e1
  have HI := hidH hI
  have HWC := hidH (wB_is hc)
  have HBW := hidH hb
  have hlm : (y.Beyond.length : Int) ≤ 1000 := by omega
  clear h i1 m2 m3 hb hc hI
  have Z := Blk.new w 31 #[.int .i64 0, .slice none 0 0]
  have K := Blk.new (w.alloc (.cells #[.int .i64 0, .slice none 0 0] 31)) 31 #[.int .i64 y.Cum, .slice none 0 0]
  have B2 := bal (bal (Below.refl w.heap.size w) (.cells #[.int .i64 0, .slice none 0 0] 31)) (.cells #[.int .i64 y.Cum, .slice none 0 0] 31)
  replace Z := Z.alloc (.cells #[.int .i64 y.Cum, .slice none 0 0] 31)
  rw [World.size_alloc] at K
  obtain ⟨ww, hww⟩ : ∃ W, (w.alloc (.cells #[.int .i64 0, .slice none 0 0] 31)).alloc (.cells #[.int .i64 y.Cum, .slice none 0 0] 31) = W := ⟨_, rfl⟩
  rw [hww] at K Z B2
  obtain ⟨gs, hgs⟩ : ∃ g, w.heap.size + 1 = g := ⟨_, rfl⟩
  rw [hgs] at K
  have G0 : GI ww gs y.Cum [] (.slice none 0 0) ww := ⟨K, World.ownsRow_nil _ _ _ _, Below.refl _ _⟩
  have HG0 := hidH G0
  have HW := hidH hww
  have HZ := hidH Z
  have HB := hidH B2
  have HM0 := hidH ((B2.cell (p := ⟨g, o, none⟩) hg).trans m0)
  have HM1 := hidH ((B2.cell (p := ⟨g, o + 1, none⟩) hg).trans m1)
  have hgg : g < gs := by omega
  have HGS := hidH hgs
  clear hww Z K B2 G0 m1 hgs
  go_enter Try.func32, Try.ntmps32
  go_wp2_with fail
  rw [HW.out, HGS.out]
  clear m0
  go_wp2
  go_loopw [4] (fun i wr => ∃ (j : Nat) (v : Value), j ≤ y.Beyond.length ∧ i = .int .i64 j ∧ GI ww gs y.Cum (gq y.Cum (y.Beyond.take j)) v wr) (fun i _ => y.Beyond.length - (intOf i).toNat)
  case atStart => exact ⟨0, _, by omega, rfl, HG0.out⟩
  case round =>
    obtain ⟨j, v, hj, rfl, hG⟩ := hrel
    have m0 := (hG.cel (p := ⟨g, o, none⟩) hgg).trans HM0.out
    have m1 := (hG.cel (p := ⟨g, o + 1, none⟩) hgg).trans HM1.out
    by_cases hlt : j < y.Beyond.length
    case neg =>
      obtain rfl : j = y.Beyond.length := by omega
      rw [List.take_length] at hG
      have HF := hidH hG
      obtain ⟨A0, c0, e0⟩ := hG.sh
      subst e0
      have b0 := hG.box.cell 0
      have b1 := hG.box.cell 1
      have z0 := (hG.cel (p := ⟨w.heap.size, 0, none⟩) (by have := HGS.out; show w.heap.size < gs; omega)).trans (HZ.out.cell 0)
      have z1 := (hG.cel (p := ⟨w.heap.size, 1, none⟩) (by have := HGS.out; show w.heap.size < gs; omega)).trans (HZ.out.cell 1)
      have ZB := hidH (show Blk wr w.heap.size 31 _ from (hG.bel.block w.heap.size (by have := HGS.out; omega)).trans HZ.out)
      have zf0 := ZB.out.frozen 0
      have zf1 := ZB.out.frozen 1
      have zl := ZB.out.lt
      have bl := hG.box.lt
      simp only [List.getElem?_toArray, List.getElem?_cons_succ, List.getElem?_cons_zero] at b0 b1 z0 z1
      clear hG hlt hj
      go_wp2
      have hgs2 := HGS.out
      have OW : ∀ a b : Value, OwN w.heap.size ((wr.setCell ⟨w.heap.size, 0, none⟩ a).setCell ⟨w.heap.size, 1, none⟩ b).heap.size ((wr.setCell ⟨w.heap.size, 0, none⟩ a).setCell ⟨w.heap.size, 1, none⟩ b) [.int y.Cum, st_Gap (gq y.Cum y.Beyond)] [.int .i64 y.Cum, .slice A0 (gq y.Cum y.Beyond).length c0] := fun a b =>
        OwN.int _ (OwN.cons (C := ((wr.setCell ⟨w.heap.size, 0, none⟩ a).setCell ⟨w.heap.size, 1, none⟩ b).heap.size) (((HF.out.own.win (set_win _ w.heap.size 0 a) (.inr (by omega))).win (set_win _ w.heap.size 1 b) (.inr (by omega))).mono (by omega) (by simp [World.setCell]) (Nat.le_refl _)) (OwN.nil (Nat.le_refl _)) (by simp [World.setCell]; omega) (Nat.le_refl _))
      exact bodyPost_ret (v := .agg #[.int .i64 y.Cum, .slice A0 (gq y.Cum y.Beyond).length c0]) (by simp [results, Try.results32, go_sem, z0, z1]) rfl ⟨_, rfl, OW _ _, bst (bst (HB.out.trans (HF.out.bel.mono (by omega))) (Nat.le_refl _) _) (Nat.le_refl _) _⟩
    have hj0 : (0 : Int) ≤ (j : Int) := by omega
    have hj1 : (j : Int) < (y.Beyond.length : Int) := by omega
    obtain ⟨b, off, eA, hb, hcell⟩ := is_cell HI.out hlt
    subst eA
    replace hcell := (hG.cel (p := ⟨b, off + j, none⟩) (by have := HGS.out; show b < gs; omega)).trans ((HB.out.cell (p := ⟨b, off + j, none⟩) hb).trans hcell)
    have hwt := wB_is (HBW.out _ (show y.Beyond.getD j 0 ∈ y.Beyond from getD_mem hlt))
    have HQS := hidH (gq_succ y.Cum hlt)
    obtain ⟨t, ht⟩ : ∃ t, y.Beyond.getD j 0 = t := ⟨_, rfl⟩
    rw [ht] at hcell hwt HQS
    have HGP := hidH (fun (W : World) => (l1Gap_any y.Cum t W HWC.out.1 HWC.out.2 hwt.1 hwt.2).mono (fun e w' h => And.intro h.1 (show w' = W from h.2.symm)))
    rw [← gapV_yes HWC.out hwt] at HGP
    have hdr := gapV_rng y.Cum t
    obtain ⟨d, hd⟩ : ∃ d, gapV y.Cum t = d := ⟨_, rfl⟩
    rw [hd] at HGP HQS hdr
    have hd0 := hdr.1
    have hd1 := hdr.2
    have hgo := gq_ok y.Cum y.Beyond j hj
    obtain ⟨q, hq⟩ : ∃ q, gq y.Cum (y.Beyond.take j) = q := ⟨_, rfl⟩
    rw [hq] at hgo hG HQS
    have HGOK := hidH hgo.1
    have HGL := hidH (show q.length ≤ 16 by omega)
    have HG := hidH hG
    clear ht hwt hd hdr hgo hq hG
    go_wp2
    go_quiet ((go_at_call 38; exact Calls.quiet_of_same (HGP.out _)))
    obtain ⟨wq, hwq⟩ : ∃ W, wr.drewN nq = W := ⟨_, rfl⟩
    rw [hwq]
    replace HG := hidH (show GI ww gs y.Cum q v wq from hwq ▸ HG.out.below (below_drewN (Below.refl _ _) nq))
    clear hwq m0 m1 hcell HGP
    have HGI := HG.out
    rcases snoc q with hq0 | ⟨p, x, hq0⟩
    · subst hq0
      obtain ⟨A0, c0, e0⟩ := HGI.sh
      subst e0
      have b0 := HGI.box.cell 0
      have b1 := HGI.box.cell 1
      simp only [List.getElem?_toArray, List.getElem?_cons_succ, List.getElem?_cons_zero, List.length_nil] at b0 b1
      have bl := HGI.box.lt
      have bf := HGI.box.frozen 1
      have HN := hidH (show gq y.Cum (y.Beyond.take (j + 1)) = [⟨d, d⟩] by rw [HQS.out, gst_nil])
      clear HGI
      have KQ := hidH (Blk.new wq 36 #[.int .i64 d, .int .i64 d])
      have HG2 := hidH (HG.out.below (bal (Below.refl _ _) (.cells #[.int .i64 d, .int .i64 d] 36)))
      have HR := hidH (show (wq.alloc (.cells #[.int .i64 d, .int .i64 d] 36)).ownsRow (gs + 1) 36 2 (.slice A0 0 c0) 0 (gcs []) from HG2.out.row)
      go_wp2_with (at_builtin; go_loud (refine wpList_append_Gap rfl _ _ rfl (gs + 1) _ 0 _ rfl HR.out wq.heap.size _ d d rfl KQ.out (by have := HGL.out; first | omega | (simp at this ⊢; omega)) (by have := HG2.out.box.lt; omega) ?_))
      intro v2 w2 o2 hg2
      obtain ⟨K2, G2⟩ := HG2.out.app d (by simpa using o2) hg2
      obtain ⟨A9, c9, e9⟩ := own_lenT o2
      subst e9
      have HGN := hidH G2
      have y0 := K2.cell 0
      have y1 := K2.cell 1
      have f1 := K2.frozen 1
      have kl := K2.lt
      simp only [List.getElem?_toArray, List.getElem?_cons_succ, List.getElem?_cons_zero] at y0 y1
      clear o2 hg2 K2 G2 KQ HG2 HR
      go_wp2
      go_roundw
      case rel => exact ⟨j + 1, _, by omega, by go_num, by rw [HN.out]; exact HGN.out⟩
      case measure => simp [intOf]; omega
    · subst hq0
      obtain ⟨gr, c0, e0, hgr, hlr, cto, fto⟩ := HGI.last
      subst e0
      have b0 := HGI.box.cell 0
      have b1 := HGI.box.cell 1
      simp only [List.getElem?_toArray, List.getElem?_cons_succ, List.getElem?_cons_zero] at b0 b1
      have bl := HGI.box.lt
      have bf := HGI.box.frozen 1
      have hx := HGOK.out x (by simp)
      have hx0 := hx.2.1
      have hx1 := hx.2.2
      have hpl : (p.length : Int) ≤ 1000 := by have := HGL.out; simp at this; omega
      have hp0 : (0 : Int) ≤ (p.length : Int) := by omega
      have hp1 : (p.length : Int) < (p.length : Int) + 1 := by omega
      have hp2 : (0 : Int) < (p.length : Int) + 1 := by omega
      have hne : gr ≠ gs := by omega
      obtain ⟨tt, htt⟩ : ∃ z, x.To = z := ⟨_, rfl⟩
      rw [htt] at cto hx0 hx1
      clear HGI hx
      by_cases e : tt + 1 = d
      · have e1 : (tt + 1 == d) = true := by rw [beq_iff_eq]; exact e
        have HN := hidH (show gq y.Cum (y.Beyond.take (j + 1)) = p ++ [⟨x.From, d⟩] by rw [HQS.out, gst_yes _ _ _ (by rw [htt]; exact e)])
        have HP := hidH (HG.out.put hgr d)
        clear e htt
        go_wp2
        go_roundw
        case rel => exact ⟨j + 1, _, by omega, by go_num, by rw [HN.out]; exact HP.out⟩
        case measure => simp [intOf]; omega
      · have e1 : (tt + 1 == d) = false := by rw [beq_eq_false_iff_ne]; exact e
        have HN := hidH (show gq y.Cum (y.Beyond.take (j + 1)) = p ++ [x] ++ [⟨d, d⟩] by rw [HQS.out, gst_no _ _ _ (by rw [htt]; exact e)])
        clear e htt
        have KQ := hidH (Blk.new wq 36 #[.int .i64 d, .int .i64 d])
        have HG2 := hidH (HG.out.below (bal (Below.refl _ _) (.cells #[.int .i64 d, .int .i64 d] 36)))
        have HR := hidH (show (wq.alloc (.cells #[.int .i64 d, .int .i64 d] 36)).ownsRow (gs + 1) 36 2 (.slice (some ⟨gr, 0, none⟩) (p.length + 1) c0) (p.length + 1) (gcs (p ++ [x])) from by
          have h := HG2.out.row
          rwa [show (p ++ [x]).length = p.length + 1 by simp] at h)
        go_wp2_with (at_builtin; go_loud (refine wpList_append_Gap rfl _ _ rfl (gs + 1) _ (p.length + 1) _ rfl HR.out wq.heap.size _ d d rfl KQ.out (by have := HGL.out; first | omega | (simp at this ⊢; omega)) (by have := HG2.out.box.lt; omega) ?_))
        intro v2 w2 o2 hg2
        obtain ⟨K2, G2⟩ := HG2.out.app d (by simpa using o2) hg2
        obtain ⟨A9, c9, e9⟩ := own_lenT o2
        subst e9
        have HGN := hidH G2
        have y0 := K2.cell 0
        have y1 := K2.cell 1
        have f1 := K2.frozen 1
        have kl := K2.lt
        simp only [List.getElem?_toArray, List.getElem?_cons_succ, List.getElem?_cons_zero] at y0 y1
        clear o2 hg2 K2 G2 KQ HG2 HR
        go_wp2
        go_roundw
        case rel => exact ⟨j + 1, _, by omega, by go_num, by rw [HN.out]; exact HGN.out⟩
        case measure => simp [intOf]; omega
end Go.Proofs.Ytncnibkojneejaa
