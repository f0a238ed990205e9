import Derived.Test.YthljdikcpdokdaaNa9
import Derived.Test.YthljdikcpdokdaaS10F
import Derived.Test.YthljdikcpdokdaaNb0
import Derived.Test.YthljdikcpdokdaaNa6

/- Chapter 10: what an acknowledgement takes: on lists, and on what is owned. -/
namespace Go.Proofs.Ythljdikcpdokdaa
open Go.RowKit Go.Deep

def camB (gs : List GapM) (d : Int) : Bool := decide (d < 1) || gs.any (fun g => inB d g.From g.To)
def tkD (ak cu : Int) (x : SendItemM) : Int := gapV ak x.Data_Tsn - gapV ak cu
/-- Whether the acknowledgement k reports the item x of the sender y. -/
def tkB (y : SendM) (k : SackM) (x : SendItemM) : Bool := camB k.Gaps (tkD y.Acked k.Cum x)
def lastTo (gs : List GapM) : Int := match gs.getLast? with | none => 0 | some g => g.To
def topV (y : SendM) (k : SackM) : Int := gapV y.Acked k.Cum + lastTo k.Gaps
theorem lastTo_at {gs : List GapM} {n : Nat} (h : n + 1 = gs.length) : lastTo gs = (gs[n]'(by omega)).To := by
  have h0 : gs ≠ [] := by intro e; rw [e] at h; simp at h
  have e : gs.getLast? = some (gs.getLast h0) := List.getLast?_eq_some_getLast h0
  unfold lastTo
  rw [e, List.getLast_eq_getElem]
  show (gs[gs.length - 1]'_).To = _
  have : gs.length - 1 = n := by omega
  simp only [this]
/-- TakeSack's answer. -/
def tsR (y : SendM) (k : SackM) : SendResultM :=
  if sdF y = 0 then (if ksF k = 0 then (if 2147483647 < gapV y.Acked k.Cum then ⟨0, y.Next, y.Acked, y.Seqs, y.Items, [], true⟩ else
    if gapV y.Acked y.Next ≤ topV y k then ⟨8, 0, 0, [], [], [], false⟩ else ⟨0, y.Next, k.Cum, y.Seqs, y.Items.filter (fun x => !tkB y k x), (y.Items.filter (tkB y k)).map SendItemM.d, false⟩)
    else ⟨ksF k, 0, 0, [], [], [], false⟩) else ⟨sdF y, 0, 0, [], [], [], false⟩
theorem tsR_sd {y : SendM} {k : SackM} (h : sdF y ≠ 0) : tsR y k = ⟨sdF y, 0, 0, [], [], [], false⟩ := if_neg h
theorem tsR_ks {y : SendM} {k : SackM} (h : sdF y = 0) (h2 : ksF k ≠ 0) : tsR y k = ⟨ksF k, 0, 0, [], [], [], false⟩ := by unfold tsR; rw [if_pos h, if_neg h2]
theorem tsR_old {y : SendM} {k : SackM} (h : sdF y = 0) (h2 : ksF k = 0) (h3 : 2147483647 < gapV y.Acked k.Cum) : tsR y k = ⟨0, y.Next, y.Acked, y.Seqs, y.Items, [], true⟩ := by unfold tsR; rw [if_pos h, if_pos h2, if_pos h3]
theorem tsR_st {y : SendM} {k : SackM} (h : sdF y = 0) (h2 : ksF k = 0) (h3 : ¬ 2147483647 < gapV y.Acked k.Cum) (h4 : gapV y.Acked y.Next ≤ topV y k) : tsR y k = ⟨8, 0, 0, [], [], [], false⟩ := by unfold tsR; rw [if_pos h, if_pos h2, if_neg h3, if_pos h4]
theorem tsR_ok {y : SendM} {k : SackM} (h : sdF y = 0) (h2 : ksF k = 0) (h3 : ¬ 2147483647 < gapV y.Acked k.Cum) (h4 : ¬ gapV y.Acked y.Next ≤ topV y k) : tsR y k = ⟨0, y.Next, k.Cum, y.Seqs, y.Items.filter (fun x => !tkB y k x), (y.Items.filter (tkB y k)).map SendItemM.d, false⟩ := by unfold tsR; rw [if_pos h, if_pos h2, if_neg h3, if_neg h4]
theorem okGaps_mem : ∀ {r : List GapM} {a : Int}, okGaps a r = true → ∀ x ∈ r, (2 ≤ x.From ∧ x.From ≤ x.To) ∧ (2 ≤ x.To ∧ x.To ≤ 65535)
  | [], _, _, _, hx => by simp at hx
  | y :: r, a, h, x, hx => by
    rw [okGaps_cons, Bool.and_eq_true, Bool.and_eq_true, Bool.and_eq_true] at h
    rcases List.mem_cons.1 hx with rfl | hx
    · have h1 := h.1.1.1
      have h2 := h.1.1.2
      simp [inB] at h1 h2
      exact ⟨h1, h2⟩
    · exact okGaps_mem h.2 x hx
theorem lastTo_rng {k : SackM} (h : ksF k = 0) : 0 ≤ lastTo k.Gaps ∧ lastTo k.Gaps ≤ 65535 := by
  have h2 := okGaps_mem (ksF_zero h).2.2
  rcases Nat.eq_zero_or_pos k.Gaps.length with h0 | h0
  · rw [List.length_eq_zero_iff.1 h0]; simp [lastTo]
  · obtain ⟨n, hn⟩ : ∃ n, n + 1 = k.Gaps.length := ⟨k.Gaps.length - 1, by omega⟩
    rw [lastTo_at hn]
    have := h2 _ (List.getElem_mem (show n < k.Gaps.length by omega))
    omega
theorem el_Gap {w : World} {r : List GapM} {v : Value} (h : Rd w (st_Gap r) v) {j : Nat} (hj : j < r.length) :
    ∃ g o c, v = .slice (some ⟨g, o, none⟩) r.length c ∧ g < w.heap.size ∧ w.cell? ⟨g, o + j * 2, none⟩ = some (.int .i64 r[j].From) ∧ w.cell? ⟨g, o + j * 2 + 1, none⟩ = some (.int .i64 r[j].To) := by
  obtain ⟨g, o, c, e, hg, R⟩ := Rd.row (f := GapM.vs) (W := 2) (fun _ => rfl) h hj
  exact ⟨g, o, c, e, hg, mem_Gap (RdL.of_at R)⟩
theorem any_take {gs : List GapM} {d : Int} {j : Nat} (hj : j < gs.length) : (gs.take (j + 1)).any (fun g => inB d g.From g.To) = ((gs.take j).any (fun g => inB d g.From g.To) || inB d gs[j].From gs[j].To) := by
  rw [List.take_add_one, List.getElem?_eq_getElem hj, List.any_append]
  simp

/-! What is owned, taken apart in two. -/
theorem RowI_e : ∀ {r : List SendItemM} {ks : List (Value × Nat × Nat)}, (RowI r ks).map RowF.e = RowZ (r.map SendItemM.d) ks
  | [], _ => by simp [RowI, RowZ]
  | _ :: _, [] => by simp [RowI, RowZ]
  | x :: r, k :: ks => by
    have ih := RowI_e (r := r) (ks := ks)
    simp only [RowI, RowZ, List.zipWith_cons_cons, List.map_cons] at ih ⊢
    rw [ih]
    rfl
theorem RTs.perm {B : Nat} {w : World} {q q' : List RowE} (h : RTs B w q) (p : q'.Perm q) : RTs B w q' :=
  ⟨fun x hx => h.1 x (p.mem_iff.1 hx), (p.pairwise_iff (fun {_ _} h => Or.symm h)).2 h.2⟩
theorem RTs.split {B : Nat} {w : World} {a b : List RowE} (h : RTs B w (a ++ b)) : RTs B w a ∧ RTs B w b ∧ ∀ x ∈ a, ∀ y ∈ b, x.hi ≤ y.lo ∨ y.hi ≤ x.lo := by
  obtain ⟨p1, p2, p3⟩ := List.pairwise_append.1 h.2
  exact ⟨⟨fun x hx => h.1 x (List.mem_append_left _ hx), p1⟩, ⟨fun x hx => h.1 x (List.mem_append_right _ hx), p2⟩, p3⟩
def lfI (P : SendItemM → Bool) (r : List SendItemM) (j : Nat) : List SendItemM := (r.take j).filter (fun x => !P x)
def gnI (P : SendItemM → Bool) (r : List SendItemM) (j : Nat) : List SendItemM := (r.take j).filter P
/-- j items told apart: those left and those gone; where their bytes lie. -/
structure LKp (P : SendItemM → Bool) (r : List SendItemM) (ks : List (Value × Nat × Nat)) (j : Nat) (kl kg : List (Value × Nat × Nat)) : Prop where
  ll : kl.length = (lfI P r j).length
  lg : kg.length = (gnI P r j).length
  perm : (RowZ ((lfI P r j).map SendItemM.d) kl ++ RowZ ((gnI P r j).map SendItemM.d) kg).Perm (RowZ ((r.take j).map SendItemM.d) (ks.take j))
theorem LKp.start (P : SendItemM → Bool) (r : List SendItemM) (ks : List (Value × Nat × Nat)) : LKp P r ks 0 [] [] := ⟨by simp [lfI], by simp [gnI], by simp [lfI, gnI, RowZ]⟩
theorem RowZ.snoc1 {r : List SendItemM} {ks : List (Value × Nat × Nat)} (h : ks.length = r.length) (x : SendItemM) (k : Value × Nat × Nat) : RowZ ((r ++ [x]).map SendItemM.d) (ks ++ [k]) = RowZ (r.map SendItemM.d) ks ++ [daE x.d k.1 k.2.1 k.2.2] := by
  rw [List.map_append]
  exact RowZ.snoc (by rw [List.length_map]; exact h) _ _
section
variable {P : SendItemM → Bool} {r : List SendItemM} {ks kl kg : List (Value × Nat × Nat)} {j : Nat}
theorem lfI_no (hj : j < r.length) (h : P r[j] = true) : lfI P r (j + 1) = lfI P r j := by
  unfold lfI; rw [List.take_add_one, List.getElem?_eq_getElem hj, List.filter_append]; simp [h]
theorem lfI_yes (hj : j < r.length) (h : P r[j] = false) : lfI P r (j + 1) = lfI P r j ++ [r[j]] := by
  unfold lfI; rw [List.take_add_one, List.getElem?_eq_getElem hj, List.filter_append]; simp [h]
theorem gnI_no (hj : j < r.length) (h : P r[j] = false) : gnI P r (j + 1) = gnI P r j := by
  unfold gnI; rw [List.take_add_one, List.getElem?_eq_getElem hj, List.filter_append]; simp [h]
theorem gnI_yes (hj : j < r.length) (h : P r[j] = true) : gnI P r (j + 1) = gnI P r j ++ [r[j]] := by
  unfold gnI; rw [List.take_add_one, List.getElem?_eq_getElem hj, List.filter_append]; simp [h]
theorem rowZ_step (hj : j < r.length) (hk : ks.length = r.length) : RowZ ((r.take (j + 1)).map SendItemM.d) (ks.take (j + 1)) = RowZ ((r.take j).map SendItemM.d) (ks.take j) ++ [daE r[j].d (ks[j]'(by omega)).1 (ks[j]'(by omega)).2.1 (ks[j]'(by omega)).2.2] := by
  have e1 : r.take (j + 1) = r.take j ++ [r[j]] := by rw [List.take_add_one, List.getElem?_eq_getElem hj]; rfl
  have e2 : ks.take (j + 1) = ks.take j ++ [ks[j]'(by omega)] := by rw [List.take_add_one, List.getElem?_eq_getElem (by omega)]; rfl
  rw [e1, e2, RowZ.snoc1 (by rw [List.length_take, List.length_take, hk])]
theorem LKp.gone (h : LKp P r ks j kl kg) (hj : j < r.length) (hk : ks.length = r.length) (hp : P r[j] = true) : LKp P r ks (j + 1) kl (kg ++ [ks[j]'(by omega)]) := by
  refine ⟨by rw [lfI_no hj hp]; exact h.ll, by rw [gnI_yes hj hp, List.length_append, List.length_append, h.lg]; rfl, ?_⟩
  rw [lfI_no hj hp, gnI_yes hj hp, RowZ.snoc1 h.lg, rowZ_step hj hk, ← List.append_assoc]
  exact List.Perm.append_right _ h.perm
theorem LKp.left (h : LKp P r ks j kl kg) (hj : j < r.length) (hk : ks.length = r.length) (hp : P r[j] = false) : LKp P r ks (j + 1) (kl ++ [ks[j]'(by omega)]) kg := by
  refine ⟨by rw [lfI_yes hj hp, List.length_append, List.length_append, h.ll]; rfl, by rw [gnI_no hj hp]; exact h.lg, ?_⟩
  rw [lfI_yes hj hp, gnI_no hj hp, RowZ.snoc1 h.ll, rowZ_step hj hk, List.append_assoc]
  refine (List.Perm.append_left _ List.perm_append_comm).trans ?_
  rw [← List.append_assoc]
  exact List.Perm.append_right _ h.perm
end
theorem lfI_all (P : SendItemM → Bool) (r : List SendItemM) : lfI P r r.length = r.filter (fun x => !P x) := by unfold lfI; rw [List.take_length]
theorem gnI_all (P : SendItemM → Bool) (r : List SendItemM) : gnI P r r.length = r.filter P := by unfold gnI; rw [List.take_length]
/-- At the end: both lists are owned, apart from each other. -/
theorem LKp.fin {P : SendItemM → Bool} {r : List SendItemM} {ks kl kg : List (Value × Nat × Nat)} {B0 : Nat} {W : World} (h : LKp P r ks r.length kl kg) (hk : ks.length = r.length) (hr : RFs B0 W (RowI r ks)) :
    RFs B0 W (RowI (r.filter (fun x => !P x)) kl) ∧ RTs B0 W (RowZ ((r.filter P).map SendItemM.d) kg) ∧ ∀ x ∈ RowI (r.filter (fun x => !P x)) kl, ∀ z ∈ RowZ ((r.filter P).map SendItemM.d) kg, x.hi ≤ z.lo ∨ z.hi ≤ x.lo := by
  have hp := h.perm
  rw [lfI_all, gnI_all, List.take_length, show ks.take r.length = ks by rw [← hk, List.take_length]] at hp
  have h1 : RTs B0 W (RowZ (r.map SendItemM.d) ks) := by rw [← RowI_e]; exact hr
  obtain ⟨a, b, c⟩ := (h1.perm hp).split
  refine ⟨by unfold RFs; rw [RowI_e]; exact a, b, fun x hx z hz => ?_⟩
  have := c x.e (by rw [← RowI_e]; exact List.mem_map_of_mem hx) z hz
  exact this
end Go.Proofs.Ythljdikcpdokdaa

/- Chapter 10: an item as it lies in an owned row; what l10Sack leaves. (WRITTEN BY tools/sack10.py) -/
namespace Go.Proofs.Ythljdikcpdokdaa
open Go.RowKit Go.Deep

theorem flatI_get : ∀ {r : List SendItemM} {ks : List (Value × Nat × Nat)} {j t : Nat} {x : SendItemM} {k : Value × Nat × Nat}, r[j]? = some x → ks[j]? = some k → t < 9 → (flatF (RowI r ks))[j * 9 + t]? = (scs x k.1)[t]?
  | [], _, _, _, _, _, h, _, _ => by simp at h
  | _ :: _, [], _, _, _, _, _, h, _ => by simp at h
  | y :: r, l :: ks, 0, t, x, k, h1, h2, ht => by
    simp at h1 h2
    subst h1 h2
    have e : flatF (RowI (y :: r) (l :: ks)) = scs y l.1 ++ flatF (RowI r ks) := rfl
    rw [e, Nat.zero_mul, Nat.zero_add, List.getElem?_append_left (by simpa [scs] using ht)]
  | y :: r, l :: ks, j + 1, t, x, k, h1, h2, ht => by
    have ih := flatI_get (r := r) (ks := ks) (j := j) (t := t) (by simpa using h1) (by simpa using h2) ht
    have e : flatF (RowI (y :: r) (l :: ks)) = scs y l.1 ++ flatF (RowI r ks) := rfl
    have e9 : (scs y l.1).length = 9 := rfl
    rw [e, List.getElem?_append_right (by omega), e9, show (j + 1) * 9 + t - 9 = j * 9 + t by omega]
    exact ih
/-- An item's cells, as they lie in a row that is owned. -/
theorem SZ.cell9 {W : World} {B0 B : Nat} {v : Value} {r : List SendItemM} {ks : List (Value × Nat × Nat)} (h : SZ W B0 B v r ks) {j : Nat} (hj : j < r.length) : ∃ (g c : Nat) (A9 : Option Addr) (n9 c9 : Nat), v = .slice (some ⟨g, 0, none⟩) r.length c ∧ B ≤ g ∧ g < W.heap.size ∧
    (∃ kj, ks[j]? = some kj ∧ kj.1 = .slice A9 n9 c9) ∧ ∀ t u, (scs r[j] (.slice A9 n9 c9))[t]? = some u → W.cell? ⟨g, j * 9 + t, none⟩ = some u := by
  obtain ⟨A, c, e, hc⟩ := own_cellsT h.row
  obtain ⟨g, e2, hB, hg, hcell⟩ := hc (j * 9) (by omega)
  have hjk : j < ks.length := by rw [h.len]; exact hj
  have hmem : siE r[j] ks[j].1 ks[j].2.1 ks[j].2.2 ∈ RowI r ks := by
    unfold RowI
    rw [List.mem_iff_getElem]
    exact ⟨j, by simp; omega, by simp⟩
  obtain ⟨A9, n9, c9, e9⟩ := (h.rts.mem _ hmem).1.val
  have e9 : ks[j].1 = .slice A9 n9 c9 := e9
  refine ⟨g, c, A9, n9, c9, by rw [e, e2], hB, hg, ⟨ks[j], List.getElem?_eq_getElem hjk, e9⟩, fun t u hu => ?_⟩
  have ht : t < 9 := (List.getElem?_eq_some_iff.1 hu).1
  rw [hcell (j * 9 + t) (by omega), flatI_get (List.getElem?_eq_getElem hj) (List.getElem?_eq_getElem hjk) ht, e9, hu]
/-- What l10Sack leaves: old news, a wrong state, or two lists. -/
def SkR (y : SendM) (k : SackM) (g : Nat) (S : Value) (ks : List (Value × Nat × Nat)) (w : World) (e : Ending) (w' : World) : Prop :=
  (2147483647 < gapV y.Acked k.Cum ∧ e = .returned (.tuple #[.slice none 0 0, .bool true, .int .i64 0]) ∧ ∃ m, w' = w.drewN m) ∨
  (¬ 2147483647 < gapV y.Acked k.Cum ∧ gapV y.Acked y.Next ≤ topV y k ∧ e = .returned (.tuple #[.slice none 0 0, .bool false, .int .i64 8]) ∧ ∃ m, w' = w.drewN m) ∨
  (¬ 2147483647 < gapV y.Acked k.Cum ∧ ¬ gapV y.Acked y.Next ≤ topV y k ∧ ∃ (D I2 : Value) (kl kg : List (Value × Nat × Nat)), e = .returned (.tuple #[D, .bool false, .int .i64 0]) ∧ Blk w' g 47 #[.int .i64 y.Next, .int .i64 k.Cum, S, I2] ∧
    w'.ownsRow w.heap.size 121 9 I2 (y.Items.filter (fun x => !tkB y k x)).length (flatF (RowI (y.Items.filter (fun x => !tkB y k x)) kl)) ∧ w'.ownsRow w.heap.size 69 7 D (y.Items.filter (tkB y k)).length (flatR (RowZ ((y.Items.filter (tkB y k)).map SendItemM.d) kg)) ∧
    LKp (tkB y k) y.Items ks y.Items.length kl kg ∧ Win g (g + 1) w w')
theorem winOfBelow {B C : Nat} {w w' : World} (h : Below w.heap.size w w') : Win B C w w' := ⟨h.os, h.tape, h.output, h.size, fun k hk _ => h.block k hk, fun _ hp => h.frozen hp⟩
section
variable {y : SendM} {k : SackM} {g : Nat} {S : Value} {ks : List (Value × Nat × Nat)} {w w' : World}
theorem SkR.old (h : 2147483647 < gapV y.Acked k.Cum) (hm : ∃ m, w' = w.drewN m) : SkR y k g S ks w (.returned (.tuple #[.slice none 0 0, .bool true, .int .i64 0])) w' := .inl ⟨h, rfl, hm⟩
theorem SkR.st (h : ¬ 2147483647 < gapV y.Acked k.Cum) (h2 : gapV y.Acked y.Next ≤ topV y k) (hm : ∃ m, w' = w.drewN m) : SkR y k g S ks w (.returned (.tuple #[.slice none 0 0, .bool false, .int .i64 8])) w' := .inr (.inl ⟨h, h2, rfl, hm⟩)
theorem SkR.ok {P : SendItemM → Bool} (hP : tkB y k = P) (h : ¬ 2147483647 < gapV y.Acked k.Cum) (h2 : ¬ gapV y.Acked y.Next ≤ topV y k) {D I2 : Value} {kl kg : List (Value × Nat × Nat)} (hb : Blk w' g 47 #[.int .i64 y.Next, .int .i64 k.Cum, S, I2])
    (hl : w'.ownsRow w.heap.size 121 9 I2 (y.Items.filter (fun x => !P x)).length (flatF (RowI (y.Items.filter (fun x => !P x)) kl))) (hg : w'.ownsRow w.heap.size 69 7 D (y.Items.filter P).length (flatR (RowZ ((y.Items.filter P).map SendItemM.d) kg)))
    (hp : LKp P y.Items ks y.Items.length kl kg) (hw : Win g (g + 1) w w') : SkR y k g S ks w (.returned (.tuple #[D, .bool false, .int .i64 0])) w' := by
  subst hP
  exact .inr (.inr ⟨h, h2, D, I2, kl, kg, rfl, hb, hl, hg, hp, hw⟩)
end
end Go.Proofs.Ythljdikcpdokdaa

/- The drawn regions of the program's TakeSack and of its closure. -/
namespace Go.Proofs.Ythljdikcpdokdaa
open Go.RowKit Go.Deep

set_option maxRecDepth 100000 in
set_option maxHeartbeats 1000000 in
theorem regTK1 {Q : Exit → Act → World → Prop} (x4 x5 : Value) (ww : World) (gi oi gk go gp : Nat) (y : SendM) (k : SackM) (A2 A3 A : Option Addr) (c2 c3 c : Nat) (ts gx fr : Int) (p : Bool)
    (hil : gi < ww.heap.size) (hpl : gp < ww.heap.size) (hts : ww.cell? ⟨gi, oi, none⟩ = some (.int .i64 ts)) (hfr : ww.cell? ⟨gp, 0, none⟩ = some (.int .i64 fr)) (HSB : Blk ww go 47 #[.int .i64 y.Next, .int .i64 y.Acked, .slice A2 y.Seqs.length c2, .slice A3 y.Items.length c3]) (HKB : Blk ww gk 31 #[.int .i64 k.Cum, .slice A k.Gaps.length c])
    (hgx : 0 ≤ gx ∧ gx ≤ 4294967295) (hfx : 0 ≤ fr ∧ fr ≤ 4294967295) (DI : ∀ W : World, Calls Try.prog 72 #[.agg #[.int .i64 y.Next, .int .i64 y.Acked, .slice A2 y.Seqs.length c2, .slice A3 y.Items.length c3], .int .i64 ts] W (IntR gx W)) (RP : ∀ W : World, Below ww.heap.size ww W → Calls Try.prog 76 #[.agg #[.int .i64 k.Cum, .slice A k.Gaps.length c], .int .i64 (gx - fr)] W (BolR p W)) {ops : Array Oper}
    (hops : (ops.map fun o => (o.op, o.dst, o.guard)) = #[(Op.load 31 (Operand.tmp 1), some 6, none), (Op.load 47 (Operand.tmp 2), some 7, none), (Op.move (Operand.tmp 0), some 8, none), (Op.nilCheck (Operand.tmp 8), some 9, none), (Op.fieldAddr 121 (Operand.tmp 9) 0, some 10, none), (Op.fieldAddr 69 (Operand.tmp 10) 0, some 11, none), (Op.load 2 (Operand.tmp 11), some 12, none), (Op.call { callee := Callee.value (Operand.func 72), args := #[(Operand.tmp 7), (Operand.tmp 12)], argTypes := #[47, 2] }, some 13, none), (Op.load 2 (Operand.tmp 3), some 14, none), (Op.binOp BinOp.sub 2 (Operand.tmp 13) (Operand.tmp 14) 2, some 15, none), (Op.call { callee := Callee.value (Operand.func 76), args := #[(Operand.tmp 6), (Operand.tmp 15)], argTypes := #[31, 2] }, some 16, none), (Op.assign (Operand.tmp 16), some 5, none)])
    (hdeps : ((List.range 12).all fun i => ((fun i => [[], [], [], [2], [3], [4], [5], [1, 6], [], [7, 8], [0, 9], [10]].getD i []) i).all fun j => ((ops[i]?).map fun o => o.after.any fun e => Region.binds .any e && e.on == j).getD false) = true)
    (hback : ((List.range 12).all fun i => ((ops[i]?).map fun o => o.after.all fun e => decide (e.on < i)).getD false) = true)
    {a0 : Act} {w0 : World} (ha : a0 = { tmps := #[.pointer (some ⟨gi, oi, none⟩), .pointer (some ⟨gk, 0, none⟩), .pointer (some ⟨go, 0, none⟩), .pointer (some ⟨gp, 0, none⟩), x4, x5, undef, undef, undef, undef, undef, undef, undef, undef, undef, undef, undef], defers := [] }) (hO : Below ww.heap.size ww w0)
    (fin : ∀ t6 t7 t8 t9 t10 t11 t12 t13 t14 t15 t16 (W : World), (Below ww.heap.size ww W) → Q .normal { tmps := #[.pointer (some ⟨gi, oi, none⟩), .pointer (some ⟨gk, 0, none⟩), .pointer (some ⟨go, 0, none⟩), .pointer (some ⟨gp, 0, none⟩), x4, .bool p, t6, t7, t8, t9, t10, t11, t12, t13, t14, t15, t16], defers := [] } W) :
    wpAny Try.prog .any ops Q ops.size (Array.replicate ops.size false) a0 w0 := by
  have hn : ops.size = 12 := by have := congrArg Array.size hops; simpa using this
  obtain ⟨J, HJ⟩ : ∃ J : (Nat → Bool) → Act → World → Prop, ∀ dn ac W, J dn ac W ↔ (fun dn ac W => ∃ t6 t7 t8 t9 t10 t11 t12 t13 t14 t15 t16 t5, ac = { tmps := #[.pointer (some ⟨gi, oi, none⟩), .pointer (some ⟨gk, 0, none⟩), .pointer (some ⟨go, 0, none⟩), .pointer (some ⟨gp, 0, none⟩), x4, t5, t6, t7, t8, t9, t10, t11, t12, t13, t14, t15, t16], defers := [] } ∧ (Below ww.heap.size ww W) ∧ (dn 11 = false → t5 = x5) ∧ (dn 0 = true → t6 = .agg #[.int .i64 k.Cum, .slice A k.Gaps.length c]) ∧ (dn 1 = true → t7 = .agg #[.int .i64 y.Next, .int .i64 y.Acked, .slice A2 y.Seqs.length c2, .slice A3 y.Items.length c3]) ∧ (dn 2 = true → t8 = .pointer (some ⟨gi, oi, none⟩)) ∧ (dn 3 = true → t9 = .pointer (some ⟨gi, oi, none⟩)) ∧ (dn 4 = true → t10 = .pointer (some ⟨gi, oi, none⟩)) ∧ (dn 5 = true → t11 = .pointer (some ⟨gi, oi, none⟩)) ∧ (dn 6 = true → t12 = .int .i64 ts) ∧ (dn 7 = true → t13 = .int .i64 gx) ∧ (dn 8 = true → t14 = .int .i64 fr) ∧ (dn 9 = true → t15 = .int .i64 (gx - fr)) ∧ (dn 10 = true → t16 = .bool p) ∧ (dn 11 = true → t5 = .bool p)) dn ac W := ⟨_, fun _ _ _ => Iff.rfl⟩
  replace HJ := hidH HJ
  refine region_inv 12 (fun i => [[], [], [], [2], [3], [4], [5], [1, 6], [], [7, 8], [0, 9], [10]].getD i []) J hn hdeps hback ?start ?step ?fin
  case start => exact (HJ.out _ _ _).2 ⟨undef, undef, undef, undef, undef, undef, undef, undef, undef, undef, undef, x5, ha, hO, fun _ => rfl, fun h => by simp at h, fun h => by simp at h, fun h => by simp at h, fun h => by simp at h, fun h => by simp at h, fun h => by simp at h, fun h => by simp at h, fun h => by simp at h, fun h => by simp at h, fun h => by simp at h, fun h => by simp at h, fun h => by simp at h⟩
  all_goals clear ha hO
  case step =>
    clear fin hdeps hback
    intro i hi dn ac W hJ hdn hdep
    obtain ⟨t6, t7, t8, t9, t10, t11, t12, t13, t14, t15, t16, t5, rfl, hO, o11, h0, h1, h2, h3, h4, h5, h6, h7, h8, h9, h10, h11⟩ := (HJ.out _ _ _).1 hJ
    clear hJ
    match i, hi with
    | 0, _ =>
      obtain ⟨ty, ps, af, ho⟩ := op_lit hops (i := 0) (op := Op.load 31 (Operand.tmp 1)) (dst := some 6) (g := none) rfl
      refine wpOp_lit ho (fun j b h => by cases h) ?_
      clear hops hdep ho
      replace h1 := hidH h1
      replace h2 := hidH h2
      replace h3 := hidH h3
      replace h4 := hidH h4
      replace h5 := hidH h5
      replace h6 := hidH h6
      replace h7 := hidH h7
      replace h8 := hidH h8
      replace h9 := hidH h9
      replace h10 := hidH h10
      replace h11 := hidH h11
      replace o11 := hidH o11
      have hb := Below.refl W.heap.size W
      have KQ := HKB.below hO
      have q0 := KQ.cell 0
      have q1 := KQ.cell 1
      simp only [List.getElem?_toArray, List.getElem?_cons_succ, List.getElem?_cons_zero] at q0 q1
      have gq := KQ.lt
      go_wp2
      exact (HJ.out _ _ _).2 ⟨_, _, _, _, _, _, _, _, _, _, _, _, rfl, btr hO hb, o11.out, fun _ => rfl, h1.out, h2.out, h3.out, h4.out, h5.out, h6.out, h7.out, h8.out, h9.out, h10.out, h11.out⟩
    | 1, _ =>
      obtain ⟨ty, ps, af, ho⟩ := op_lit hops (i := 1) (op := Op.load 47 (Operand.tmp 2)) (dst := some 7) (g := none) rfl
      refine wpOp_lit ho (fun j b h => by cases h) ?_
      clear hops hdep ho
      replace h0 := hidH h0
      replace h2 := hidH h2
      replace h3 := hidH h3
      replace h4 := hidH h4
      replace h5 := hidH h5
      replace h6 := hidH h6
      replace h7 := hidH h7
      replace h8 := hidH h8
      replace h9 := hidH h9
      replace h10 := hidH h10
      replace h11 := hidH h11
      replace o11 := hidH o11
      have hb := Below.refl W.heap.size W
      have KQ := HSB.below hO
      have q0 := KQ.cell 0
      have q1 := KQ.cell 1
      have q2 := KQ.cell 2
      have q3 := KQ.cell 3
      simp only [List.getElem?_toArray, List.getElem?_cons_succ, List.getElem?_cons_zero] at q0 q1 q2 q3
      have gq := KQ.lt
      go_wp2
      exact (HJ.out _ _ _).2 ⟨_, _, _, _, _, _, _, _, _, _, _, _, rfl, btr hO hb, o11.out, h0.out, fun _ => rfl, h2.out, h3.out, h4.out, h5.out, h6.out, h7.out, h8.out, h9.out, h10.out, h11.out⟩
    | 2, _ =>
      obtain ⟨ty, ps, af, ho⟩ := op_lit hops (i := 2) (op := Op.move (Operand.tmp 0)) (dst := some 8) (g := none) rfl
      refine wpOp_lit ho (fun j b h => by cases h) ?_
      clear hops hdep ho
      replace h0 := hidH h0
      replace h1 := hidH h1
      replace h3 := hidH h3
      replace h4 := hidH h4
      replace h5 := hidH h5
      replace h6 := hidH h6
      replace h7 := hidH h7
      replace h8 := hidH h8
      replace h9 := hidH h9
      replace h10 := hidH h10
      replace h11 := hidH h11
      replace o11 := hidH o11
      go_wp2
      exact (HJ.out _ _ _).2 ⟨_, _, _, _, _, _, _, _, _, _, _, _, rfl, hO, o11.out, h0.out, h1.out, fun _ => rfl, h3.out, h4.out, h5.out, h6.out, h7.out, h8.out, h9.out, h10.out, h11.out⟩
    | 3, _ =>
      obtain ⟨ty, ps, af, ho⟩ := op_lit hops (i := 3) (op := Op.nilCheck (Operand.tmp 8)) (dst := some 9) (g := none) rfl
      obtain rfl := h2 (hdep 2 (by simp))
      refine wpOp_lit ho (fun j b h => by cases h) ?_
      clear hops hdep ho
      replace h0 := hidH h0
      replace h1 := hidH h1
      replace h2 := hidH h2
      replace h4 := hidH h4
      replace h5 := hidH h5
      replace h6 := hidH h6
      replace h7 := hidH h7
      replace h8 := hidH h8
      replace h9 := hidH h9
      replace h10 := hidH h10
      replace h11 := hidH h11
      replace o11 := hidH o11
      go_wp2
      exact (HJ.out _ _ _).2 ⟨_, _, _, _, _, _, _, _, _, _, _, _, rfl, hO, o11.out, h0.out, h1.out, fun _ => rfl, fun _ => rfl, h4.out, h5.out, h6.out, h7.out, h8.out, h9.out, h10.out, h11.out⟩
    | 4, _ =>
      obtain ⟨ty, ps, af, ho⟩ := op_lit hops (i := 4) (op := Op.fieldAddr 121 (Operand.tmp 9) 0) (dst := some 10) (g := none) rfl
      obtain rfl := h3 (hdep 3 (by simp))
      refine wpOp_lit ho (fun j b h => by cases h) ?_
      clear hops hdep ho
      replace h0 := hidH h0
      replace h1 := hidH h1
      replace h2 := hidH h2
      replace h3 := hidH h3
      replace h5 := hidH h5
      replace h6 := hidH h6
      replace h7 := hidH h7
      replace h8 := hidH h8
      replace h9 := hidH h9
      replace h10 := hidH h10
      replace h11 := hidH h11
      replace o11 := hidH o11
      go_wp2
      exact (HJ.out _ _ _).2 ⟨_, _, _, _, _, _, _, _, _, _, _, _, rfl, hO, o11.out, h0.out, h1.out, h2.out, fun _ => rfl, fun _ => rfl, h5.out, h6.out, h7.out, h8.out, h9.out, h10.out, h11.out⟩
    | 5, _ =>
      obtain ⟨ty, ps, af, ho⟩ := op_lit hops (i := 5) (op := Op.fieldAddr 69 (Operand.tmp 10) 0) (dst := some 11) (g := none) rfl
      obtain rfl := h4 (hdep 4 (by simp))
      refine wpOp_lit ho (fun j b h => by cases h) ?_
      clear hops hdep ho
      replace h0 := hidH h0
      replace h1 := hidH h1
      replace h2 := hidH h2
      replace h3 := hidH h3
      replace h4 := hidH h4
      replace h6 := hidH h6
      replace h7 := hidH h7
      replace h8 := hidH h8
      replace h9 := hidH h9
      replace h10 := hidH h10
      replace h11 := hidH h11
      replace o11 := hidH o11
      go_wp2
      exact (HJ.out _ _ _).2 ⟨_, _, _, _, _, _, _, _, _, _, _, _, rfl, hO, o11.out, h0.out, h1.out, h2.out, h3.out, fun _ => rfl, fun _ => rfl, h6.out, h7.out, h8.out, h9.out, h10.out, h11.out⟩
    | 6, _ =>
      obtain ⟨ty, ps, af, ho⟩ := op_lit hops (i := 6) (op := Op.load 2 (Operand.tmp 11)) (dst := some 12) (g := none) rfl
      obtain rfl := h5 (hdep 5 (by simp))
      refine wpOp_lit ho (fun j b h => by cases h) ?_
      clear hops hdep ho
      replace h0 := hidH h0
      replace h1 := hidH h1
      replace h2 := hidH h2
      replace h3 := hidH h3
      replace h4 := hidH h4
      replace h5 := hidH h5
      replace h7 := hidH h7
      replace h8 := hidH h8
      replace h9 := hidH h9
      replace h10 := hidH h10
      replace h11 := hidH h11
      replace o11 := hidH o11
      have hb := Below.refl W.heap.size W
      have q := (hO.cell (p := ⟨gi, oi, none⟩) hil).trans hts
      go_wp2
      exact (HJ.out _ _ _).2 ⟨_, _, _, _, _, _, _, _, _, _, _, _, rfl, btr hO hb, o11.out, h0.out, h1.out, h2.out, h3.out, h4.out, fun _ => rfl, fun _ => rfl, h7.out, h8.out, h9.out, h10.out, h11.out⟩
    | 7, _ =>
      obtain ⟨ty, ps, af, ho⟩ := op_lit hops (i := 7) (op := Op.call { callee := Callee.value (Operand.func 72), args := #[(Operand.tmp 7), (Operand.tmp 12)], argTypes := #[47, 2] }) (dst := some 13) (g := none) rfl
      obtain rfl := h1 (hdep 1 (by simp))
      obtain rfl := h6 (hdep 6 (by simp))
      refine wpOp_lit ho (fun j b h => by cases h) ?_
      clear hops hdep ho
      replace h0 := hidH h0
      replace h1 := hidH h1
      replace h2 := hidH h2
      replace h3 := hidH h3
      replace h4 := hidH h4
      replace h5 := hidH h5
      replace h6 := hidH h6
      replace h8 := hidH h8
      replace h9 := hidH h9
      replace h10 := hidH h10
      replace h11 := hidH h11
      replace o11 := hidH o11
      go_wp2_with fail
      refine (DI W).mono ?_
      rintro e w9 ⟨rfl, hb⟩
      go_wp2
      exact (HJ.out _ _ _).2 ⟨_, _, _, _, _, _, _, _, _, _, _, _, rfl, btr hO hb, o11.out, h0.out, fun _ => rfl, h2.out, h3.out, h4.out, h5.out, fun _ => rfl, fun _ => rfl, h8.out, h9.out, h10.out, h11.out⟩
    | 8, _ =>
      obtain ⟨ty, ps, af, ho⟩ := op_lit hops (i := 8) (op := Op.load 2 (Operand.tmp 3)) (dst := some 14) (g := none) rfl
      refine wpOp_lit ho (fun j b h => by cases h) ?_
      clear hops hdep ho
      replace h0 := hidH h0
      replace h1 := hidH h1
      replace h2 := hidH h2
      replace h3 := hidH h3
      replace h4 := hidH h4
      replace h5 := hidH h5
      replace h6 := hidH h6
      replace h7 := hidH h7
      replace h9 := hidH h9
      replace h10 := hidH h10
      replace h11 := hidH h11
      replace o11 := hidH o11
      have hb := Below.refl W.heap.size W
      have q := (hO.cell (p := ⟨gp, 0, none⟩) hpl).trans hfr
      go_wp2
      exact (HJ.out _ _ _).2 ⟨_, _, _, _, _, _, _, _, _, _, _, _, rfl, btr hO hb, o11.out, h0.out, h1.out, h2.out, h3.out, h4.out, h5.out, h6.out, h7.out, fun _ => rfl, h9.out, h10.out, h11.out⟩
    | 9, _ =>
      obtain ⟨ty, ps, af, ho⟩ := op_lit hops (i := 9) (op := Op.binOp BinOp.sub 2 (Operand.tmp 13) (Operand.tmp 14) 2) (dst := some 15) (g := none) rfl
      obtain rfl := h7 (hdep 7 (by simp))
      obtain rfl := h8 (hdep 8 (by simp))
      refine wpOp_lit ho (fun j b h => by cases h) ?_
      clear hops hdep ho
      replace h0 := hidH h0
      replace h1 := hidH h1
      replace h2 := hidH h2
      replace h3 := hidH h3
      replace h4 := hidH h4
      replace h5 := hidH h5
      replace h6 := hidH h6
      replace h7 := hidH h7
      replace h8 := hidH h8
      replace h10 := hidH h10
      replace h11 := hidH h11
      replace o11 := hidH o11
      go_wp2
      exact (HJ.out _ _ _).2 ⟨_, _, _, _, _, _, _, _, _, _, _, _, rfl, hO, o11.out, h0.out, h1.out, h2.out, h3.out, h4.out, h5.out, h6.out, fun _ => rfl, fun _ => rfl, fun _ => rfl, h10.out, h11.out⟩
    | 10, _ =>
      obtain ⟨ty, ps, af, ho⟩ := op_lit hops (i := 10) (op := Op.call { callee := Callee.value (Operand.func 76), args := #[(Operand.tmp 6), (Operand.tmp 15)], argTypes := #[31, 2] }) (dst := some 16) (g := none) rfl
      obtain rfl := h0 (hdep 0 (by simp))
      obtain rfl := h9 (hdep 9 (by simp))
      refine wpOp_lit ho (fun j b h => by cases h) ?_
      clear hops hdep ho
      replace h0 := hidH h0
      replace h1 := hidH h1
      replace h2 := hidH h2
      replace h3 := hidH h3
      replace h4 := hidH h4
      replace h5 := hidH h5
      replace h6 := hidH h6
      replace h7 := hidH h7
      replace h8 := hidH h8
      replace h9 := hidH h9
      replace h11 := hidH h11
      replace o11 := hidH o11
      go_wp2_with fail
      refine (RP W hO).mono ?_
      rintro e w9 ⟨rfl, hb⟩
      go_wp2
      exact (HJ.out _ _ _).2 ⟨_, _, _, _, _, _, _, _, _, _, _, _, rfl, btr hO hb, o11.out, fun _ => rfl, h1.out, h2.out, h3.out, h4.out, h5.out, h6.out, h7.out, h8.out, fun _ => rfl, fun _ => rfl, h11.out⟩
    | 11, _ =>
      obtain ⟨ty, ps, af, ho⟩ := op_lit hops (i := 11) (op := Op.assign (Operand.tmp 16)) (dst := some 5) (g := none) rfl
      obtain rfl := h10 (hdep 10 (by simp))
      obtain rfl := o11 hdn
      refine wpOp_lit ho (fun j b h => by cases h) ?_
      clear hops hdep ho
      replace h0 := hidH h0
      replace h1 := hidH h1
      replace h2 := hidH h2
      replace h3 := hidH h3
      replace h4 := hidH h4
      replace h5 := hidH h5
      replace h6 := hidH h6
      replace h7 := hidH h7
      replace h8 := hidH h8
      replace h9 := hidH h9
      replace h10 := hidH h10
      go_wp2
      exact (HJ.out _ _ _).2 ⟨_, _, _, _, _, _, _, _, _, _, _, _, rfl, hO, (fun h => by simp at h), h0.out, h1.out, h2.out, h3.out, h4.out, h5.out, h6.out, h7.out, h8.out, h9.out, fun _ => rfl, fun _ => rfl⟩
    | n + 12, h => omega
  case fin =>
    clear hops hdeps hback
    rintro dn ac W hJ hall
    obtain ⟨t6, t7, t8, t9, t10, t11, t12, t13, t14, t15, t16, t5, rfl, hO, o11, h0, h1, h2, h3, h4, h5, h6, h7, h8, h9, h10, h11⟩ := (HJ.out _ _ _).1 hJ
    obtain rfl := h11 (hall 11 (by omega))
    exact fin _ _ _ _ _ _ _ _ _ _ _ W hO
set_option maxRecDepth 100000 in
set_option maxHeartbeats 1000000 in
theorem regTK11 {Q : Exit → Act → World → Prop} (x0 x1 x2 x4 x5 x6 x8 x9 x10 x11 x12 x13 x14 x15 x16 x17 x18 x19 x20 x21 x22 x23 x24 x25 x26 x27 x28 x29 x30 x31 x32 x33 x34 x35 : Value) (ww : World) (gk go : Nat) (y : SendM) (k : SackM) (A2 A3 A : Option Addr) (c2 c3 c : Nat) (tp en : Int) (z : Bool)
    (hz : decide (en ≤ tp) = z) (HSB : Blk ww go 47 #[.int .i64 y.Next, .int .i64 y.Acked, .slice A2 y.Seqs.length c2, .slice A3 y.Items.length c3]) (HKB : Blk ww gk 31 #[.int .i64 k.Cum, .slice A k.Gaps.length c])
    (RE : ∀ W : World, Below ww.heap.size ww W → Calls Try.prog 73 #[.agg #[.int .i64 y.Next, .int .i64 y.Acked, .slice A2 y.Seqs.length c2, .slice A3 y.Items.length c3], .agg #[.int .i64 k.Cum, .slice A k.Gaps.length c]] W (IntR tp W)) (DI : ∀ W : World, Calls Try.prog 72 #[.agg #[.int .i64 y.Next, .int .i64 y.Acked, .slice A2 y.Seqs.length c2, .slice A3 y.Items.length c3], .int .i64 y.Next] W (IntR en W)) {ops : Array Oper}
    (hops : (ops.map fun o => (o.op, o.dst, o.guard)) = #[(Op.load 47 (Operand.tmp 7), some 36, none), (Op.load 31 (Operand.tmp 3), some 37, none), (Op.call { callee := Callee.value (Operand.func 73), args := #[(Operand.tmp 36), (Operand.tmp 37)], argTypes := #[47, 31] }, some 38, none), (Op.load 47 (Operand.tmp 7), some 39, none), (Op.fieldAddr 47 (Operand.tmp 7) 0, some 40, none), (Op.load 2 (Operand.tmp 40), some 41, none), (Op.call { callee := Callee.value (Operand.func 72), args := #[(Operand.tmp 39), (Operand.tmp 41)], argTypes := #[47, 2] }, some 42, none), (Op.binOp BinOp.geq 2 (Operand.tmp 38) (Operand.tmp 42) 2, some 43, none)])
    (hdeps : ((List.range 8).all fun i => ((fun i => [[], [], [0, 1], [], [], [4], [3, 5], [2, 6]].getD i []) i).all fun j => ((ops[i]?).map fun o => o.after.any fun e => Region.binds .any e && e.on == j).getD false) = true)
    (hback : ((List.range 8).all fun i => ((ops[i]?).map fun o => o.after.all fun e => decide (e.on < i)).getD false) = true)
    {a0 : Act} {w0 : World} (ha : a0 = { tmps := #[x0, x1, x2, .pointer (some ⟨gk, 0, none⟩), x4, x5, x6, .pointer (some ⟨go, 0, none⟩), x8, x9, x10, x11, x12, x13, x14, x15, x16, x17, x18, x19, x20, x21, x22, x23, x24, x25, x26, x27, x28, x29, x30, x31, x32, x33, x34, x35, undef, undef, undef, undef, undef, undef, undef, undef, undef, undef, undef, undef, undef, undef, undef, undef, undef, undef, undef, undef, undef, undef, undef, undef, undef, undef, undef, undef, undef, undef, undef, undef, undef], defers := [] }) (hO : Below ww.heap.size ww w0)
    (fin : ∀ t36 t37 t38 t39 t40 t41 t42 (W : World), (Below ww.heap.size ww W) → Q .normal { tmps := #[x0, x1, x2, .pointer (some ⟨gk, 0, none⟩), x4, x5, x6, .pointer (some ⟨go, 0, none⟩), x8, x9, x10, x11, x12, x13, x14, x15, x16, x17, x18, x19, x20, x21, x22, x23, x24, x25, x26, x27, x28, x29, x30, x31, x32, x33, x34, x35, t36, t37, t38, t39, t40, t41, t42, .bool z, undef, undef, undef, undef, undef, undef, undef, undef, undef, undef, undef, undef, undef, undef, undef, undef, undef, undef, undef, undef, undef, undef, undef, undef, undef], defers := [] } W) :
    wpAny Try.prog .any ops Q ops.size (Array.replicate ops.size false) a0 w0 := by
  have hn : ops.size = 8 := by have := congrArg Array.size hops; simpa using this
  obtain ⟨J, HJ⟩ : ∃ J : (Nat → Bool) → Act → World → Prop, ∀ dn ac W, J dn ac W ↔ (fun dn ac W => ∃ t36 t37 t38 t39 t40 t41 t42 t43, ac = { tmps := #[x0, x1, x2, .pointer (some ⟨gk, 0, none⟩), x4, x5, x6, .pointer (some ⟨go, 0, none⟩), x8, x9, x10, x11, x12, x13, x14, x15, x16, x17, x18, x19, x20, x21, x22, x23, x24, x25, x26, x27, x28, x29, x30, x31, x32, x33, x34, x35, t36, t37, t38, t39, t40, t41, t42, t43, undef, undef, undef, undef, undef, undef, undef, undef, undef, undef, undef, undef, undef, undef, undef, undef, undef, undef, undef, undef, undef, undef, undef, undef, undef], defers := [] } ∧ (Below ww.heap.size ww W) ∧ (dn 0 = true → t36 = .agg #[.int .i64 y.Next, .int .i64 y.Acked, .slice A2 y.Seqs.length c2, .slice A3 y.Items.length c3]) ∧ (dn 1 = true → t37 = .agg #[.int .i64 k.Cum, .slice A k.Gaps.length c]) ∧ (dn 2 = true → t38 = .int .i64 tp) ∧ (dn 3 = true → t39 = .agg #[.int .i64 y.Next, .int .i64 y.Acked, .slice A2 y.Seqs.length c2, .slice A3 y.Items.length c3]) ∧ (dn 4 = true → t40 = .pointer (some ⟨go, 0, none⟩)) ∧ (dn 5 = true → t41 = .int .i64 y.Next) ∧ (dn 6 = true → t42 = .int .i64 en) ∧ (dn 7 = true → t43 = .bool z)) dn ac W := ⟨_, fun _ _ _ => Iff.rfl⟩
  replace HJ := hidH HJ
  refine region_inv 8 (fun i => [[], [], [0, 1], [], [], [4], [3, 5], [2, 6]].getD i []) J hn hdeps hback ?start ?step ?fin
  case start => exact (HJ.out _ _ _).2 ⟨undef, undef, undef, undef, undef, undef, undef, undef, ha, hO, fun h => by simp at h, fun h => by simp at h, fun h => by simp at h, fun h => by simp at h, fun h => by simp at h, fun h => by simp at h, fun h => by simp at h, fun h => by simp at h⟩
  all_goals clear ha hO
  case step =>
    clear fin hdeps hback
    intro i hi dn ac W hJ hdn hdep
    obtain ⟨t36, t37, t38, t39, t40, t41, t42, t43, rfl, hO, h0, h1, h2, h3, h4, h5, h6, h7⟩ := (HJ.out _ _ _).1 hJ
    clear hJ
    match i, hi with
    | 0, _ =>
      obtain ⟨ty, ps, af, ho⟩ := op_lit hops (i := 0) (op := Op.load 47 (Operand.tmp 7)) (dst := some 36) (g := none) rfl
      refine wpOp_lit ho (fun j b h => by cases h) ?_
      clear hops hdep ho
      replace h1 := hidH h1
      replace h2 := hidH h2
      replace h3 := hidH h3
      replace h4 := hidH h4
      replace h5 := hidH h5
      replace h6 := hidH h6
      replace h7 := hidH h7
      have hb := Below.refl W.heap.size W
      have KQ := HSB.below hO
      have q0 := KQ.cell 0
      have q1 := KQ.cell 1
      have q2 := KQ.cell 2
      have q3 := KQ.cell 3
      simp only [List.getElem?_toArray, List.getElem?_cons_succ, List.getElem?_cons_zero] at q0 q1 q2 q3
      have gq := KQ.lt
      go_wp2
      exact (HJ.out _ _ _).2 ⟨_, _, _, _, _, _, _, _, rfl, btr hO hb, fun _ => rfl, h1.out, h2.out, h3.out, h4.out, h5.out, h6.out, h7.out⟩
    | 1, _ =>
      obtain ⟨ty, ps, af, ho⟩ := op_lit hops (i := 1) (op := Op.load 31 (Operand.tmp 3)) (dst := some 37) (g := none) rfl
      refine wpOp_lit ho (fun j b h => by cases h) ?_
      clear hops hdep ho
      replace h0 := hidH h0
      replace h2 := hidH h2
      replace h3 := hidH h3
      replace h4 := hidH h4
      replace h5 := hidH h5
      replace h6 := hidH h6
      replace h7 := hidH h7
      have hb := Below.refl W.heap.size W
      have KQ := HKB.below hO
      have q0 := KQ.cell 0
      have q1 := KQ.cell 1
      simp only [List.getElem?_toArray, List.getElem?_cons_succ, List.getElem?_cons_zero] at q0 q1
      have gq := KQ.lt
      go_wp2
      exact (HJ.out _ _ _).2 ⟨_, _, _, _, _, _, _, _, rfl, btr hO hb, h0.out, fun _ => rfl, h2.out, h3.out, h4.out, h5.out, h6.out, h7.out⟩
    | 2, _ =>
      obtain ⟨ty, ps, af, ho⟩ := op_lit hops (i := 2) (op := Op.call { callee := Callee.value (Operand.func 73), args := #[(Operand.tmp 36), (Operand.tmp 37)], argTypes := #[47, 31] }) (dst := some 38) (g := none) rfl
      obtain rfl := h0 (hdep 0 (by simp))
      obtain rfl := h1 (hdep 1 (by simp))
      refine wpOp_lit ho (fun j b h => by cases h) ?_
      clear hops hdep ho
      replace h0 := hidH h0
      replace h1 := hidH h1
      replace h3 := hidH h3
      replace h4 := hidH h4
      replace h5 := hidH h5
      replace h6 := hidH h6
      replace h7 := hidH h7
      go_wp2_with fail
      refine (RE W hO).mono ?_
      rintro e w9 ⟨rfl, hb⟩
      go_wp2
      exact (HJ.out _ _ _).2 ⟨_, _, _, _, _, _, _, _, rfl, btr hO hb, fun _ => rfl, fun _ => rfl, fun _ => rfl, h3.out, h4.out, h5.out, h6.out, h7.out⟩
    | 3, _ =>
      obtain ⟨ty, ps, af, ho⟩ := op_lit hops (i := 3) (op := Op.load 47 (Operand.tmp 7)) (dst := some 39) (g := none) rfl
      refine wpOp_lit ho (fun j b h => by cases h) ?_
      clear hops hdep ho
      replace h0 := hidH h0
      replace h1 := hidH h1
      replace h2 := hidH h2
      replace h4 := hidH h4
      replace h5 := hidH h5
      replace h6 := hidH h6
      replace h7 := hidH h7
      have hb := Below.refl W.heap.size W
      have KQ := HSB.below hO
      have q0 := KQ.cell 0
      have q1 := KQ.cell 1
      have q2 := KQ.cell 2
      have q3 := KQ.cell 3
      simp only [List.getElem?_toArray, List.getElem?_cons_succ, List.getElem?_cons_zero] at q0 q1 q2 q3
      have gq := KQ.lt
      go_wp2
      exact (HJ.out _ _ _).2 ⟨_, _, _, _, _, _, _, _, rfl, btr hO hb, h0.out, h1.out, h2.out, fun _ => rfl, h4.out, h5.out, h6.out, h7.out⟩
    | 4, _ =>
      obtain ⟨ty, ps, af, ho⟩ := op_lit hops (i := 4) (op := Op.fieldAddr 47 (Operand.tmp 7) 0) (dst := some 40) (g := none) rfl
      refine wpOp_lit ho (fun j b h => by cases h) ?_
      clear hops hdep ho
      replace h0 := hidH h0
      replace h1 := hidH h1
      replace h2 := hidH h2
      replace h3 := hidH h3
      replace h5 := hidH h5
      replace h6 := hidH h6
      replace h7 := hidH h7
      go_wp2
      exact (HJ.out _ _ _).2 ⟨_, _, _, _, _, _, _, _, rfl, hO, h0.out, h1.out, h2.out, h3.out, fun _ => rfl, h5.out, h6.out, h7.out⟩
    | 5, _ =>
      obtain ⟨ty, ps, af, ho⟩ := op_lit hops (i := 5) (op := Op.load 2 (Operand.tmp 40)) (dst := some 41) (g := none) rfl
      obtain rfl := h4 (hdep 4 (by simp))
      refine wpOp_lit ho (fun j b h => by cases h) ?_
      clear hops hdep ho
      replace h0 := hidH h0
      replace h1 := hidH h1
      replace h2 := hidH h2
      replace h3 := hidH h3
      replace h4 := hidH h4
      replace h6 := hidH h6
      replace h7 := hidH h7
      have hb := Below.refl W.heap.size W
      have KQ := HSB.below hO
      have q0 := KQ.cell 0
      have q1 := KQ.cell 1
      have q2 := KQ.cell 2
      have q3 := KQ.cell 3
      simp only [List.getElem?_toArray, List.getElem?_cons_succ, List.getElem?_cons_zero] at q0 q1 q2 q3
      have gq := KQ.lt
      go_wp2
      exact (HJ.out _ _ _).2 ⟨_, _, _, _, _, _, _, _, rfl, btr hO hb, h0.out, h1.out, h2.out, h3.out, fun _ => rfl, fun _ => rfl, h6.out, h7.out⟩
    | 6, _ =>
      obtain ⟨ty, ps, af, ho⟩ := op_lit hops (i := 6) (op := Op.call { callee := Callee.value (Operand.func 72), args := #[(Operand.tmp 39), (Operand.tmp 41)], argTypes := #[47, 2] }) (dst := some 42) (g := none) rfl
      obtain rfl := h3 (hdep 3 (by simp))
      obtain rfl := h5 (hdep 5 (by simp))
      refine wpOp_lit ho (fun j b h => by cases h) ?_
      clear hops hdep ho
      replace h0 := hidH h0
      replace h1 := hidH h1
      replace h2 := hidH h2
      replace h3 := hidH h3
      replace h4 := hidH h4
      replace h5 := hidH h5
      replace h7 := hidH h7
      go_wp2_with fail
      refine (DI W).mono ?_
      rintro e w9 ⟨rfl, hb⟩
      go_wp2
      exact (HJ.out _ _ _).2 ⟨_, _, _, _, _, _, _, _, rfl, btr hO hb, h0.out, h1.out, h2.out, fun _ => rfl, h4.out, fun _ => rfl, fun _ => rfl, h7.out⟩
    | 7, _ =>
      obtain ⟨ty, ps, af, ho⟩ := op_lit hops (i := 7) (op := Op.binOp BinOp.geq 2 (Operand.tmp 38) (Operand.tmp 42) 2) (dst := some 43) (g := none) rfl
      obtain rfl := h2 (hdep 2 (by simp))
      obtain rfl := h6 (hdep 6 (by simp))
      refine wpOp_lit ho (fun j b h => by cases h) ?_
      clear hops hdep ho
      replace h0 := hidH h0
      replace h1 := hidH h1
      replace h2 := hidH h2
      replace h3 := hidH h3
      replace h4 := hidH h4
      replace h5 := hidH h5
      replace h6 := hidH h6
      have hz2 := hz
      go_wp2
      exact (HJ.out _ _ _).2 ⟨_, _, _, _, _, _, _, _, rfl, hO, h0.out, h1.out, fun _ => rfl, h3.out, h4.out, h5.out, fun _ => rfl, fun _ => rfl⟩
    | n + 8, h => omega
  case fin =>
    clear hops hdeps hback
    rintro dn ac W hJ hall
    obtain ⟨t36, t37, t38, t39, t40, t41, t42, t43, rfl, hO, h0, h1, h2, h3, h4, h5, h6, h7⟩ := (HJ.out _ _ _).1 hJ
    obtain rfl := h7 (hall 7 (by omega))
    exact fin _ _ _ _ _ _ _ W hO
end Go.Proofs.Ythljdikcpdokdaa
