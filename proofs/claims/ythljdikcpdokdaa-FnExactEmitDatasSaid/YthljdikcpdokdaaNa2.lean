import Derived.Test.YthljdikcpdokdaaNa1
import Derived.StillTailTactics
import Derived.Deep.Strs
import Derived.Deep.Slices
import Derived.ProofKit
import Derived.OpenShut

/- Trees: what the laws' helpers of a slice of bytes and of a slice of int64s do (mark, held, eq, sz, to). -/
namespace Go.Proofs.Ythljdikcpdokdaa
open Go.RowKit Go.Deep

theorem markW_chg (w : World) (g o k n : Nat) (S : Fp) (hs : ∀ j, j < n → S g (o + j)) : Chg S w (markW w g o k n) := by
  induction n with
  | zero => exact Chg.refl _ _
  | succ j ih => exact (ih (fun i hi => hs i (by omega))).trans ((Chg.set _ g (o + j) _).sub (fun a b y => by obtain ⟨rfl, rfl⟩ := y; exact hs j (by omega)))
theorem markV_chg (w : World) (g o k n : Nat) (S : Fp) (hs : ∀ j, j < n → S g (o + j)) : Chg S w (markV w g o k n) := by
  induction n with
  | zero => exact Chg.refl _ _
  | succ j ih => exact (ih (fun i hi => hs i (by omega))).trans ((Chg.set _ g (o + j) _).sub (fun a b y => by obtain ⟨rfl, rfl⟩ := y; exact hs j (by omega)))
set_option maxHeartbeats 400000 in
theorem markB_ow (l : List Int) (S : Fp) (v : Value) (k : Nat) (w : World) (h : Ow w (.bs l) S v) (hk : k + cc (.bs l) ≤ 1000000000000) :
    Calls Try.prog 126 #[v, .int .i64 k] w (MkR (.bs l) S v k w) := by
  unfold Ow at h
  obtain ⟨A, c, rfl, hc, h⟩ := h
  have hm := hc.len
  simp only [cc] at hk
  have HC := hidH hc
  unfold MkR
  simp only [cc, mkc]
  rcases h with rfl | ⟨b, off, rfl, h1, h⟩
  · clear hc
    go_enter Try.func126, Try.ntmps126
    go_wp2
    go_loopw [1, 5] (fun v i wr => v = .int .i64 k ∧ i = .int .i64 0 ∧ wr = w) (fun _ _ _ => 0)
    case atStart => exact ⟨rfl, rfl, rfl⟩
    case round =>
      obtain ⟨rfl, rfl, rfl⟩ := hrel
      go_wp2
      go_ret
      refine ⟨rfl, Chg.refl _ _, ?_⟩
      unfold Ow
      exact ⟨A, c, by simp [marks], by simpa [marks] using HC.out, .inl rfl⟩
  · have hA : ∀ i, i < l.length → w.cell? ⟨b, off + i, none⟩ = some (.int .u8 (l.getD i 0)) ∧ w.frozen? ⟨b, off + i, none⟩ = false := fun i hi => (h i hi).2
    have HA := hidH h
    clear hc h
    go_enter Try.func126, Try.ntmps126
    go_wp2
    go_loopw [1, 5] (fun v i wr => ∃ j : Nat, j ≤ l.length ∧ v = .int .i64 ((k + j : Nat) : Int) ∧ i = .int .i64 j ∧ wr = markW w b off k j) (fun _ i _ => l.length - (intOf i).toNat)
    case atStart => exact ⟨0, Nat.zero_le _, rfl, rfl, rfl⟩
    case round =>
      obtain ⟨j, hj, rfl, rfl, rfl⟩ := hrel
      by_cases hlt : j < l.length
      · have hi : (j : Int) < (l.length : Int) := by omega
        have hv : (((k + j : Nat) : Int)) + 1 ≤ 9223372036854775807 := by omega
        have hc : ∃ v, (markW w b off k j).cell? ⟨b, off + j, none⟩ = some v := ⟨_, (markW_other w b off k j _ (fun t ht e => by injection e with _ e2; omega)).trans (hA j hlt).1⟩
        have hf : (markW w b off k j).frozen? ⟨b, off + j, none⟩ = false := (markW_frozen w b off k j _).trans (hA j hlt).2
        obtain ⟨v, hc⟩ := hc
        clear hA h1
        go_wp2
        go_roundw
        case rel => exact ⟨j + 1, by omega, by go_num, by go_num, rfl⟩
        case measure => simp [intOf]; omega
      · have he : j = l.length := by omega
        subst he
        clear hlt hj
        have hE := hidH (And.intro (markW_chg w b off k l.length S (fun i hi => (HA.out i hi).1)) (show Ow (markW w b off k l.length) (.bs (marks k l.length)) S (.slice (some ⟨b, off, none⟩) l.length c) by
          unfold Ow
          refine ⟨some ⟨b, off, none⟩, c, by rw [marks_len], by rw [marks_len]; exact HC.out, .inr ⟨b, off, rfl, by rw [markW_size]; exact h1, fun i hi => ?_⟩⟩
          rw [marks_len] at hi
          exact ⟨(HA.out i hi).1, by rw [markW_cell w b off k l.length i hi (fun i hi => ⟨_, (hA i hi).1⟩), marks_at k l.length i hi], (markW_frozen w b off k l.length _).trans (hA i hi).2⟩))
        clear hA
        go_wp2
        go_ret
        exact ⟨rfl, hE.out.1, hE.out.2⟩
set_option maxHeartbeats 400000 in
theorem markI_ow (l : List Int) (S : Fp) (v : Value) (k : Nat) (w : World) (h : Ow w (.is l) S v) (hk : k + cc (.is l) ≤ 1000000000000) :
    Calls Try.prog 124 #[v, .int .i64 k] w (MkR (.is l) S v k w) := by
  unfold Ow at h
  obtain ⟨A, c, rfl, hc, h⟩ := h
  have hm := hc.len
  simp only [cc] at hk
  have HC := hidH hc
  unfold MkR
  simp only [cc, mkc]
  rcases h with rfl | ⟨b, off, rfl, h1, h⟩
  · clear hc
    go_enter Try.func124, Try.ntmps124
    go_wp2
    go_loopw [1, 5] (fun v i wr => v = .int .i64 k ∧ i = .int .i64 0 ∧ wr = w) (fun _ _ _ => 0)
    case atStart => exact ⟨rfl, rfl, rfl⟩
    case round =>
      obtain ⟨rfl, rfl, rfl⟩ := hrel
      go_wp2
      go_ret
      refine ⟨rfl, Chg.refl _ _, ?_⟩
      unfold Ow
      exact ⟨A, c, by simp [nums], by simpa [nums] using HC.out, .inl rfl⟩
  · have hA : ∀ i, i < l.length → w.cell? ⟨b, off + i, none⟩ = some (.int .i64 (l.getD i 0)) ∧ w.frozen? ⟨b, off + i, none⟩ = false := fun i hi => (h i hi).2
    have HA := hidH h
    clear hc h
    go_enter Try.func124, Try.ntmps124
    go_wp2
    go_loopw [1, 5] (fun v i wr => ∃ j : Nat, j ≤ l.length ∧ v = .int .i64 ((k + j : Nat) : Int) ∧ i = .int .i64 j ∧ wr = markV w b off k j) (fun _ i _ => l.length - (intOf i).toNat)
    case atStart => exact ⟨0, Nat.zero_le _, rfl, rfl, rfl⟩
    case round =>
      obtain ⟨j, hj, rfl, rfl, rfl⟩ := hrel
      by_cases hlt : j < l.length
      · have hi : (j : Int) < (l.length : Int) := by omega
        have hv : (((k + j : Nat) : Int)) + 1 ≤ 9223372036854775807 := by omega
        have hc : ∃ v, (markV w b off k j).cell? ⟨b, off + j, none⟩ = some v := ⟨_, (markV_other w b off k j _ (fun t ht e => by injection e with _ e2; omega)).trans (hA j hlt).1⟩
        have hf : (markV w b off k j).frozen? ⟨b, off + j, none⟩ = false := (markV_frozen w b off k j _).trans (hA j hlt).2
        obtain ⟨v, hc⟩ := hc
        clear hA h1
        go_wp2
        go_roundw
        case rel => exact ⟨j + 1, by omega, by go_num, by go_num, rfl⟩
        case measure => simp [intOf]; omega
      · have he : j = l.length := by omega
        subst he
        clear hlt hj
        have hE := hidH (And.intro (markV_chg w b off k l.length S (fun i hi => (HA.out i hi).1)) (show Ow (markV w b off k l.length) (.is (nums k l.length)) S (.slice (some ⟨b, off, none⟩) l.length c) by
          unfold Ow
          refine ⟨some ⟨b, off, none⟩, c, by rw [nums_len], by rw [nums_len]; exact HC.out, .inr ⟨b, off, rfl, by rw [markV_size]; exact h1, fun i hi => ?_⟩⟩
          rw [nums_len] at hi
          exact ⟨(HA.out i hi).1, by rw [markV_cell w b off k l.length i hi (fun i hi => ⟨_, (hA i hi).1⟩), nums_at k l.length i hi], (markV_frozen w b off k l.length _).trans (hA i hi).2⟩))
        clear hA
        go_wp2
        go_ret
        exact ⟨rfl, hE.out.1, hE.out.2⟩
/-- What 'held' answers, what 'eq' answers, what 'sz' answers. -/
def HeR (x : V) (k : Nat) (w : World) (e : Ending) (w' : World) : Prop := e = .returned (.int .i64 ((k + cc x : Nat) : Int)) ∧ Below w.heap.size w w'
def EqR (w : World) (e : Ending) (w' : World) : Prop := e = .returned (.bool true) ∧ Below w.heap.size w w'
def SzR (left : Int) (t : Nat) (w : World) (e : Ending) (w' : World) : Prop := ∃ z : Int, e = .returned (.int .i64 z) ∧ SzR' left t z ∧ Below w.heap.size w w'
/-- The same over a struct's fields. -/
def MkA (xs : List V) (S : Fp) (vs : List Value) (k : Nat) (w : World) (e : Ending) (w' : World) : Prop := e = .returned (.int .i64 ((k + vcA xs : Nat) : Int)) ∧ Chg S w w' ∧ OwA w' (mkA k xs) S vs
def HeA (xs : List V) (k : Nat) (w : World) (e : Ending) (w' : World) : Prop := e = .returned (.int .i64 ((k + vcA xs : Nat) : Int)) ∧ Below w.heap.size w w'
theorem mkc_bs_sh {w : World} {k : Nat} {l : List Int} {v : Value} (h : Rd w (mkc k (.bs l)) v) : ∃ A n c, v = .slice A n c := by simp only [mkc] at h; obtain ⟨A, c, h, _⟩ := h.bs_out; exact ⟨A, _, c, h⟩
theorem mkc_is_sh {w : World} {k : Nat} {l : List Int} {v : Value} (h : Rd w (mkc k (.is l)) v) : ∃ A n c, v = .slice A n c := by simp only [mkc] at h; obtain ⟨A, c, h, _⟩ := h.is_out; exact ⟨A, _, c, h⟩
theorem mkc_st_sh {w : World} {k n : Nat} {x : V} {xs : List V} {v : Value} (e : x = .st n xs) (h : Rd w (mkc k x) v) : ∃ A n c, v = .slice A n c := by subst e; simp only [mkc] at h; obtain ⟨A, c, h, _⟩ := h.st_out; exact ⟨A, _, c, h⟩
theorem heldB_rd (l : List Int) (v : Value) (k : Nat) (w : World) (h : Rd w (mkc k (.bs l)) v) (hk : k + cc (.bs l) ≤ 1000000000000) :
    Calls Try.prog 169 #[v, .int .i64 k] w (HeR (.bs l) k w) := by
  simp only [mkc] at h
  obtain ⟨A, c, rfl, hc, h⟩ := h.bs_out
  simp only [cc] at hk
  rw [marks_len]
  exact (heldB_any A l.length c k w h (by omega)).mono (fun e w' h => ⟨h.1, by rw [← h.2]; exact Below.refl _ _⟩)
theorem heldI_rd (l : List Int) (v : Value) (k : Nat) (w : World) (h : Rd w (mkc k (.is l)) v) (hk : k + cc (.is l) ≤ 1000000000000) :
    Calls Try.prog 167 #[v, .int .i64 k] w (HeR (.is l) k w) := by
  simp only [mkc] at h
  obtain ⟨A, c, rfl, hc, h⟩ := h.is_out
  simp only [cc] at hk
  rw [nums_len]
  exact (heldI_any A l.length c k w h (by omega)).mono (fun e w' h => ⟨h.1, by rw [← h.2]; exact Below.refl _ _⟩)
theorem eqB_rd (l : List Int) (v u : Value) (w : World) (hv : Rd w (.bs l) v) (hu : Rd w (.bs l) u) : Calls Try.prog 123 #[v, u] w (EqR w) := by
  obtain ⟨A, c, rfl, hc, hv⟩ := hv.bs_out
  obtain ⟨B, d, rfl, hd, hu⟩ := hu.bs_out
  exact (eqB_same A B l c d w hv hu hc.len).mono (fun e w' h => ⟨h.1, by obtain ⟨_, n, h⟩ := h; rw [← h]; exact below_drewN (Below.refl _ _) _⟩)
theorem eqI_rd (l : List Int) (v u : Value) (w : World) (hv : Rd w (.is l) v) (hu : Rd w (.is l) u) : Calls Try.prog 114 #[v, u] w (EqR w) := by
  obtain ⟨A, c, rfl, hc, hv⟩ := hv.is_out
  obtain ⟨B, d, rfl, hd, hu⟩ := hu.is_out
  exact (eqI_same A B l c d w hv hu hc.len).mono (fun e w' h => ⟨h.1, by obtain ⟨_, n, h⟩ := h; rw [← h]; exact below_drewN (Below.refl _ _) _⟩)
set_option maxHeartbeats 400000 in
theorem szB_rd (l : List Int) (v : Value) (left : Int) (w : World) (hv : Rd w (.bs l) v) (h0 : 0 ≤ left) (h1 : left ≤ 1048576) : Calls Try.prog 121 #[v, .int .i64 left] w (SzR left (tot (.bs l)) w) := by
  obtain ⟨A, c, rfl, hc, hv⟩ := hv.bs_out
  have hn := hc.len
  simp only [tot]
  clear hc hv
  by_cases h : left - (l.length : Int) < 0
  · go_enter Try.func121, Try.ntmps121
    go_wp2
    go_ret
    exact ⟨-1, rfl, ⟨.inl rfl, by omega, fun h => by omega⟩, Below.refl _ _⟩
  · have h2 : 0 ≤ left - (l.length : Int) := by omega
    clear h
    go_enter Try.func121, Try.ntmps121
    go_wp2
    go_ret
    exact ⟨_, rfl, ⟨.inr h2, by omega, fun _ => by omega⟩, Below.refl _ _⟩
set_option maxHeartbeats 400000 in
theorem szI_rd (l : List Int) (v : Value) (left : Int) (w : World) (hv : Rd w (.is l) v) (h0 : 0 ≤ left) (h1 : left ≤ 1048576) : Calls Try.prog 110 #[v, .int .i64 left] w (SzR left (tot (.is l)) w) := by
  obtain ⟨A, c, rfl, hc, hv⟩ := hv.is_out
  have hn := hc.len
  simp only [tot]
  clear hc hv
  by_cases h : left - (l.length : Int) < 0
  · go_enter Try.func110, Try.ntmps110
    go_wp2
    go_ret
    exact ⟨-1, rfl, ⟨.inl rfl, by omega, fun h => by omega⟩, Below.refl _ _⟩
  · have h2 : 0 ≤ left - (l.length : Int) := by omega
    clear h
    go_enter Try.func110, Try.ntmps110
    go_wp2
    go_ret
    exact ⟨_, rfl, ⟨.inr h2, by omega, fun _ => by omega⟩, Below.refl _ _⟩
theorem toB_rd (l : List Int) (v : Value) (w : World) (hv : Rd w (.bs l) v) (hm : tot (.bs l) ≤ 1048576) : Calls Try.prog 122 #[v] w (ResV w (.bs l)) := by
  obtain ⟨A, c, rfl, hc, hv⟩ := hv.bs_out
  simp only [tot] at hm
  exact (toB' A l c w hv (by omega)).mono (fun e w' h => by
    obtain ⟨A', h1, h2, h3⟩ := h
    exact ⟨_, h1, h2.owv (Nat.le_refl _) (Caps.same (by omega)), h3⟩)
theorem toI_rd (l : List Int) (v : Value) (w : World) (hv : Rd w (.is l) v) (hm : tot (.is l) ≤ 1048576) : Calls Try.prog 112 #[v] w (ResV w (.is l)) := by
  obtain ⟨A, c, rfl, hc, hv⟩ := hv.is_out
  simp only [tot] at hm
  exact (toI' A l c w hv (by omega)).mono (fun e w' h => by
    obtain ⟨A', h1, h2, h3⟩ := h
    exact ⟨_, h1, h2.owv (Nat.le_refl _) (Caps.same (by omega)), h3⟩)
end Go.Proofs.Ythljdikcpdokdaa

/- Trees: slices of structs, row by row. -/
namespace Go.Proofs.Ythljdikcpdokdaa
open Go.RowKit Go.Deep

theorem flat_take {α : Type} (f : α → List V) (r : List α) (j : Nat) (hj : j < r.length) : (r.take (j + 1)).flatMap f = (r.take j).flatMap f ++ f r[j] := by
  rw [List.take_add_one, List.getElem?_eq_getElem hj, Option.toList_some, List.flatMap_append]
  simp
theorem flat_drop {α : Type} (f : α → List V) (r : List α) (j : Nat) (hj : j < r.length) : (r.drop j).flatMap f = f r[j] ++ (r.drop (j + 1)).flatMap f := by
  rw [List.drop_eq_getElem_cons hj, List.flatMap_cons]
theorem flat_len {α : Type} {f : α → List V} {W : Nat} (hf : ∀ x, (f x).length = W) (r : List α) : (r.flatMap f).length = r.length * W := by
  induction r with
  | nil => simp
  | cons x xs ih => rw [List.flatMap_cons, List.length_append, ih, hf, List.length_cons, Nat.add_mul]; omega
theorem flat_split {α : Type} (f : α → List V) (r : List α) (j : Nat) (hj : j < r.length) : r.flatMap f = (r.take j).flatMap f ++ (f r[j] ++ (r.drop (j + 1)).flatMap f) := by
  rw [← flat_drop f r j hj, ← List.flatMap_append, List.take_append_drop]
theorem take_len {α : Type} {f : α → List V} {W : Nat} (hf : ∀ x, (f x).length = W) (r : List α) (j : Nat) (hj : j ≤ r.length) : ((r.take j).flatMap f).length = j * W := by
  rw [flat_len hf, List.length_take, Nat.min_eq_left hj]
theorem RdL.get? {w : World} {xs : List V} {g o : Nat} (h : RdL w xs g o) (i : Nat) (x : V) (hx : xs[i]? = some x) : ∃ u, w.cell? ⟨g, o + i, none⟩ = some u ∧ Rd w x u := by
  obtain ⟨hi, e⟩ := List.getElem?_eq_some_iff.1 hx
  obtain ⟨u, h1, h2⟩ := h.at i hi
  exact ⟨u, h1, e ▸ h2⟩
theorem mid_get {a b c : List V} {k : Nat} {x : V} (h : b[k]? = some x) : (a ++ (b ++ c))[a.length + k]? = some x := by
  obtain ⟨hk, e⟩ := List.getElem?_eq_some_iff.1 h
  rw [List.getElem?_append_right (by omega), show a.length + k - a.length = k by omega, List.getElem?_append_left hk]
  exact h
/-- A row of a slice of structs that is read. -/
theorem Rd.row {α : Type} {f : α → List V} {W : Nat} (hf : ∀ x, (f x).length = W) {w : World} {r : List α} {v : Value} (h : Rd w (.st r.length (r.flatMap f)) v) {j : Nat} (hj : j < r.length) :
    ∃ g o c, v = .slice (some ⟨g, o, none⟩) r.length c ∧ g < w.heap.size ∧ ∀ k x, (f r[j])[k]? = some x → ∃ u, w.cell? ⟨g, o + j * W + k, none⟩ = some u ∧ Rd w x u := by
  obtain ⟨A, c, rfl, hc, h⟩ := h.st_out
  rcases h with ⟨h, _⟩ | ⟨g, o, rfl, hg, h⟩
  · omega
  · refine ⟨g, o, c, rfl, hg, fun k x hx => ?_⟩
    rw [flat_split f r j hj] at h
    have := h.get? _ x (mid_get hx)
    rwa [take_len hf r j (by omega), ← Nat.add_assoc] at this
/-- A row of a marked slice. -/
theorem Rd.rowmk {α : Type} {f : α → List V} {W : Nat} (hf : ∀ x, (f x).length = W) {w : World} {r : List α} {v : Value} {k0 : Nat} (h : Rd w (mkc k0 (.st r.length (r.flatMap f))) v) {j : Nat} (hj : j < r.length) :
    ∃ g o c, v = .slice (some ⟨g, o, none⟩) r.length c ∧ g < w.heap.size ∧ ∀ k x, (mkc.mkL (k0 + cc.ccL ((r.take j).flatMap f)) (f r[j]))[k]? = some x → ∃ u, w.cell? ⟨g, o + j * W + k, none⟩ = some u ∧ Rd w x u := by
  simp only [mkc] at h
  obtain ⟨A, c, rfl, hc, h⟩ := h.st_out
  rcases h with ⟨h, _⟩ | ⟨g, o, rfl, hg, h⟩
  · omega
  · refine ⟨g, o, c, rfl, hg, fun k x hx => ?_⟩
    rw [flat_split f r j hj, mkL_append, mkL_append] at h
    have := h.get? _ x (mid_get hx)
    rwa [mkL_len, take_len hf r j (by omega), ← Nat.add_assoc] at this
theorem Rd.st_len {w : World} {n : Nat} {xs : List V} {v : Value} (h : Rd w (.st n xs) v) : (n : Int) ≤ 9223372036854775807 := by obtain ⟨_, _, _, hc, _⟩ := h.st_out; exact hc.len
theorem Rd.int_out {w : World} {n : Int} {u : Value} (h : Rd w (.int n) u) : u = .int .i64 n := by unfold Rd at h; exact h
theorem Rd.bool_out {w : World} {b : Bool} {u : Value} (h : Rd w (.bool b) u) : u = .bool b := by unfold Rd at h; exact h
/-- The count ahead of row j. -/
def kRow {α : Type} (k : Nat) (f : α → List V) (r : List α) (j : Nat) : Nat := k + cc.ccL ((r.take j).flatMap f)
theorem kRow_zero {α : Type} (k : Nat) (f : α → List V) (r : List α) : kRow k f r 0 = k := by simp [kRow, cc.ccL]
theorem kRow_succ {α : Type} (k : Nat) (f : α → List V) (r : List α) (j : Nat) (hj : j < r.length) : kRow k f r (j + 1) = kRow k f r j + cc.ccL (f r[j]) := by
  rw [kRow, kRow, flat_take f r j hj, ccL_append]; omega
theorem kRow_all {α : Type} (k : Nat) (f : α → List V) (r : List α) : kRow k f r r.length = k + cc (.st r.length (r.flatMap f)) := by rw [kRow, List.take_length, cc]
theorem kRow_le {α : Type} (k : Nat) (f : α → List V) (r : List α) (j : Nat) : kRow k f r j ≤ k + cc (.st r.length (r.flatMap f)) := by
  have e : r.flatMap f = (r.take j).flatMap f ++ (r.drop j).flatMap f := by rw [← List.flatMap_append, List.take_append_drop]
  rw [kRow, cc, e, ccL_append]; omega
/-- A cell of one number marked, its place by name. -/
theorem MkSt.num {w0 w : World} {S : Fp} {g o k : Nat} {pre post : List V} {n : Int} (h : MkSt w0 S g o k pre (.int n :: post) w) (q : Nat) (hq : q = o + pre.length) (z : Int) (hz : z = ((k + cc.ccL pre : Nat) : Int)) :
    (∃ u, w.cell? ⟨g, q, none⟩ = some u) ∧ w.frozen? ⟨g, q, none⟩ = false ∧ MkSt w0 S g o k (pre ++ [.int n]) post (w.setCell ⟨g, q, none⟩ (.int .i64 z)) := by
  subst hq hz
  exact h.cell (fun W => by simp only [mkc]; unfold Ow; rfl)
theorem dec3 (z : Int) : decide (z % 3 = 0) = (z % 3 == 0) := by rw [Bool.eq_iff_iff]; simp
theorem bne3 (z : Int) : ((z % 3 == 0) != (z % 3 == 0)) = false := by simp
theorem MkSt.boo {w0 w : World} {S : Fp} {g o k : Nat} {pre post : List V} {n : Bool} (h : MkSt w0 S g o k pre (.bool n :: post) w) (q : Nat) (hq : q = o + pre.length) (z : Int) (hz : z = ((k + cc.ccL pre : Nat) : Int)) :
    (∃ u, w.cell? ⟨g, q, none⟩ = some u) ∧ w.frozen? ⟨g, q, none⟩ = false ∧ MkSt w0 S g o k (pre ++ [.bool n]) post (w.setCell ⟨g, q, none⟩ (.bool (z % 3 == 0))) := by
  subst hq hz
  rw [← dec3]
  exact h.cell (fun W => by simp only [mkc]; unfold Ow; rfl)
theorem MkSt.at_ {w0 w : World} {S : Fp} {g o k : Nat} {pre post : List V} {x : V} (h : MkSt w0 S g o k pre (x :: post) w) (q : Nat) (hq : q = o + pre.length) (y : Nat) (hy : y = k + cc.ccL pre) :
    ∃ u S1, w.cell? ⟨g, q, none⟩ = some u ∧ Ow w x S1 u ∧ ∀ w1, Chg S1 w w1 → Ow w1 (mkc y x) S1 u → MkSt w0 S g o k (pre ++ [x]) post w1 := by
  subst hq hy
  exact h.call
theorem MkSt.start {w : World} {S : Fp} {g o k : Nat} {xs : List V} (h : OwL w xs S g o) (hg : g < w.heap.size) : MkSt w S g o k [] xs w :=
  ⟨Chg.refl _ _, hg, fun _ _ => False, S, fun _ _ x => x.elim, fun _ _ x => x.elim, Sub.refl _, by simp only [mkc.mkL]; unfold OwL; trivial, by simpa using h⟩
theorem MkSt.done {w0 w : World} {S : Fp} {g o k n c : Nat} {xs : List V} (h : MkSt w0 S g o k xs [] w) (hc : Caps n c) : Chg S w0 w ∧ Ow w (mkc k (.st n xs)) S (.slice (some ⟨g, o, none⟩) n c) := by
  obtain ⟨P, R, _, h2, _, h4, _⟩ := h.own
  refine ⟨h.chg, ?_⟩
  simp only [mkc]
  unfold Ow
  exact ⟨_, c, rfl, hc, .inr ⟨g, o, rfl, h.lt, OwL.sub _ h2 h4⟩⟩

/-! A slice of structs while it is filled. -/
def putL (w : World) (g i : Nat) : List Value → World
  | [] => w
  | v :: vs => putL (w.setCell ⟨g, i, none⟩ v) g (i + 1) vs
theorem putL_size (w : World) (g i : Nat) (vs : List Value) : (putL w g i vs).heap.size = w.heap.size := by
  induction vs generalizing w i with
  | nil => rfl
  | cons v vs ih => rw [putL, ih]; simp [World.setCell]
theorem putL_chg (w : World) (g i : Nat) (vs : List Value) : Chg (fun a b => a = g ∧ i ≤ b ∧ b < i + vs.length) w (putL w g i vs) := by
  induction vs generalizing w i with
  | nil => exact Chg.refl _ _
  | cons v vs ih =>
    rw [putL]
    exact ((Chg.set w g i v).sub (fun a b h => ⟨h.1, by have := h.2; omega, by have := h.2; simp; omega⟩)).trans ((ih _ (i + 1)).sub (fun a b h => ⟨h.1, by omega, by have := h.2.2; simp; omega⟩))
def FS (B C g n : Nat) : Fp := fun a b => B ≤ a ∧ a < C ∧ (a = g → b < n)
structure FillL (w0 : World) (g T : Nat) (pre : List V) (W : World) : Prop where
  old : Below w0.heap.size w0 W
  hg : w0.heap.size ≤ g
  lt : g < W.heap.size
  room : ∀ x, x < T → ∃ v, W.cell? ⟨g, x, none⟩ = some v
  fz : ∀ t, W.frozen? ⟨g, t, none⟩ = false
  own : ∃ P, Sub P (FS w0.heap.size W.heap.size g pre.length) ∧ OwL W pre P g 0
theorem fill_put {B C g : Nat} : ∀ {xs : List V} {vs : List Value} {W : World} {pre : List V} {P S : Fp}, g < W.heap.size → W.heap.size = C → B ≤ g → Sub P (FS B C g pre.length) → OwL W pre P g 0 → OwA W xs S vs → Apart P S → (∀ a b, S a b → B ≤ a ∧ a < C ∧ a ≠ g) →
    (∀ x, x < pre.length + xs.length → ∃ v, W.cell? ⟨g, x, none⟩ = some v) → (∀ t, W.frozen? ⟨g, t, none⟩ = false) → ∃ P', Sub P' (FS B C g (pre ++ xs).length) ∧ OwL (putL W g pre.length vs) (pre ++ xs) P' g 0
  | [], [], W, pre, P, S, _, _, _, h1, h2, _, _, _, _, _ => ⟨P, by simpa using h1, by simpa [putL] using h2⟩
  | x :: xs, v :: vs, W, pre, P, S, hg, hC, hB, h1, h2, h3, h4, h5, h6, h7 => by
    unfold OwA at h3
    obtain ⟨S1, S2, q1, q2, q3, q4, q5⟩ := h3
    obtain ⟨u, hu⟩ := h6 pre.length (by simp)
    have hs := Chg.set W g pre.length v
    have aP : Apart P (One g pre.length) := fun a b y z => by obtain ⟨rfl, rfl⟩ := z; have := (h1 _ _ y).2.2 rfl; omega
    have a1 : Apart S1 (One g pre.length) := fun a b y z => by obtain ⟨rfl, rfl⟩ := z; exact (h5 _ _ (q3 _ _ y)).2.2 rfl
    have a2 : Apart S2 (One g pre.length) := fun a b y z => by obtain ⟨rfl, rfl⟩ := z; exact (h5 _ _ (q4 _ _ y)).2.2 rfl
    have k1 := OwL.kept pre (hs.kept aP) hg h2
    have e0 : 0 + pre.length = pre.length := by omega
    have := OwL.snoc (x := x) (u := v) (S1 := S1) k1 (by rw [e0]; exact World.cell?_setCell_same _ _ _ hu) (by rw [e0, World.frozen?_setCell]; exact h7 _) (Ow.kept x (hs.kept a1) q1) (h4.sub (Sub.refl _) q3) (by rw [e0]; exact aP) (by rw [e0]; exact a1)
    rw [e0] at this
    have hpl : (pre ++ [x]).length = pre.length + 1 := by simp
    obtain ⟨P', r1, r2⟩ := fill_put (xs := xs) (vs := vs) (W := W.setCell ⟨g, pre.length, none⟩ v) (pre := pre ++ [x]) (P := Cup P (Cup S1 (One g pre.length))) (S := S2) (by simpa [World.setCell] using hg) (by simpa [World.setCell] using hC) hB
      (fun a b y => by
        rw [hpl]
        rcases y with y | y | y
        · have := h1 a b y; exact ⟨this.1, this.2.1, fun e => by have := this.2.2 e; omega⟩
        · have := h5 a b (q3 a b y); exact ⟨this.1, this.2.1, fun e => absurd e this.2.2⟩
        · obtain ⟨rfl, rfl⟩ := y; exact ⟨hB, by omega, fun _ => by omega⟩)
      this (OwA.kept (hs.kept a2) q2)
      (fun a b y z => by
        rcases y with y | y | y
        · exact h4 a b y (q4 a b z)
        · exact q5 a b y z
        · exact a2 a b z y)
      (fun a b y => h5 a b (q4 a b y))
      (fun y hy => by
        obtain ⟨t, ht⟩ := h6 y (by rw [hpl] at hy; simp; omega)
        by_cases e : y = pre.length
        · subst e; exact ⟨v, World.cell?_setCell_same _ _ _ hu⟩
        · exact ⟨t, (World.cell?_setCell_other _ _ _ _ (fun e2 => by injection e2 with _ e3; exact e e3.symm)).trans ht⟩)
      (fun t => by rw [World.frozen?_setCell]; exact h7 t)
    rw [hpl] at r2
    rw [List.append_assoc] at r1 r2
    exact ⟨P', r1, by rw [putL]; exact r2⟩
  | [], _ :: _, _, _, _, _, _, _, _, _, _, h3, _, _, _, _ => by unfold OwA at h3; exact h3.elim
  | _ :: _, [], _, _, _, _, _, _, _, _, _, h3, _, _, _, _ => by unfold OwA at h3; exact h3.elim
theorem FillL.step {w0 W W1 : World} {g T : Nat} {pre xs : List V} {vs : List Value} (h : FillL w0 g T pre W) (hb : Below W.heap.size W W1) (ho : OwN W.heap.size W1.heap.size W1 xs vs) (hT : pre.length + xs.length ≤ T) (hl : xs.length = vs.length) (q : Nat) (hq : q = pre.length) :
    FillL w0 g T (pre ++ xs) (putL W1 g q vs) := by
  subst hq
  obtain ⟨P, h1, h2⟩ := h.own
  have hlt1 : g < W1.heap.size := Nat.lt_of_lt_of_le h.lt hb.size
  have hc := putL_chg W1 g pre.length vs
  have hroom : ∀ x, x < T → ∃ v, W1.cell? ⟨g, x, none⟩ = some v := fun x hx => by
    obtain ⟨v, hv⟩ := h.room x hx
    exact ⟨v, (hb.cell (p := ⟨g, x, none⟩) h.lt).trans hv⟩
  have hfz : ∀ t, W1.frozen? ⟨g, t, none⟩ = false := fun t => (hb.frozen (p := ⟨g, t, none⟩) h.lt).trans (h.fz t)
  have hz := putL_size W1 g pre.length vs
  refine ⟨(btr h.old hb).trans ((hc.below (B := g) (C := g + 1) (fun a b y => by have := y.1; omega) (by omega)).mono h.hg), h.hg, by rw [hz]; exact hlt1, ?_, fun t => by rw [hc.frozen ⟨g, t, none⟩ hlt1]; exact hfz t, ?_⟩
  · -- cells stay cells
    intro x hx
    have key : ∀ (ws : List Value) (U : World) (i : Nat), (∀ x, x < T → ∃ v, U.cell? ⟨g, x, none⟩ = some v) → ∀ x, x < T → ∃ v, (putL U g i ws).cell? ⟨g, x, none⟩ = some v := by
      intro ws
      induction ws with
      | nil => intro U i h x hx; exact h x hx
      | cons a rest ih =>
        intro U i h x hx
        rw [putL]
        refine ih _ _ (fun y hy => ?_) x hx
        obtain ⟨t, ht⟩ := h y hy
        by_cases e : y = i
        · subst e; exact ⟨a, World.cell?_setCell_same _ _ _ ht⟩
        · exact ⟨t, (World.cell?_setCell_other _ _ _ _ (fun e2 => by injection e2 with _ e3; exact e e3.symm)).trans ht⟩
    exact key vs W1 pre.length hroom x hx
  · rw [hz]
    exact fill_put (B := w0.heap.size) (C := W1.heap.size) (S := Wn W.heap.size W1.heap.size) hlt1 rfl h.hg (fun a b y => by have := h1 a b y; exact ⟨this.1, Nat.lt_of_lt_of_le this.2.1 hb.size, this.2.2⟩) (OwL.kept pre (Kept.of_below hb) h.lt h2) ho.2
      (fun a b y z => by have := (h1 a b y).2.1; have := z.1; omega) (fun a b y => ⟨Nat.le_trans h.old.size y.1, y.2, by have := y.1; have := h.lt; omega⟩) (fun x hx => hroom x (by omega)) hfz
theorem FillL.done {w0 W : World} {g T n : Nat} {xs : List V} (h : FillL w0 g T xs W) (hc : Caps n n) : OwV w0.heap.size W.heap.size W (.st n xs) (.slice (some ⟨g, 0, none⟩) n n) := by
  obtain ⟨P, h1, h2⟩ := h.own
  refine ⟨Nat.le_refl _, ?_⟩
  unfold Ow
  exact ⟨_, n, rfl, hc, .inr ⟨g, 0, rfl, h.lt, OwL.sub xs (fun a b y => ⟨(h1 a b y).1, (h1 a b y).2.1⟩) h2⟩⟩
theorem fillL0 {w w1 : World} {B g n W : Nat} {t : TypeId} {xs : List Value} (h : w1.ownsRow B t W (.slice (some ⟨g, 0, none⟩) n n) n xs) (hb : Below w.heap.size w w1) (hg : w.heap.size ≤ g) : FillL w g (n * W) [] w1 := by
  rcases h.2 with ⟨h', _⟩ | ⟨g', cap', cur, h', hb', hblk, hnc, hcm, hcs, htake⟩
  · simp at h'
  · simp only [Value.slice.injEq, Option.some.injEq, Addr.mk.injEq, and_true, true_and] at h'
    obtain ⟨rfl, rfl⟩ := h'
    have K : Blk w1 g t cur := hblk
    refine ⟨hb, hg, K.lt, fun x hx => ⟨cur[x]'(by omega), ?_⟩, fun t => K.frozen t, fun _ _ => False, fun _ _ y => y.elim, by unfold OwL; trivial⟩
    rw [K.cell, Array.getElem?_eq_getElem]
theorem totL_append (a b : List V) : tot.totL (a ++ b) = tot.totL a + tot.totL b := by
  induction a with
  | nil => simp [tot.totL]
  | cons x xs ih => simp [tot.totL, ih]; omega
def tRow {α : Type} (f : α → List V) (r : List α) (j : Nat) : Nat := tot.totL ((r.take j).flatMap f)
theorem tRow_zero {α : Type} (f : α → List V) (r : List α) : tRow f r 0 = 0 := by simp [tRow, tot.totL]
theorem tRow_succ {α : Type} (f : α → List V) (r : List α) (j : Nat) (hj : j < r.length) : tRow f r (j + 1) = tRow f r j + tot.totL (f r[j]) := by rw [tRow, tRow, flat_take f r j hj, totL_append]
theorem tRow_all {α : Type} (f : α → List V) (r : List α) : r.length + tRow f r r.length = tot (.st r.length (r.flatMap f)) := by rw [tRow, List.take_length, tot]
theorem row_tot {α : Type} (f : α → List V) (r : List α) (j : Nat) (hj : j < r.length) : tot.totL (f r[j]) ≤ tot (.st r.length (r.flatMap f)) := by
  rw [tot, flat_split f r j hj, totL_append, totL_append]; omega
end Go.Proofs.Ythljdikcpdokdaa

/- Trees: an argument that came in, opened. -/
namespace Go.Proofs.Ythljdikcpdokdaa
open Go.RowKit Go.Deep Go.ChangeShapes Go.WideShapes Go.ChangeAt

/-- The numbers in their ranges. -/
def WfV : V → Prop
  | .int n => -9223372036854775808 ≤ n ∧ n ≤ 9223372036854775807
  | .bool _ => True
  | .bs l => Bytes l
  | .is l => Ints l
  | .st _ xs => WfA xs
where WfA : List V → Prop
  | [] => True
  | x :: xs => WfV x ∧ WfA xs
abbrev WfA := WfV.WfA
theorem arr_get (l : List Value) (k : Nat) : l.toArray[k]? = l[k]? := by simp
theorem wf_int {n : Int} (h : (Lit.int .i64 n).wf = true) : WfV (.int n) := by
  simp [Lit.wf, IntKind.min, IntKind.max, IntKind.signed, IntKind.bits] at h
  show _ ∧ _
  omega
theorem WfA.app {xs ys : List V} (h : WfA xs) (k : WfA ys) : WfA (xs ++ ys) := by
  induction xs with
  | nil => exact k
  | cons x xs ih => exact ⟨h.1, ih h.2⟩
theorem WfA.flat {α : Type} {f : α → List V} {r : List α} (h : ∀ x ∈ r, WfA (f x)) : WfA (r.flatMap f) := by
  induction r with
  | nil => trivial
  | cons x xs ih => rw [List.flatMap_cons]; exact WfA.app (h x (by simp)) (ih (fun y hy => h y (by simp [hy])))
theorem RdA.app {w : World} : ∀ {xs ys : List V} {vs us : List Value}, RdA w xs vs → RdA w ys us → RdA w (xs ++ ys) (vs ++ us)
  | [], _, [], _, _, k => k
  | x :: xs, ys, v :: vs, us, h, k => by
    rw [List.cons_append, List.cons_append]
    exact RdA.any_mk h.hd (RdA.app h.tl k)
  | [], _, _ :: _, _, h, _ => by unfold RdA at h; exact h.elim
  | _ :: _, _, [], _, h, _ => by unfold RdA at h; exact h.elim
theorem RdL.app {w : World} : ∀ {xs ys : List V} {g o : Nat}, RdL w xs g o → RdL w ys g (o + xs.length) → RdL w (xs ++ ys) g o
  | [], _, _, _, _, k => by simpa using k
  | x :: xs, ys, g, o, h, k => by
    rw [List.cons_append]
    unfold RdL at h ⊢
    exact ⟨h.1, RdL.app h.2 (by rw [List.length_cons] at k; rwa [show o + 1 + xs.length = o + (xs.length + 1) by omega])⟩
theorem RdL.of_cells {w : World} : ∀ {xs : List V} {vs : List Value} {g o : Nat}, RdA w xs vs → (∀ k, k < vs.length → w.cell? ⟨g, o + k, none⟩ = vs[k]?) → RdL w xs g o
  | [], [], _, _, _, _ => by unfold RdL; trivial
  | x :: xs, v :: vs, g, o, h, k => by
    unfold RdL
    refine ⟨⟨v, by simpa using k 0 (by simp), h.hd⟩, RdL.of_cells h.tl (fun i hi => ?_)⟩
    have := k (i + 1) (by simpa using hi)
    rw [show o + 1 + i = o + (i + 1) by omega]
    simpa using this
  | [], _ :: _, _, _, h, _ => by unfold RdA at h; exact h.elim
  | _ :: _, [], _, _, h, _ => by unfold RdA at h; exact h.elim
theorem RdL.of_rows {α : Type} {f : α → List V} {W : Nat} (hf : ∀ x, (f x).length = W) {w : World} {g : Nat} : ∀ {r : List α} {o : Nat}, (∀ j (hj : j < r.length), RdL w (f r[j]) g (o + j * W)) → RdL w (r.flatMap f) g o
  | [], _, _ => by simp only [List.flatMap_nil]; unfold RdL; trivial
  | x :: r, o, h => by
    rw [List.flatMap_cons]
    have h0 := h 0 (by simp)
    rw [Nat.zero_mul, Nat.add_zero] at h0
    refine RdL.app h0 ?_
    rw [hf]
    refine RdL.of_rows hf (fun j hj => ?_)
    have := h (j + 1) (by simpa using hj)
    rw [show o + W + j * W = o + (j + 1) * W by rw [Nat.add_mul]; omega]
    simpa using this
theorem RdA.len {w : World} : ∀ {xs : List V} {vs : List Value}, RdA w xs vs → vs.length = xs.length
  | [], [], _ => rfl
  | _ :: xs, _ :: vs, h => by simp [RdA.len h.tl]
  | [], _ :: _, h => by unfold RdA at h; exact h.elim
  | _ :: _, [], h => by unfold RdA at h; exact h.elim
theorem list_of' {α : Type} (n : Nat) (Q : Nat → α → Prop) (h : ∀ i, i < n → ∃ x, Q i x) : ∃ l : List α, l.length = n ∧ ∀ j (hj : j < l.length), Q j l[j] := by
  induction n with
  | zero => exact ⟨[], rfl, fun j hj => by simp at hj⟩
  | succ n ih =>
    obtain ⟨l, hl, hq⟩ := ih (fun i hi => h i (by omega))
    obtain ⟨x, hx⟩ := h n (by omega)
    refine ⟨l ++ [x], by simp [hl], fun j hj => ?_⟩
    by_cases e : j < l.length
    · rw [List.getElem_append_left e]; exact hq j e
    · have e2 : j = n := by simp at hj; omega
      subst e2
      rw [List.getElem_append_right (by omega)]
      simpa [hl] using hx
theorem list_1 {α : Type} {cs : List α} (h : cs.length = 1) : ∃ x0, cs = [x0] := by
  match cs, h with
  | x0 :: [], _ => exact ⟨x0, rfl⟩
theorem list_2 {α : Type} {cs : List α} (h : cs.length = 2) : ∃ x0 x1, cs = [x0, x1] := by
  match cs, h with
  | x0 :: x1 :: [], _ => exact ⟨x0, x1, rfl⟩
theorem list_3 {α : Type} {cs : List α} (h : cs.length = 3) : ∃ x0 x1 x2, cs = [x0, x1, x2] := by
  match cs, h with
  | x0 :: x1 :: x2 :: [], _ => exact ⟨x0, x1, x2, rfl⟩
theorem list_4 {α : Type} {cs : List α} (h : cs.length = 4) : ∃ x0 x1 x2 x3, cs = [x0, x1, x2, x3] := by
  match cs, h with
  | x0 :: x1 :: x2 :: x3 :: [], _ => exact ⟨x0, x1, x2, x3, rfl⟩
theorem list_5 {α : Type} {cs : List α} (h : cs.length = 5) : ∃ x0 x1 x2 x3 x4, cs = [x0, x1, x2, x3, x4] := by
  match cs, h with
  | x0 :: x1 :: x2 :: x3 :: x4 :: [], _ => exact ⟨x0, x1, x2, x3, x4, rfl⟩
theorem list_6 {α : Type} {cs : List α} (h : cs.length = 6) : ∃ x0 x1 x2 x3 x4 x5, cs = [x0, x1, x2, x3, x4, x5] := by
  match cs, h with
  | x0 :: x1 :: x2 :: x3 :: x4 :: x5 :: [], _ => exact ⟨x0, x1, x2, x3, x4, x5, rfl⟩
theorem list_7 {α : Type} {cs : List α} (h : cs.length = 7) : ∃ x0 x1 x2 x3 x4 x5 x6, cs = [x0, x1, x2, x3, x4, x5, x6] := by
  match cs, h with
  | x0 :: x1 :: x2 :: x3 :: x4 :: x5 :: x6 :: [], _ => exact ⟨x0, x1, x2, x3, x4, x5, x6, rfl⟩
theorem list_8 {α : Type} {cs : List α} (h : cs.length = 8) : ∃ x0 x1 x2 x3 x4 x5 x6 x7, cs = [x0, x1, x2, x3, x4, x5, x6, x7] := by
  match cs, h with
  | x0 :: x1 :: x2 :: x3 :: x4 :: x5 :: x6 :: x7 :: [], _ => exact ⟨x0, x1, x2, x3, x4, x5, x6, x7, rfl⟩
theorem list_9 {α : Type} {cs : List α} (h : cs.length = 9) : ∃ x0 x1 x2 x3 x4 x5 x6 x7 x8, cs = [x0, x1, x2, x3, x4, x5, x6, x7, x8] := by
  match cs, h with
  | x0 :: x1 :: x2 :: x3 :: x4 :: x5 :: x6 :: x7 :: x8 :: [], _ => exact ⟨x0, x1, x2, x3, x4, x5, x6, x7, x8, rfl⟩
theorem list_10 {α : Type} {cs : List α} (h : cs.length = 10) : ∃ x0 x1 x2 x3 x4 x5 x6 x7 x8 x9, cs = [x0, x1, x2, x3, x4, x5, x6, x7, x8, x9] := by
  match cs, h with
  | x0 :: x1 :: x2 :: x3 :: x4 :: x5 :: x6 :: x7 :: x8 :: x9 :: [], _ => exact ⟨x0, x1, x2, x3, x4, x5, x6, x7, x8, x9, rfl⟩
theorem list_11 {α : Type} {cs : List α} (h : cs.length = 11) : ∃ x0 x1 x2 x3 x4 x5 x6 x7 x8 x9 x10, cs = [x0, x1, x2, x3, x4, x5, x6, x7, x8, x9, x10] := by
  match cs, h with
  | x0 :: x1 :: x2 :: x3 :: x4 :: x5 :: x6 :: x7 :: x8 :: x9 :: x10 :: [], _ => exact ⟨x0, x1, x2, x3, x4, x5, x6, x7, x8, x9, x10, rfl⟩
theorem list_12 {α : Type} {cs : List α} (h : cs.length = 12) : ∃ x0 x1 x2 x3 x4 x5 x6 x7 x8 x9 x10 x11, cs = [x0, x1, x2, x3, x4, x5, x6, x7, x8, x9, x10, x11] := by
  match cs, h with
  | x0 :: x1 :: x2 :: x3 :: x4 :: x5 :: x6 :: x7 :: x8 :: x9 :: x10 :: x11 :: [], _ => exact ⟨x0, x1, x2, x3, x4, x5, x6, x7, x8, x9, x10, x11, rfl⟩
theorem list_13 {α : Type} {cs : List α} (h : cs.length = 13) : ∃ x0 x1 x2 x3 x4 x5 x6 x7 x8 x9 x10 x11 x12, cs = [x0, x1, x2, x3, x4, x5, x6, x7, x8, x9, x10, x11, x12] := by
  match cs, h with
  | x0 :: x1 :: x2 :: x3 :: x4 :: x5 :: x6 :: x7 :: x8 :: x9 :: x10 :: x11 :: x12 :: [], _ => exact ⟨x0, x1, x2, x3, x4, x5, x6, x7, x8, x9, x10, x11, x12, rfl⟩
theorem list_14 {α : Type} {cs : List α} (h : cs.length = 14) : ∃ x0 x1 x2 x3 x4 x5 x6 x7 x8 x9 x10 x11 x12 x13, cs = [x0, x1, x2, x3, x4, x5, x6, x7, x8, x9, x10, x11, x12, x13] := by
  match cs, h with
  | x0 :: x1 :: x2 :: x3 :: x4 :: x5 :: x6 :: x7 :: x8 :: x9 :: x10 :: x11 :: x12 :: x13 :: [], _ => exact ⟨x0, x1, x2, x3, x4, x5, x6, x7, x8, x9, x10, x11, x12, x13, rfl⟩
section
variable {H : Type} {enc : TypeId × Value → H} {w : World} {base : Nat} {spare : Nat → Bool} {held : Bool}
theorem open_bs {n : Nat} {v : Value} {x : DataW H × List MemPlace} (h : DataW.trod enc Try.prog w base spare held n 22 [v] = some x) : ∃ l, Rd w (.bs l) v ∧ WfV (.bs l) := by
  rcases open_ints Try.underlying22 Try.underlying5 (by kernel_rfl) h with ⟨hcs, _⟩ | ⟨a, len, c, zs, hcs, _, hl, hm, hz, _, hcell, hwz⟩
  · simp only [List.cons.injEq, and_true] at hcs
    subst hcs
    exact ⟨[], Rd.bs_mk (c := 0) (.inl rfl) ⟨Nat.le_refl _, by simp⟩, fun x hx => by simp at hx⟩
  · simp only [List.cons.injEq, and_true] at hcs
    subst hcs
    have hzl : len ≤ zs.length := by rw [hz]; split <;> omega
    have hll : (zs.take len).length = len := by rw [List.length_take]; omega
    unfold maxLen at hm
    refine ⟨zs.take len, ?_, fun x hx => ?_⟩
    · have hB : Bs w (some a) (zs.take len) := by
        rcases Nat.eq_zero_or_pos len with h0 | h0
        · exact .inl (List.eq_nil_of_length_eq_zero (by omega))
        · obtain ⟨b, off, spot⟩ := a
          have hc0 := hcell 0 (by omega)
          have hspot : spot = none := by simpa [Addr.add] using World.cell?_spot hc0
          subst hspot
          have hc1 : w.cell? ⟨b, off, none⟩ = some (.int .u8 (zs.getD 0 0)) := by simpa [Addr.add] using hc0
          refine .inr ⟨b, off, rfl, World.block_lt_of_cell? _ _ hc1, fun j hj => ?_⟩
          have h1 := hcell j (by omega)
          have e : (zs.take len).getD j 0 = zs.getD j 0 := by
            rw [List.getD_eq_getElem?_getD, List.getD_eq_getElem?_getD, List.getElem?_take_of_lt (by omega)]
          rw [e, ← h1]
          rcases j with _ | j <;> simp [Addr.add]
      have := Rd.bs_mk hB (c := c) (by rw [hll]; exact ⟨hl, by omega⟩)
      rwa [hll] at this
    · have h1 := hwz x (List.mem_of_mem_take hx)
      simp [Lit.wf, IntKind.min, IntKind.max, IntKind.signed, IntKind.bits] at h1
      omega
theorem open_is {n : Nat} {v : Value} {x : DataW H × List MemPlace} (h : DataW.trod enc Try.prog w base spare held n 24 [v] = some x) : ∃ l, Rd w (.is l) v ∧ WfV (.is l) := by
  rcases open_ints Try.underlying24 Try.underlying2 (by kernel_rfl) h with ⟨hcs, _⟩ | ⟨a, len, c, zs, hcs, _, hl, hm, hz, _, hcell, hwz⟩
  · simp only [List.cons.injEq, and_true] at hcs
    subst hcs
    exact ⟨[], Rd.is_mk (c := 0) (.inl rfl) ⟨Nat.le_refl _, by simp⟩, fun x hx => by simp at hx⟩
  · simp only [List.cons.injEq, and_true] at hcs
    subst hcs
    have hzl : len ≤ zs.length := by rw [hz]; split <;> omega
    have hll : (zs.take len).length = len := by rw [List.length_take]; omega
    unfold maxLen at hm
    refine ⟨zs.take len, ?_, fun x hx => ?_⟩
    · have hB : Is w (some a) (zs.take len) := by
        rcases Nat.eq_zero_or_pos len with h0 | h0
        · exact .inl (List.eq_nil_of_length_eq_zero (by omega))
        · obtain ⟨b, off, spot⟩ := a
          have hc0 := hcell 0 (by omega)
          have hspot : spot = none := by simpa [Addr.add] using World.cell?_spot hc0
          subst hspot
          have hc1 : w.cell? ⟨b, off, none⟩ = some (.int .i64 (zs.getD 0 0)) := by simpa [Addr.add] using hc0
          refine .inr ⟨b, off, rfl, World.block_lt_of_cell? _ _ hc1, fun j hj => ?_⟩
          have h1 := hcell j (by omega)
          have e : (zs.take len).getD j 0 = zs.getD j 0 := by
            rw [List.getD_eq_getElem?_getD, List.getD_eq_getElem?_getD, List.getElem?_take_of_lt (by omega)]
          rw [e, ← h1]
          rcases j with _ | j <;> simp [Addr.add]
      have := Rd.is_mk hB (c := c) (by rw [hll]; exact ⟨hl, by omega⟩)
      rwa [hll] at this
    · have h1 := hwz x (List.mem_of_mem_take hx)
      simp [Lit.wf, IntKind.min, IntKind.max, IntKind.signed, IntKind.bits] at h1
      omega
theorem open_st {P : Program} {α : Type} {f : α → List V} {W : Nat} (hf : ∀ x, (f x).length = W) (hW : 0 < W) {t e : TypeId} (ht : P.underlying t = some (.slice e)) (hC : P.cellsOf e = W)
    (hrow : ∀ (n : Nat) (cs : List Value) (x : DataW H × List MemPlace), DataW.trod enc P w base spare held n e cs = some x → ∃ r : α, RdA w (f r) cs ∧ WfA (f r))
    {n : Nat} {v : Value} {x : DataW H × List MemPlace} (h : DataW.trod enc P w base spare held n t [v] = some x) : ∃ r : List α, Rd w (.st r.length (r.flatMap f)) v ∧ WfV (.st r.length (r.flatMap f)) := by
  rcases open_slice ht h with ⟨hcs, _⟩ | ⟨a, len, cap, m, n', D, Pl, hcs, _, hl, hm, hmm, _, hi⟩
  · simp only [List.cons.injEq, and_true] at hcs
    subst hcs
    refine ⟨[], ?_, ?_⟩
    · unfold Rd; exact ⟨none, 0, rfl, ⟨Nat.le_refl _, by simp⟩, .inl ⟨rfl, rfl⟩⟩
    · exact trivial
  · simp only [List.cons.injEq, and_true] at hcs
    subst hcs
    unfold maxLen at hm
    have hml : len ≤ m := by rw [hmm]; split <;> omega
    have each : ∀ i, i < len → ∃ r : α, ∃ cs' : List Value, RdA w (f r) cs' ∧ WfA (f r) ∧ ∀ k, k < W → w.cell? ((a.add (i * W)).add k) = cs'[k]? := by
      intro i hi'
      obtain ⟨cs', hc, ht'⟩ := hi i (by omega)
      rw [hC] at hc
      obtain ⟨_, hc3, hat⟩ := World.cells?_some hc
      obtain ⟨r, h1, h2⟩ := hrow _ _ _ ht'
      exact ⟨r, cs', h1, h2, fun k hk => hat k (by omega)⟩
    obtain ⟨r, hlen, hq⟩ := list_of' len _ each
    refine ⟨r, ?_, ?_⟩
    · unfold Rd
      refine ⟨some a, cap, by rw [hlen], ⟨by omega, by omega⟩, ?_⟩
      rcases Nat.eq_zero_or_pos len with h0 | h0
      · obtain rfl := List.eq_nil_of_length_eq_zero (hlen.trans h0)
        exact .inl ⟨rfl, rfl⟩
      · obtain ⟨b, off, spot⟩ := a
        obtain ⟨cs', hr, _, hk⟩ := hq 0 (by omega)
        have hl' := hr.len
        rw [hf] at hl'
        have q0 := hk 0 hW
        rw [List.getElem?_eq_getElem (by omega)] at q0
        have hspot : spot = none := by simpa [Addr.add] using World.cell?_spot q0
        subst hspot
        have hlt : b < w.heap.size := by
          have := World.block_lt_of_cell? _ _ q0
          simpa [Addr.add] using this
        have ad : ∀ (o i : Nat), (⟨b, o, none⟩ : Addr).add i = ⟨b, o + i, none⟩ := fun o i => by unfold Addr.add; split <;> simp_all
        refine .inr ⟨b, off, rfl, hlt, RdL.of_rows hf (fun j hj => ?_)⟩
        obtain ⟨cs', hr, _, hk⟩ := hq j hj
        refine RdL.of_cells hr (fun k hk' => ?_)
        have hl' := hr.len
        rw [hf] at hl'
        have := hk k (by omega)
        rwa [ad, ad] at this
    · exact WfA.flat (fun x hx => by
        obtain ⟨j, hj, rfl⟩ := List.getElem_of_mem hx
        obtain ⟨_, _, q, _⟩ := hq j hj
        exact q)
end
end Go.Proofs.Ythljdikcpdokdaa
