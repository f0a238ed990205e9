/- Trees: what the laws' helpers of a slice of bytes and of a slice of int64s do (mark, held, eq, sz, to). -/
import Derived.Test.YthljdikcpdokdaaUniL
namespace Go.Proofs.Ythljdikcpdokdaa
open Go.RowKit Go.Deep

theorem markW_chg (w : World) (g o k n : Nat) (S : Fp) (hs : ∀ j, j < n → S g (o + j)) : Chg S w (markW w g o k n) := by
  induction n with
  | zero => exact Chg.refl _ _
  | succ j ih => exact (ih (fun i hi => hs i (by omega))).trans ((Chg.set _ g (o + j) _).sub (fun a b y => by obtain ⟨rfl, rfl⟩ := y; exact hs j (by omega)))
theorem markV_chg (w : World) (g o k n : Nat) (S : Fp) (hs : ∀ j, j < n → S g (o + j)) : Chg S w (markV w g o k n) := by
  induction n with
  | zero => exact Chg.refl _ _
  | succ j ih => exact (ih (fun i hi => hs i (by omega))).trans ((Chg.set _ g (o + j) _).sub (fun a b y => by obtain ⟨rfl, rfl⟩ := y; exact hs j (by omega)))
set_option maxHeartbeats 400000 in
theorem markB_ow (l : List Int) (S : Fp) (v : Value) (k : Nat) (w : World) (h : Ow w (.bs l) S v) (hk : k + cc (.bs l) ≤ 1000000000000) :
    Calls Try.prog 126 #[v, .int .i64 k] w (MkR (.bs l) S v k w) := by
  unfold Ow at h
  obtain ⟨A, c, rfl, hc, h⟩ := h
  have hm := hc.len
  simp only [cc] at hk
  have HC := hidH hc
  unfold MkR
  simp only [cc, mkc]
  rcases h with rfl | ⟨b, off, rfl, h1, h⟩
  · clear hc
    go_enter Try.func126, Try.ntmps126
    go_wp2
    go_loopw [1, 5] (fun v i wr => v = .int .i64 k ∧ i = .int .i64 0 ∧ wr = w) (fun _ _ _ => 0)
    case atStart => exact ⟨rfl, rfl, rfl⟩
    case round =>
      obtain ⟨rfl, rfl, rfl⟩ := hrel
      go_wp2
      go_ret
      refine ⟨rfl, Chg.refl _ _, ?_⟩
      unfold Ow
      exact ⟨A, c, by simp [marks], by simpa [marks] using HC.out, .inl rfl⟩
  · have hA : ∀ i, i < l.length → w.cell? ⟨b, off + i, none⟩ = some (.int .u8 (l.getD i 0)) ∧ w.frozen? ⟨b, off + i, none⟩ = false := fun i hi => (h i hi).2
    have HA := hidH h
    clear hc h
    go_enter Try.func126, Try.ntmps126
    go_wp2
    go_loopw [1, 5] (fun v i wr => ∃ j : Nat, j ≤ l.length ∧ v = .int .i64 ((k + j : Nat) : Int) ∧ i = .int .i64 j ∧ wr = markW w b off k j) (fun _ i _ => l.length - (intOf i).toNat)
    case atStart => exact ⟨0, Nat.zero_le _, rfl, rfl, rfl⟩
    case round =>
      obtain ⟨j, hj, rfl, rfl, rfl⟩ := hrel
      by_cases hlt : j < l.length
      · have hi : (j : Int) < (l.length : Int) := by omega
        have hv : (((k + j : Nat) : Int)) + 1 ≤ 9223372036854775807 := by omega
        have hc : ∃ v, (markW w b off k j).cell? ⟨b, off + j, none⟩ = some v := ⟨_, (markW_other w b off k j _ (fun t ht e => by injection e with _ e2; omega)).trans (hA j hlt).1⟩
        have hf : (markW w b off k j).frozen? ⟨b, off + j, none⟩ = false := (markW_frozen w b off k j _).trans (hA j hlt).2
        obtain ⟨v, hc⟩ := hc
        clear hA h1
        go_wp2
        go_roundw
        case rel => exact ⟨j + 1, by omega, by go_num, by go_num, rfl⟩
        case measure => simp [intOf]; omega
      · have he : j = l.length := by omega
        subst he
        clear hlt hj
        have hE := hidH (And.intro (markW_chg w b off k l.length S (fun i hi => (HA.out i hi).1)) (show Ow (markW w b off k l.length) (.bs (marks k l.length)) S (.slice (some ⟨b, off, none⟩) l.length c) by
          unfold Ow
          refine ⟨some ⟨b, off, none⟩, c, by rw [marks_len], by rw [marks_len]; exact HC.out, .inr ⟨b, off, rfl, by rw [markW_size]; exact h1, fun i hi => ?_⟩⟩
          rw [marks_len] at hi
          exact ⟨(HA.out i hi).1, by rw [markW_cell w b off k l.length i hi (fun i hi => ⟨_, (hA i hi).1⟩), marks_at k l.length i hi], (markW_frozen w b off k l.length _).trans (hA i hi).2⟩))
        clear hA
        go_wp2
        go_ret
        exact ⟨rfl, hE.out.1, hE.out.2⟩
set_option maxHeartbeats 400000 in
theorem markI_ow (l : List Int) (S : Fp) (v : Value) (k : Nat) (w : World) (h : Ow w (.is l) S v) (hk : k + cc (.is l) ≤ 1000000000000) :
    Calls Try.prog 124 #[v, .int .i64 k] w (MkR (.is l) S v k w) := by
  unfold Ow at h
  obtain ⟨A, c, rfl, hc, h⟩ := h
  have hm := hc.len
  simp only [cc] at hk
  have HC := hidH hc
  unfold MkR
  simp only [cc, mkc]
  rcases h with rfl | ⟨b, off, rfl, h1, h⟩
  · clear hc
    go_enter Try.func124, Try.ntmps124
    go_wp2
    go_loopw [1, 5] (fun v i wr => v = .int .i64 k ∧ i = .int .i64 0 ∧ wr = w) (fun _ _ _ => 0)
    case atStart => exact ⟨rfl, rfl, rfl⟩
    case round =>
      obtain ⟨rfl, rfl, rfl⟩ := hrel
      go_wp2
      go_ret
      refine ⟨rfl, Chg.refl _ _, ?_⟩
      unfold Ow
      exact ⟨A, c, by simp [nums], by simpa [nums] using HC.out, .inl rfl⟩
  · have hA : ∀ i, i < l.length → w.cell? ⟨b, off + i, none⟩ = some (.int .i64 (l.getD i 0)) ∧ w.frozen? ⟨b, off + i, none⟩ = false := fun i hi => (h i hi).2
    have HA := hidH h
    clear hc h
    go_enter Try.func124, Try.ntmps124
    go_wp2
    go_loopw [1, 5] (fun v i wr => ∃ j : Nat, j ≤ l.length ∧ v = .int .i64 ((k + j : Nat) : Int) ∧ i = .int .i64 j ∧ wr = markV w b off k j) (fun _ i _ => l.length - (intOf i).toNat)
    case atStart => exact ⟨0, Nat.zero_le _, rfl, rfl, rfl⟩
    case round =>
      obtain ⟨j, hj, rfl, rfl, rfl⟩ := hrel
      by_cases hlt : j < l.length
      · have hi : (j : Int) < (l.length : Int) := by omega
        have hv : (((k + j : Nat) : Int)) + 1 ≤ 9223372036854775807 := by omega
        have hc : ∃ v, (markV w b off k j).cell? ⟨b, off + j, none⟩ = some v := ⟨_, (markV_other w b off k j _ (fun t ht e => by injection e with _ e2; omega)).trans (hA j hlt).1⟩
        have hf : (markV w b off k j).frozen? ⟨b, off + j, none⟩ = false := (markV_frozen w b off k j _).trans (hA j hlt).2
        obtain ⟨v, hc⟩ := hc
        clear hA h1
        go_wp2
        go_roundw
        case rel => exact ⟨j + 1, by omega, by go_num, by go_num, rfl⟩
        case measure => simp [intOf]; omega
      · have he : j = l.length := by omega
        subst he
        clear hlt hj
        have hE := hidH (And.intro (markV_chg w b off k l.length S (fun i hi => (HA.out i hi).1)) (show Ow (markV w b off k l.length) (.is (nums k l.length)) S (.slice (some ⟨b, off, none⟩) l.length c) by
          unfold Ow
          refine ⟨some ⟨b, off, none⟩, c, by rw [nums_len], by rw [nums_len]; exact HC.out, .inr ⟨b, off, rfl, by rw [markV_size]; exact h1, fun i hi => ?_⟩⟩
          rw [nums_len] at hi
          exact ⟨(HA.out i hi).1, by rw [markV_cell w b off k l.length i hi (fun i hi => ⟨_, (hA i hi).1⟩), nums_at k l.length i hi], (markV_frozen w b off k l.length _).trans (hA i hi).2⟩))
        clear hA
        go_wp2
        go_ret
        exact ⟨rfl, hE.out.1, hE.out.2⟩
/-- What 'held' answers, what 'eq' answers, what 'sz' answers. -/
def HeR (x : V) (k : Nat) (w : World) (e : Ending) (w' : World) : Prop := e = .returned (.int .i64 ((k + cc x : Nat) : Int)) ∧ Below w.heap.size w w'
def EqR (w : World) (e : Ending) (w' : World) : Prop := e = .returned (.bool true) ∧ Below w.heap.size w w'
def SzR (left : Int) (t : Nat) (w : World) (e : Ending) (w' : World) : Prop := ∃ z : Int, e = .returned (.int .i64 z) ∧ SzR' left t z ∧ Below w.heap.size w w'
/-- The same over a struct's fields. -/
def MkA (xs : List V) (S : Fp) (vs : List Value) (k : Nat) (w : World) (e : Ending) (w' : World) : Prop := e = .returned (.int .i64 ((k + vcA xs : Nat) : Int)) ∧ Chg S w w' ∧ OwA w' (mkA k xs) S vs
def HeA (xs : List V) (k : Nat) (w : World) (e : Ending) (w' : World) : Prop := e = .returned (.int .i64 ((k + vcA xs : Nat) : Int)) ∧ Below w.heap.size w w'
theorem mkc_bs_sh {w : World} {k : Nat} {l : List Int} {v : Value} (h : Rd w (mkc k (.bs l)) v) : ∃ A n c, v = .slice A n c := by simp only [mkc] at h; obtain ⟨A, c, h, _⟩ := h.bs_out; exact ⟨A, _, c, h⟩
theorem mkc_is_sh {w : World} {k : Nat} {l : List Int} {v : Value} (h : Rd w (mkc k (.is l)) v) : ∃ A n c, v = .slice A n c := by simp only [mkc] at h; obtain ⟨A, c, h, _⟩ := h.is_out; exact ⟨A, _, c, h⟩
theorem mkc_st_sh {w : World} {k n : Nat} {x : V} {xs : List V} {v : Value} (e : x = .st n xs) (h : Rd w (mkc k x) v) : ∃ A n c, v = .slice A n c := by subst e; simp only [mkc] at h; obtain ⟨A, c, h, _⟩ := h.st_out; exact ⟨A, _, c, h⟩
theorem heldB_rd (l : List Int) (v : Value) (k : Nat) (w : World) (h : Rd w (mkc k (.bs l)) v) (hk : k + cc (.bs l) ≤ 1000000000000) :
    Calls Try.prog 169 #[v, .int .i64 k] w (HeR (.bs l) k w) := by
  simp only [mkc] at h
  obtain ⟨A, c, rfl, hc, h⟩ := h.bs_out
  simp only [cc] at hk
  rw [marks_len]
  exact (heldB_any A l.length c k w h (by omega)).mono (fun e w' h => ⟨h.1, by rw [← h.2]; exact Below.refl _ _⟩)
theorem heldI_rd (l : List Int) (v : Value) (k : Nat) (w : World) (h : Rd w (mkc k (.is l)) v) (hk : k + cc (.is l) ≤ 1000000000000) :
    Calls Try.prog 167 #[v, .int .i64 k] w (HeR (.is l) k w) := by
  simp only [mkc] at h
  obtain ⟨A, c, rfl, hc, h⟩ := h.is_out
  simp only [cc] at hk
  rw [nums_len]
  exact (heldI_any A l.length c k w h (by omega)).mono (fun e w' h => ⟨h.1, by rw [← h.2]; exact Below.refl _ _⟩)
theorem eqB_rd (l : List Int) (v u : Value) (w : World) (hv : Rd w (.bs l) v) (hu : Rd w (.bs l) u) : Calls Try.prog 123 #[v, u] w (EqR w) := by
  obtain ⟨A, c, rfl, hc, hv⟩ := hv.bs_out
  obtain ⟨B, d, rfl, hd, hu⟩ := hu.bs_out
  exact (eqB_same A B l c d w hv hu hc.len).mono (fun e w' h => ⟨h.1, by obtain ⟨_, n, h⟩ := h; rw [← h]; exact below_drewN (Below.refl _ _) _⟩)
theorem eqI_rd (l : List Int) (v u : Value) (w : World) (hv : Rd w (.is l) v) (hu : Rd w (.is l) u) : Calls Try.prog 114 #[v, u] w (EqR w) := by
  obtain ⟨A, c, rfl, hc, hv⟩ := hv.is_out
  obtain ⟨B, d, rfl, hd, hu⟩ := hu.is_out
  exact (eqI_same A B l c d w hv hu hc.len).mono (fun e w' h => ⟨h.1, by obtain ⟨_, n, h⟩ := h; rw [← h]; exact below_drewN (Below.refl _ _) _⟩)
set_option maxHeartbeats 400000 in
theorem szB_rd (l : List Int) (v : Value) (left : Int) (w : World) (hv : Rd w (.bs l) v) (h0 : 0 ≤ left) (h1 : left ≤ 1048576) : Calls Try.prog 121 #[v, .int .i64 left] w (SzR left (tot (.bs l)) w) := by
  obtain ⟨A, c, rfl, hc, hv⟩ := hv.bs_out
  have hn := hc.len
  simp only [tot]
  clear hc hv
  by_cases h : left - (l.length : Int) < 0
  · go_enter Try.func121, Try.ntmps121
    go_wp2
    go_ret
    exact ⟨-1, rfl, ⟨.inl rfl, by omega, fun h => by omega⟩, Below.refl _ _⟩
  · have h2 : 0 ≤ left - (l.length : Int) := by omega
    clear h
    go_enter Try.func121, Try.ntmps121
    go_wp2
    go_ret
    exact ⟨_, rfl, ⟨.inr h2, by omega, fun _ => by omega⟩, Below.refl _ _⟩
set_option maxHeartbeats 400000 in
theorem szI_rd (l : List Int) (v : Value) (left : Int) (w : World) (hv : Rd w (.is l) v) (h0 : 0 ≤ left) (h1 : left ≤ 1048576) : Calls Try.prog 110 #[v, .int .i64 left] w (SzR left (tot (.is l)) w) := by
  obtain ⟨A, c, rfl, hc, hv⟩ := hv.is_out
  have hn := hc.len
  simp only [tot]
  clear hc hv
  by_cases h : left - (l.length : Int) < 0
  · go_enter Try.func110, Try.ntmps110
    go_wp2
    go_ret
    exact ⟨-1, rfl, ⟨.inl rfl, by omega, fun h => by omega⟩, Below.refl _ _⟩
  · have h2 : 0 ≤ left - (l.length : Int) := by omega
    clear h
    go_enter Try.func110, Try.ntmps110
    go_wp2
    go_ret
    exact ⟨_, rfl, ⟨.inr h2, by omega, fun _ => by omega⟩, Below.refl _ _⟩
theorem toB_rd (l : List Int) (v : Value) (w : World) (hv : Rd w (.bs l) v) (hm : tot (.bs l) ≤ 1048576) : Calls Try.prog 122 #[v] w (ResV w (.bs l)) := by
  obtain ⟨A, c, rfl, hc, hv⟩ := hv.bs_out
  simp only [tot] at hm
  exact (toB' A l c w hv (by omega)).mono (fun e w' h => by
    obtain ⟨A', h1, h2, h3⟩ := h
    exact ⟨_, h1, h2.owv (Nat.le_refl _) (Caps.same (by omega)), h3⟩)
theorem toI_rd (l : List Int) (v : Value) (w : World) (hv : Rd w (.is l) v) (hm : tot (.is l) ≤ 1048576) : Calls Try.prog 112 #[v] w (ResV w (.is l)) := by
  obtain ⟨A, c, rfl, hc, hv⟩ := hv.is_out
  simp only [tot] at hm
  exact (toI' A l c w hv (by omega)).mono (fun e w' h => by
    obtain ⟨A', h1, h2, h3⟩ := h
    exact ⟨_, h1, h2.owv (Nat.le_refl _) (Caps.same (by omega)), h3⟩)
end Go.Proofs.Ythljdikcpdokdaa
