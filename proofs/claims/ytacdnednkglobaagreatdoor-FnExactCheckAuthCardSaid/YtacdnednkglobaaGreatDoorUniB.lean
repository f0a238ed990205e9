/- Trees: what the laws' helpers of a slice of bytes and of a slice of int64s do (mark, held, eq, sz, to). -/
import Derived.Test.YtacdnednkglobaaGreatDoorUniL
namespace Go.Proofs.YtacdnednkglobaaGreatDoor
open Go.RowKit Go.Deep

theorem markW_chg (w : World) (g o k n : Nat) (S : Fp) (hs : ∀ j, j < n → S g (o + j)) : Chg S w (markW w g o k n) := by
  induction n with
  | zero => exact Chg.refl _ _
  | succ j ih => exact (ih (fun i hi => hs i (by omega))).trans ((Chg.set _ g (o + j) _).sub (fun a b y => by obtain ⟨rfl, rfl⟩ := y; exact hs j (by omega)))
theorem markV_chg (w : World) (g o k n : Nat) (S : Fp) (hs : ∀ j, j < n → S g (o + j)) : Chg S w (markV w g o k n) := by
  induction n with
  | zero => exact Chg.refl _ _
  | succ j ih => exact (ih (fun i hi => hs i (by omega))).trans ((Chg.set _ g (o + j) _).sub (fun a b y => by obtain ⟨rfl, rfl⟩ := y; exact hs j (by omega)))
/-- What 'held' answers, what 'eq' answers, what 'sz' answers. -/
def HeR (x : V) (k : Nat) (w : World) (e : Ending) (w' : World) : Prop := e = .returned (.int .i64 ((k + cc x : Nat) : Int)) ∧ Below w.heap.size w w'
def EqR (w : World) (e : Ending) (w' : World) : Prop := e = .returned (.bool true) ∧ Below w.heap.size w w'
def SzR (left : Int) (t : Nat) (w : World) (e : Ending) (w' : World) : Prop := ∃ z : Int, e = .returned (.int .i64 z) ∧ SzR' left t z ∧ Below w.heap.size w w'
/-- The same over a struct's fields. -/
def MkA (xs : List V) (S : Fp) (vs : List Value) (k : Nat) (w : World) (e : Ending) (w' : World) : Prop := e = .returned (.int .i64 ((k + vcA xs : Nat) : Int)) ∧ Chg S w w' ∧ OwA w' (mkA k xs) S vs
def HeA (xs : List V) (k : Nat) (w : World) (e : Ending) (w' : World) : Prop := e = .returned (.int .i64 ((k + vcA xs : Nat) : Int)) ∧ Below w.heap.size w w'
theorem mkc_bs_sh {w : World} {k : Nat} {l : List Int} {v : Value} (h : Rd w (mkc k (.bs l)) v) : ∃ A n c, v = .slice A n c := by simp only [mkc] at h; obtain ⟨A, c, h, _⟩ := h.bs_out; exact ⟨A, _, c, h⟩
theorem mkc_is_sh {w : World} {k : Nat} {l : List Int} {v : Value} (h : Rd w (mkc k (.is l)) v) : ∃ A n c, v = .slice A n c := by simp only [mkc] at h; obtain ⟨A, c, h, _⟩ := h.is_out; exact ⟨A, _, c, h⟩
theorem mkc_st_sh {w : World} {k n : Nat} {x : V} {xs : List V} {v : Value} (e : x = .st n xs) (h : Rd w (mkc k x) v) : ∃ A n c, v = .slice A n c := by subst e; simp only [mkc] at h; obtain ⟨A, c, h, _⟩ := h.st_out; exact ⟨A, _, c, h⟩
theorem eqB_rd (l : List Int) (v u : Value) (w : World) (hv : Rd w (.bs l) v) (hu : Rd w (.bs l) u) : Calls Tryz.prog 43 #[v, u] w (EqR w) := by
  obtain ⟨A, c, rfl, hc, hv⟩ := hv.bs_out
  obtain ⟨B, d, rfl, hd, hu⟩ := hu.bs_out
  exact (eqB_same A B l c d w hv hu hc.len).mono (fun e w' h => ⟨h.1, by obtain ⟨_, n, h⟩ := h; rw [← h]; exact below_drewN (Below.refl _ _) _⟩)
set_option maxHeartbeats 400000 in
theorem szB_rd (l : List Int) (v : Value) (left : Int) (w : World) (hv : Rd w (.bs l) v) (h0 : 0 ≤ left) (h1 : left ≤ 1048576) : Calls Tryz.prog 128 #[v, .int .i64 left] w (SzR left (tot (.bs l)) w) := by
  obtain ⟨A, c, rfl, hc, hv⟩ := hv.bs_out
  have hn := hc.len
  simp only [tot]
  clear hc hv
  by_cases h : left - (l.length : Int) < 0
  · go_enter Tryz.func128, Tryz.ntmps128
    go_wp2
    go_ret
    exact ⟨-1, rfl, ⟨.inl rfl, by omega, fun h => by omega⟩, Below.refl _ _⟩
  · have h2 : 0 ≤ left - (l.length : Int) := by omega
    clear h
    go_enter Tryz.func128, Tryz.ntmps128
    go_wp2
    go_ret
    exact ⟨_, rfl, ⟨.inr h2, by omega, fun _ => by omega⟩, Below.refl _ _⟩
theorem toB_rd (l : List Int) (v : Value) (w : World) (hv : Rd w (.bs l) v) (hm : tot (.bs l) ≤ 1048576) : Calls Tryz.prog 40 #[v] w (ResV w (.bs l)) := by
  obtain ⟨A, c, rfl, hc, hv⟩ := hv.bs_out
  simp only [tot] at hm
  exact (toB' A l c w hv (by omega)).mono (fun e w' h => by
    obtain ⟨A', h1, h2, h3⟩ := h
    exact ⟨_, h1, h2.owv (Nat.le_refl _) (Caps.same (by omega)), h3⟩)
end Go.Proofs.YtacdnednkglobaaGreatDoor
