/- The model's ScheduleOf and CompressBlock. -/
import Derived.Test.YtanffpmpknmldaaComp
import Derived.Test.YtanffpmpknmldaaPad
namespace Go.Proofs.Ytanffpmpknmldaa
open Go.RowKit Go.Deep

/-- What a call that answers a WordsResult leaves: the answer in memory that was not there before. -/
def IRes (w : World) (c : Int) (l : List Int) (e : Ending) (w' : World) : Prop :=
  ∃ A cp, e = .returned (.agg #[.int .i64 c, .slice A l.length cp]) ∧ Oi w.heap.size w'.heap.size w' A l ∧ Below w.heap.size w w' ∧ l.length ≤ cp ∧ (cp : Int) ≤ 9223372036854775807
theorem own_oi {w : World} {B : Nat} {v : Value} {ws : List Nat} (h : w.ownsRow B 2 1 v ws.length (ws.map wv)) :
    ∃ A cp, v = .slice A (ci ws).length cp ∧ Oi B w.heap.size w A (ci ws) ∧ (ci ws).length ≤ cp ∧ (cp : Int) ≤ 9223372036854775807 := by
  rcases Nat.eq_zero_or_pos ws.length with h0 | h0
  · have hw : ws = [] := List.eq_nil_of_length_eq_zero h0
    subst hw
    obtain ⟨_, ⟨rfl, hn⟩ | ⟨g, cap, cur, rfl, hg, hblk, hnc, hm, _, _⟩⟩ := h
    · exact ⟨none, 0, rfl, .inl rfl, Nat.le_refl _, by omega⟩
    · unfold maxLen at hm
      exact ⟨_, cap, rfl, .inl rfl, Nat.zero_le _, by omega⟩
  · obtain ⟨g, cap, rfl, hg, hc1, hc2, N, F⟩ := Nw.of_own h h0
    refine ⟨_, cap, by rw [ci_len], .inr ⟨g, 0, rfl, hg, N.1, Nat.le_refl _, fun j hj => ⟨?_, ?_⟩⟩, by rw [ci_len]; exact hc1, hc2⟩
    · have hj' : j < ws.length := by rw [ci_len] at hj; exact hj
      rw [Nat.zero_add, N.2 j hj']
      simp [ci, hj']
    · rw [Nat.zero_add]; exact F j
theorem Oi.setCell {B C : Nat} {w : World} {A : Option Addr} {l : List Int} (h : Oi B C w A l) {p : Addr} (hp : p.block < B) (u : Value) : Oi B C (w.setCell p u) A l := by
  rcases h with h | ⟨b, off, h1, h2, h3, h4, h5⟩
  · exact .inl h
  · exact .inr ⟨b, off, h1, h2, h3, by simpa [World.setCell] using h4, fun j hj => ⟨(World.cell?_setCell_other _ _ _ _ (fun e => by subst e; simp at hp; omega)).trans (h5 j hj).1, (World.frozen?_setCell _ _ _ _).trans (h5 j hj).2⟩⟩
theorem Oi.mono {B B' C : Nat} {w : World} {A : Option Addr} {l : List Int} (h : Oi B C w A l) (hB : B' ≤ B) : Oi B' C w A l := by
  rcases h with h | ⟨b, off, h1, h2, h3, h4, h5⟩
  · exact .inl h
  · exact .inr ⟨b, off, h1, by omega, h3, h4, h5⟩
theorem ires_set {w w1 : World} {A : Option Addr} {l : List Int} {cp : Nat} (x : Int) (hO : Oi (w.heap.size + 1) w1.heap.size w1 A l) (hb : Below w.heap.size w w1) (h1 : l.length ≤ cp) (h2 : (cp : Int) ≤ 9223372036854775807) (u0 u1 : Value) :
    IRes w x l (.returned (.agg #[.int .i64 x, .slice A l.length cp])) ((w1.setCell ⟨w.heap.size, 0, none⟩ u0).setCell ⟨w.heap.size, 1, none⟩ u1) := by
  have e : ((w1.setCell ⟨w.heap.size, 0, none⟩ u0).setCell ⟨w.heap.size, 1, none⟩ u1).heap.size = w1.heap.size := by simp [World.setCell]
  refine ⟨A, cp, rfl, ?_, bst (bst hb (Nat.le_refl _) _) (Nat.le_refl _) _, h1, h2⟩
  rw [e]
  exact ((hO.setCell (p := ⟨w.heap.size, 0, none⟩) (Nat.lt_succ_self _) _).setCell (p := ⟨w.heap.size, 1, none⟩) (Nat.lt_succ_self _) _).mono (Nat.le_succ _)
def schC (l : List Int) : Int := if l.length = 64 then 0 else 2
def schM (l : List Int) : List Int := if l.length = 64 then ci (schedN l) else []
/-- Whether all numbers are words. -/
def allB (s : List Int) (k : Nat) : Bool := (s.take k).all wB
theorem allB_succ (s : List Int) (k : Nat) (hk : k < s.length) : allB s (k + 1) = (allB s k && wB (s.getD k 0)) := by
  unfold allB
  rw [List.take_succ_eq_append_getElem hk, List.all_append]
  simp [List.getD_eq_getElem?_getD, hk]
theorem allB_false {s : List Int} {k n : Nat} (h : allB s k = false) (hk : k ≤ n) : allB s n = false := by
  unfold allB at *
  rw [List.all_eq_false] at *
  obtain ⟨x, hx, h2⟩ := h
  exact ⟨x, (List.take_subset_take_left s hk) hx, h2⟩
/-- Numbers that are words, as words. -/
def toW (s : List Int) : List Nat := s.map Int.toNat
theorem toW_ci {s : List Int} (h : allB s s.length = true) : ci (toW s) = s := by
  unfold allB at h
  rw [List.take_length] at h
  unfold ci toW
  rw [List.map_map]
  conv => rhs; rw [← List.map_id s]
  apply List.map_congr_left
  intro x hx
  have := List.all_eq_true.1 h x hx
  simp [wB, inB] at this
  simp; omega
theorem toW_all {s : List Int} (h : allB s s.length = true) : AllW (toW s) := by
  unfold allB at h
  rw [List.take_length] at h
  intro y hy
  simp [toW] at hy
  obtain ⟨x, hx, rfl⟩ := hy
  have := List.all_eq_true.1 h x hx
  simp [wB, inB] at this
  omega
def comC (s l : List Int) : Int := if s.length = 8 ∧ l.length = 64 then (if allB s 8 = true then 0 else 3) else 2
def comM (s l : List Int) : List Int := if s.length = 8 ∧ l.length = 64 then (if allB s 8 = true then ci (compN (toW s) l) else []) else []
theorem comp_any' (A B : Option Addr) (s l : List Int) (c d : Nat) (w : World) (hA : Is w A s) (hs : allB s 8 = true) (h8 : s.length = 8) (hB : Bs w B l) (hl : Bytes l) (h64 : l.length = 64) :
    Calls Try.prog 62 #[.slice A s.length c, .slice B l.length d] w (WsRes w (compN (toW s) l)) := by
  have e := toW_ci (s := s) (by rw [h8]; exact hs)
  have h := comp_any A B (toW s) l c d w (by rw [e]; exact hA) (toW_all (by rw [h8]; exact hs)) (by simp [toW, h8]) hB hl h64
  rwa [e] at h
end Go.Proofs.Ytanffpmpknmldaa
