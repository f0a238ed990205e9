/- The model's ScheduleOf and CompressBlock. -/
import Derived.Test.YthpokophigkhaaaComp
import Derived.Test.YthpokophigkhaaaPad
namespace Go.Proofs.Ythpokophigkhaaa
open Go.RowKit Go.Deep

/-- What a call that answers a WordsResult leaves: the answer in memory that was not there before. -/
def IRes (w : World) (c : Int) (l : List Int) (e : Ending) (w' : World) : Prop :=
  ∃ A cp, e = .returned (.agg #[.int .i64 c, .slice A l.length cp]) ∧ Oi w.heap.size w'.heap.size w' A l ∧ Below w.heap.size w w' ∧ l.length ≤ cp ∧ (cp : Int) ≤ 9223372036854775807
theorem own_oi {w : World} {B : Nat} {v : Value} {ws : List Nat} (h : w.ownsRow B 2 1 v ws.length (ws.map wv)) :
    ∃ A cp, v = .slice A (ci ws).length cp ∧ Oi B w.heap.size w A (ci ws) ∧ (ci ws).length ≤ cp ∧ (cp : Int) ≤ 9223372036854775807 := by
  rcases Nat.eq_zero_or_pos ws.length with h0 | h0
  · have hw : ws = [] := List.eq_nil_of_length_eq_zero h0
    subst hw
    obtain ⟨_, ⟨rfl, hn⟩ | ⟨g, cap, cur, rfl, hg, hblk, hnc, hm, _, _⟩⟩ := h
    · exact ⟨none, 0, rfl, .inl rfl, Nat.le_refl _, by omega⟩
    · unfold maxLen at hm
      exact ⟨_, cap, rfl, .inl rfl, Nat.zero_le _, by omega⟩
  · obtain ⟨g, cap, rfl, hg, hc1, hc2, N, F⟩ := Nw.of_own h h0
    refine ⟨_, cap, by rw [ci_len], .inr ⟨g, 0, rfl, hg, N.1, Nat.le_refl _, fun j hj => ⟨?_, ?_⟩⟩, by rw [ci_len]; exact hc1, hc2⟩
    · have hj' : j < ws.length := by rw [ci_len] at hj; exact hj
      rw [Nat.zero_add, N.2 j hj']
      simp [ci, hj']
    · rw [Nat.zero_add]; exact F j
theorem Oi.setCell {B C : Nat} {w : World} {A : Option Addr} {l : List Int} (h : Oi B C w A l) {p : Addr} (hp : p.block < B) (u : Value) : Oi B C (w.setCell p u) A l := by
  rcases h with h | ⟨b, off, h1, h2, h3, h4, h5⟩
  · exact .inl h
  · exact .inr ⟨b, off, h1, h2, h3, by simpa [World.setCell] using h4, fun j hj => ⟨(World.cell?_setCell_other _ _ _ _ (fun e => by subst e; simp at hp; omega)).trans (h5 j hj).1, (World.frozen?_setCell _ _ _ _).trans (h5 j hj).2⟩⟩
theorem Oi.mono {B B' C : Nat} {w : World} {A : Option Addr} {l : List Int} (h : Oi B C w A l) (hB : B' ≤ B) : Oi B' C w A l := by
  rcases h with h | ⟨b, off, h1, h2, h3, h4, h5⟩
  · exact .inl h
  · exact .inr ⟨b, off, h1, by omega, h3, h4, h5⟩
theorem ires_set {w w1 : World} {A : Option Addr} {l : List Int} {cp : Nat} (x : Int) (hO : Oi (w.heap.size + 1) w1.heap.size w1 A l) (hb : Below w.heap.size w w1) (h1 : l.length ≤ cp) (h2 : (cp : Int) ≤ 9223372036854775807) (u0 u1 : Value) :
    IRes w x l (.returned (.agg #[.int .i64 x, .slice A l.length cp])) ((w1.setCell ⟨w.heap.size, 0, none⟩ u0).setCell ⟨w.heap.size, 1, none⟩ u1) := by
  have e : ((w1.setCell ⟨w.heap.size, 0, none⟩ u0).setCell ⟨w.heap.size, 1, none⟩ u1).heap.size = w1.heap.size := by simp [World.setCell]
  refine ⟨A, cp, rfl, ?_, bst (bst hb (Nat.le_refl _) _) (Nat.le_refl _) _, h1, h2⟩
  rw [e]
  exact ((hO.setCell (p := ⟨w.heap.size, 0, none⟩) (Nat.lt_succ_self _) _).setCell (p := ⟨w.heap.size, 1, none⟩) (Nat.lt_succ_self _) _).mono (Nat.le_succ _)
def schC (l : List Int) : Int := if l.length = 64 then 0 else 2
def schM (l : List Int) : List Int := if l.length = 64 then ci (schedN l) else []
set_option maxHeartbeats 1000000 in
theorem sch_spec (A : Option Addr) (l : List Int) (c : Nat) (w : World) (hA : Bs w A l) (hl : Bytes l) :
    Calls Try.prog 36 #[.slice A l.length c] w (IRes w (schC l) (schM l)) := by
  by_cases h : l.length = 64
  · rw [schC, schM, if_pos h, if_pos h]
    have h1 : ((l.length : Int) != 64) = false := by rw [bne_eq_false_iff_eq]; omega
    have hA2 := hidH (bs_below hA (bal (Below.refl _ w) (.cells #[.int .i64 0, .slice none 0 0] 42)))
    have H := hidH h
    clear hA h
    go_enter Try.func36, Try.ntmps36
    go_wp2_with fail
    refine (sched_any _ _ _ _ hA2.out hl H.out).mono ?_
    rintro e w1 ⟨v, rfl, o1, b1⟩
    have z := b1.size
    simp only [World.size_alloc] at z
    have X := (Blk.new w 42 #[.int .i64 0, .slice none 0 0]).below b1
    obtain ⟨x0, x1, xz⟩ := X.two
    have f0 := X.frozen 0
    have f1 := X.frozen 1
    obtain ⟨A1, cp, rfl, ob, hc1, hc2⟩ := own_oi o1
    have hb := btr (bal (Below.refl _ _) _) b1
    simp only [World.size_alloc] at ob
    have OB := hidH ob
    have HB := hidH hb
    have C1 := hidH hc1
    have C2 := hidH hc2
    clear X ob hb hc1 hc2 o1 b1 z
    go_wp2
    exact bodyPost_ret (v := .agg #[.int .i64 0, .slice A1 (ci (schedN l)).length cp]) (by simp [results, Try.results36, go_sem, x0, x1]) rfl (ires_set 0 OB.out HB.out C1.out C2.out _ _)
  · rw [schC, schM, if_neg h, if_neg h]
    have h1 : ((l.length : Int) != 64) = true := by rw [bne_iff_ne]; omega
    clear h hA
    go_enter Try.func36, Try.ntmps36
    go_wp2
    exact bodyPost_ret (v := .agg #[.int .i64 2, .slice none 0 0]) (by simp [results, Try.results36, go_sem]) rfl ⟨_, _, rfl, .inl rfl, bal (Below.refl _ _) _, Nat.le_refl _, by omega⟩
/-- Whether all numbers are words. -/
def allB (s : List Int) (k : Nat) : Bool := (s.take k).all wB
theorem allB_succ (s : List Int) (k : Nat) (hk : k < s.length) : allB s (k + 1) = (allB s k && wB (s.getD k 0)) := by
  unfold allB
  rw [List.take_succ_eq_append_getElem hk, List.all_append]
  simp [List.getD_eq_getElem?_getD, hk]
theorem allB_false {s : List Int} {k n : Nat} (h : allB s k = false) (hk : k ≤ n) : allB s n = false := by
  unfold allB at *
  rw [List.all_eq_false] at *
  obtain ⟨x, hx, h2⟩ := h
  exact ⟨x, (List.take_subset_take_left s hk) hx, h2⟩
/-- Numbers that are words, as words. -/
def toW (s : List Int) : List Nat := s.map Int.toNat
theorem toW_ci {s : List Int} (h : allB s s.length = true) : ci (toW s) = s := by
  unfold allB at h
  rw [List.take_length] at h
  unfold ci toW
  rw [List.map_map]
  conv => rhs; rw [← List.map_id s]
  apply List.map_congr_left
  intro x hx
  have := List.all_eq_true.1 h x hx
  simp [wB, inB] at this
  simp; omega
theorem toW_all {s : List Int} (h : allB s s.length = true) : AllW (toW s) := by
  unfold allB at h
  rw [List.take_length] at h
  intro y hy
  simp [toW] at hy
  obtain ⟨x, hx, rfl⟩ := hy
  have := List.all_eq_true.1 h x hx
  simp [wB, inB] at this
  omega
def comC (s l : List Int) : Int := if s.length = 8 ∧ l.length = 64 then (if allB s 8 = true then 0 else 3) else 2
def comM (s l : List Int) : List Int := if s.length = 8 ∧ l.length = 64 then (if allB s 8 = true then ci (compN (toW s) l) else []) else []
theorem comp_any' (A B : Option Addr) (s l : List Int) (c d : Nat) (w : World) (hA : Is w A s) (hs : allB s 8 = true) (h8 : s.length = 8) (hB : Bs w B l) (hl : Bytes l) (h64 : l.length = 64) :
    Calls Try.prog 82 #[.slice A s.length c, .slice B l.length d] w (WsRes w (compN (toW s) l)) := by
  have e := toW_ci (s := s) (by rw [h8]; exact hs)
  have h := comp_any A B (toW s) l c d w (by rw [e]; exact hA) (toW_all (by rw [h8]; exact hs)) (by simp [toW, h8]) hB hl h64
  rwa [e] at h
set_option maxHeartbeats 2000000 in
theorem com_spec (A B : Option Addr) (s l : List Int) (c d : Nat) (w : World) (hA : Is w A s) (hB : Bs w B l) (hl : Bytes l) :
    Calls Try.prog 37 #[.slice A s.length c, .slice B l.length d] w (IRes w (comC s l) (comM s l)) := by
  by_cases h8 : s.length = 8
  · have d8 : ((s.length : Int) != 8) = false := by rw [bne_eq_false_iff_eq]; omega
    by_cases h64 : l.length = 64
    · have d64 : ((l.length : Int) != 64) = false := by rw [bne_eq_false_iff_eq]; omega
      have hsl : (s.length : Int) ≤ 8 := by omega
      have hA1 := is_below hA (bal (Below.refl _ w) (.cells #[.int .i64 0, .slice none 0 0] 42))
      have hB1 := hidH (bs_below hB (bal (Below.refl _ w) (.cells #[.int .i64 0, .slice none 0 0] 42)))
      have HA := hidH hA1
      have H8 := hidH h8
      have H64 := hidH h64
      clear hA hB hA1 h64
      go_enter Try.func37, Try.ntmps37
      go_wp2
      go_loop [5] (fun i => ∃ k : Nat, k ≤ 8 ∧ i = .int .i64 k ∧ allB s k = true) (fun i => 8 - (intOf i).toNat)
      case atStart => exact ⟨0, by omega, rfl, rfl⟩
      case round =>
        obtain ⟨k, hk, rfl, hall⟩ := hrel
        have HALL := hidH hall
        clear hall h8
        by_cases hlt : k < 8
        · have hk0 : (0 : Int) ≤ (k : Int) := by omega
          have hk1 : (k : Int) < 8 := by omega
          have hk2 : (k : Int) < (s.length : Int) := by have := H8.out; omega
          obtain ⟨b, off, rfl, _, hcc⟩ : ∃ b off, A = some ⟨b, off, none⟩ ∧ b < (w.alloc (.cells #[.int .i64 0, .slice none 0 0] 42)).heap.size ∧ ∀ j, j < s.length → (w.alloc (.cells #[.int .i64 0, .slice none 0 0] 42)).cell? ⟨b, off + j, none⟩ = some (.int .i64 (s.getD j 0)) := by
            rcases HA.out with h | h
            · have := H8.out; rw [h] at this; simp at this
            · exact h
          have c1 := hcc k (by omega)
          have hsucc := hidH (allB_succ s k (by omega))
          clear hcc
          obtain ⟨x, hx⟩ : ∃ x, s.getD k 0 = x := ⟨_, rfl⟩
          rw [hx] at c1
          have HX := hidH hx
          clear hx
          rcases hwb : wB x with _ | _
          · have hf : allB s 8 = false := allB_false (k := k + 1) (by rw [hsucc.out, HX.out, hwb]; simp) (by omega)
            have e1 : comC s l = 3 := by rw [comC, if_pos ⟨H8.out, H64.out⟩, if_neg (by rw [hf]; simp)]
            have e2 : comM s l = [] := by rw [comM, if_pos ⟨H8.out, H64.out⟩, if_neg (by rw [hf]; simp)]
            rw [e1, e2]
            clear hf e1 e2
            go_wp2_with (go_at_call 64; refine (word32_any _ _).mono ?_; rintro e w' ⟨rfl, rfl⟩)
            exact bodyPost_ret (v := .agg #[.int .i64 3, .slice none 0 0]) (by simp [results, Try.results37, go_sem]) rfl ⟨_, _, rfl, .inl rfl, bal (Below.refl _ _) _, Nat.le_refl _, by omega⟩
          · have ha : allB s (k + 1) = true := by rw [hsucc.out, HX.out, hwb, HALL.out]; rfl
            have HA2 := hidH ha
            clear ha
            go_wp2_with (go_at_call 64; refine (word32_any _ _).mono ?_; rintro e w' ⟨rfl, rfl⟩)
            go_round
            case rel => exact ⟨k + 1, by omega, by go_num, HA2.out⟩
            case measure => simp [intOf]; omega
        · obtain rfl : k = 8 := by omega
          have e1 : comC s l = 0 := by rw [comC, if_pos ⟨H8.out, H64.out⟩, if_pos HALL.out]
          have e2 : comM s l = ci (compN (toW s) l) := by rw [comM, if_pos ⟨H8.out, H64.out⟩, if_pos HALL.out]
          have E1 := hidH e1
          have E2 := hidH e2
          clear e1 e2 hlt hk
          go_wp2_with fail
          refine (comp_any' _ _ _ _ _ _ _ HA.out HALL.out H8.out hB1.out hl H64.out).mono ?_
          rintro e w1 ⟨v, rfl, o1, b1⟩
          have z := b1.size
          simp only [World.size_alloc] at z
          have X := (Blk.new w 42 #[.int .i64 0, .slice none 0 0]).below b1
          obtain ⟨x0, x1, xz⟩ := X.two
          have f0 := X.frozen 0
          have f1 := X.frozen 1
          obtain ⟨A1, cp, rfl, ob, hc1, hc2⟩ := own_oi o1
          have hb := btr (bal (Below.refl _ _) _) b1
          simp only [World.size_alloc] at ob
          have OB := hidH ob
          have HB := hidH hb
          have C1 := hidH hc1
          have C2 := hidH hc2
          clear X ob hb hc1 hc2 o1 b1 z
          go_wp2
          exact bodyPost_ret (v := .agg #[.int .i64 0, .slice A1 (ci (compN (toW s) l)).length cp]) (by simp [results, Try.results37, go_sem, x0, x1]) rfl (by rw [E1.out, E2.out]; exact ires_set 0 OB.out HB.out C1.out C2.out _ _)
    · have d64 : ((l.length : Int) != 64) = true := by rw [bne_iff_ne]; omega
      rw [comC, comM, if_neg (fun h => h64 h.2), if_neg (fun h => h64 h.2)]
      clear h8 h64 hA hB
      go_enter Try.func37, Try.ntmps37
      go_wp2
      exact bodyPost_ret (v := .agg #[.int .i64 2, .slice none 0 0]) (by simp [results, Try.results37, go_sem]) rfl ⟨_, _, rfl, .inl rfl, bal (Below.refl _ _) _, Nat.le_refl _, by omega⟩
  · have d8 : ((s.length : Int) != 8) = true := by rw [bne_iff_ne]; omega
    rw [comC, comM, if_neg (fun h => h8 h.1), if_neg (fun h => h8 h.1)]
    clear h8 hA hB
    go_enter Try.func37, Try.ntmps37
    go_wp2
    exact bodyPost_ret (v := .agg #[.int .i64 2, .slice none 0 0]) (by simp [results, Try.results37, go_sem]) rfl ⟨_, _, rfl, .inl rfl, bal (Below.refl _ _) _, Nat.le_refl _, by omega⟩
end Go.Proofs.Ythpokophigkhaaa
