import Derived.Test.YtepcikghhnfacaaDoorJa1
import Derived.Test.YtepcikghhnfacaaDoorJa5
import Derived.Test.YtepcikghhnfacaaDoorBytes
import Derived.Laws.BytesArg

/- The laws' own lwAt (a number in its range) and lwTurned (a copy of bytes with one turned). -/
namespace Go.Proofs.YtepcikghhnfacaaDoor
open Go.RowKit Go.Deep

set_option maxHeartbeats 1000000 in
theorem at_nil (A : Option Addr) (c i : Nat) (n : Int) (w : World) (hi : i ≤ 100) (hn : 1 < n) :
    Calls Tryd.prog 15 #[.slice A 0 c, .int .i64 i, .int .i64 n] w fun e w' => ∃ v : Int, e = .returned (.int .i64 v) ∧ 0 ≤ v ∧ v < n ∧ Below w.heap.size w w' := by
  have hm := mod_lt' ((i : Int) * 7) n (by omega)
  have hi2 : (i : Int) ≤ 100 := by omega
  go_enter Tryd.func15, Tryd.ntmps15
  go_wp2
  go_ret
  exact ⟨_, rfl, hm.1, hm.2, Below.refl _ _⟩
set_option maxHeartbeats 1000000 in
theorem at_one (A : Option Addr) (k c i : Nat) (n : Int) (w : World) (hn : n ≤ 1) :
    Calls Tryd.prog 15 #[.slice A k c, .int .i64 i, .int .i64 n] w fun e w' => e = .returned (.int .i64 0) ∧ Below w.heap.size w w' := by
  go_enter Tryd.func15, Tryd.ntmps15
  go_wp2
  go_ret
  exact ⟨rfl, Below.refl _ _⟩
set_option maxHeartbeats 1000000 in
theorem at_pos (b off : Nat) (l : List Int) (c i : Nat) (n : Int) (w : World) (hA : Bs w (some ⟨b, off, none⟩) l) (hl : Bytes l) (hp : 0 < l.length) (hm : (l.length : Int) ≤ 1048576) (hi : i ≤ 100) (hn : 1 < n) (hn2 : n ≤ 100000) :
    Calls Tryd.prog 15 #[.slice (some ⟨b, off, none⟩) l.length c, .int .i64 i, .int .i64 n] w fun e w' => ∃ v : Int, e = .returned (.int .i64 v) ∧ 0 ≤ v ∧ v < n ∧ Below w.heap.size w w' := by
  have cell : ∀ j, j < l.length → w.cell? ⟨b, off + j, none⟩ = some (.int .u8 (l.getD j 0)) := by
    rcases hA with h | ⟨b', off', h1, _, h3⟩
    · rw [h] at hp; simp at hp
    · simp at h1; obtain ⟨rfl, rfl⟩ := h1; exact h3
  have hi2 : (i : Int) ≤ 100 := by omega
  have hk1 : (1 : Int) ≤ (l.length : Int) := by omega
  have hne : ((l.length : Int) == 0) = false := by rw [beq_eq_false_iff_ne]; omega
  obtain ⟨m0, m1⟩ := mod_lt' (i : Int) (l.length : Int) hk1
  obtain ⟨m2, m3⟩ := mod_lt' ((i : Int) + 1) (l.length : Int) hk1
  have d0 : 0 ≤ (i : Int) / (l.length : Int) := Int.ediv_nonneg (by omega) (by omega)
  have d1 : (i : Int) / (l.length : Int) ≤ 100 := Int.le_trans (Int.ediv_le_self _ (by omega)) hi2
  obtain ⟨x0, e0, y0, z0⟩ : ∃ x0 : Int, w.cell? ⟨b, off + i % l.length, none⟩ = some (.int .u8 x0) ∧ 0 ≤ x0 ∧ x0 ≤ 255 := ⟨_, cell _ (Nat.mod_lt _ hp), hl.get _⟩
  obtain ⟨x1, e1, y1, z1⟩ : ∃ x1 : Int, w.cell? ⟨b, off + (i + 1) % l.length, none⟩ = some (.int .u8 x1) ∧ 0 ≤ x1 ∧ x1 ≤ 255 := ⟨_, cell _ (Nat.mod_lt _ hp), hl.get _⟩
  have t0 : ((i : Int) % (l.length : Int)).toNat = i % l.length := by
    have e : (i : Int) % (l.length : Int) = ((i % l.length : Nat) : Int) := by simp
    rw [e]; rfl
  have t1 : (((i : Int) + 1) % (l.length : Int)).toNat = (i + 1) % l.length := by
    have e : ((i : Int) + 1) % (l.length : Int) = (((i + 1) % l.length : Nat) : Int) := by simp
    rw [e]; rfl
  clear cell hA hl
  rcases Int.lt_or_le 200 n with h7 | h7
  · go_enter Tryd.func15, Tryd.ntmps15
    go_wp2
    go_quiet (fail)
    go_wp2
    go_ret
    exact ⟨_, rfl, (mod_lt' _ n (by omega)).1, (mod_lt' _ n (by omega)).2, below_drewN (Below.refl _ _) _⟩
  · go_enter Tryd.func15, Tryd.ntmps15
    go_wp2
    go_quiet (fail)
    go_wp2
    go_ret
    exact ⟨_, rfl, (mod_lt' _ n (by omega)).1, (mod_lt' _ n (by omega)).2, below_drewN (Below.refl _ _) _⟩
theorem at_any (A : Option Addr) (l : List Int) (c i : Nat) (n : Int) (w : World) (hA : Bs w A l) (hl : Bytes l) (hm : (l.length : Int) ≤ 1048576) (hi : i ≤ 100) (hn : 1 ≤ n) (hn2 : n ≤ 100000) :
    Calls Tryd.prog 15 #[.slice A l.length c, .int .i64 i, .int .i64 n] w fun e w' => ∃ v : Int, e = .returned (.int .i64 v) ∧ 0 ≤ v ∧ v < n ∧ Below w.heap.size w w' := by
  by_cases h1 : n ≤ 1
  · exact (at_one A l.length c i n w h1).mono fun _ _ h => ⟨0, h.1, Int.le_refl 0, by omega, h.2⟩
  · rcases l with _ | ⟨x, l⟩
    · exact at_nil A c i n w hi (by omega)
    · rcases hA with h | ⟨b, off, rfl, h2, h3⟩
      · simp at h
      · exact at_pos b off (x :: l) c i n w (.inr ⟨b, off, rfl, h2, h3⟩) hl (by simp) hm hi (by omega) hn2
/-- One byte set. -/
theorem ob_set {B C : Nat} {w : World} {b off k : Nat} {l : List Int} (v : Int) (hB : B ≤ b) (hb : b < C) (hC : C ≤ w.heap.size) (hk : k < l.length)
    (h : ∀ j, j < l.length → w.cell? ⟨b, off + j, none⟩ = some (.int .u8 (l.getD j 0)) ∧ w.frozen? ⟨b, off + j, none⟩ = false) :
    Ob B C (w.setCell ⟨b, off + k, none⟩ (.int .u8 v)) (some ⟨b, off, none⟩) (l.set k v) := by
  refine .inr ⟨b, off, rfl, hB, hb, by simpa [World.setCell] using hC, fun j hj => ?_⟩
  rw [List.length_set] at hj
  refine ⟨?_, (World.frozen?_setCell _ _ _ _).trans (h j hj).2⟩
  by_cases e : j = k
  · subst e
    rw [World.cell?_setCell_same _ _ _ (h j hj).1]
    simp [hj]
  · rw [World.cell?_setCell_other _ _ _ _ (fun e2 => by injection e2 with _ e3; omega), (h j hj).1]
    simp [List.getD_eq_getElem?_getD, List.getElem?_set_ne (fun h => e h.symm)]
def turnL (l : List Int) (k m : Nat) : List Int := l.set k (byteX m (l.getD k 0))
set_option maxHeartbeats 1000000 in
theorem turned_any (A : Option Addr) (l : List Int) (c k m : Nat) (w : World) (hA : Bs w A l) (hl : Bytes l) (hk : k < l.length) (hm : m ≤ 255) (hn : l.length ≤ 100000) :
    Calls Tryd.prog 14 #[.slice A l.length c, .int .i64 k, .int .i64 m] w fun e w' => ∃ A' c', e = .returned (.slice A' (turnL l k m).length c') ∧ Ob w.heap.size w'.heap.size w' A' (turnL l k m) ∧ Below w.heap.size w w' ∧ (turnL l k m).length ≤ c' ∧ (c' : Int) ≤ 9223372036854775807 := by
  have hown : (w.alloc (.cells #[] 5)).ownsRow w.heap.size 5 1 (.slice (some ⟨w.heap.size, 0, none⟩) 0 0) 0 [] := World.ownsRow_lit w #[] 0 (Nat.le_refl _) (by unfold maxLen; omega) rfl
  have hA2 := bs_below hA (bal (Below.refl _ w) (.cells #[] 5))
  have HO := hidH hown
  have HA := hidH hA2
  have hb2 := hidH (bal (Below.refl _ w) (.cells #[] 5))
  clear hown hA2 hA
  go_enter Tryd.func14, Tryd.ntmps14
  go_wp2_with (at_builtin; refine wpList_append_bs rfl _ _ rfl w.heap.size _ _ _ rfl HO.out A l c rfl HA.out (by omega) (by simp) ?_)
  intro v' w2 hown' hgrow
  have B2 := hidH (hb2.out.grown hgrow (by simp) (fun k hk => by simp [Value.ownBlock] at hk; omega))
  obtain ⟨A2, c2, rfl, o2, hcc, hcm⟩ := own_ob (d := l) (by simpa using hown')
  have HCC := hidH (And.intro hcc hcm)
  clear hcc hcm
  rcases o2 with h | ⟨b, off, rfl, h1, h2, h3, h4⟩
  · rw [h] at hk; simp at hk
  have c0 := (h4 k hk).1
  have f0 := (h4 k hk).2
  have p0 := hl.get k
  have H4 := hidH h4
  have hkI : (k : Int) < (l.length : Int) := by omega
  have hk0 : (0 : Int) ≤ (k : Int) := by omega
  have hmI : (m : Int) ≤ 255 := by omega
  have hm0 : (0 : Int) ≤ (m : Int) := by omega
  have hx := u8_xor (l.getD k 0) m p0.1 p0.2 hm0 hmI
  rw [Int.toNat_natCast] at hx
  obtain ⟨x, hxe⟩ : ∃ x, l.getD k 0 = x := ⟨_, rfl⟩
  rw [hxe] at hx c0 p0
  have HX := hidH hx
  have HXE := hidH hxe
  clear h4 hown' hgrow HO HA hb2 hx hxe
  go_wp2
  go_ret
  rw [turnL, HXE.out, ← HX.out]
  refine ⟨some ⟨b, off, none⟩, c2, by rw [List.length_set]; rfl, ?_, bst B2.out (by simpa using h1) _, by rw [List.length_set]; exact HCC.out.1, HCC.out.2⟩
  have := ob_set (C := w2.heap.size) (bits .xor .u8 x (m : Int)) h1 h2 h3 hk H4.out
  simpa [World.setCell] using this
theorem turnL_len (l : List Int) (k m : Nat) : (turnL l k m).length = l.length := List.length_set
theorem turnL_bytes {l : List Int} (h : Bytes l) (k m : Nat) (hm : m < 256) : Bytes (turnL l k m) := by
  intro x hx
  rcases List.mem_or_eq_of_mem_set hx with h1 | h1
  · exact h x h1
  · rw [h1]
    have := h.get k
    exact byteX_byte hm this.1 this.2
theorem at_nat (A : Option Addr) (l : List Int) (c i : Nat) (n : Int) (w : World) (hA : Bs w A l) (hl : Bytes l) (hm : (l.length : Int) ≤ 1048576) (hi : i ≤ 100) (hn : 1 ≤ n) (hn2 : n ≤ 100000) :
    Calls Tryd.prog 15 #[.slice A l.length c, .int .i64 i, .int .i64 n] w fun e w' => ∃ k : Nat, e = .returned (.int .i64 (k : Int)) ∧ (k : Int) < n ∧ Below w.heap.size w w' :=
  (at_any A l c i n w hA hl hm hi hn hn2).mono fun _ _ ⟨v, h1, h2, h3, h4⟩ => ⟨v.toNat, by rw [h1, Int.toNat_of_nonneg h2], by omega, h4⟩
theorem turned_one (A : Option Addr) (l : List Int) (c k m : Nat) (w : World) (hA : Bs w A l) (hl : Bytes l) (hk : k < l.length) (hm : m < 255) (hn : l.length ≤ 100000) :
    Calls Tryd.prog 14 #[.slice A l.length c, .int .i64 k, .int .i64 (1 + (m : Int))] w fun e w' => ∃ A' c', e = .returned (.slice A' (turnL l k (1 + m)).length c') ∧ Bs w' A' (turnL l k (1 + m)) ∧ Below w.heap.size w w' := by
  have h := turned_any A l c k (1 + m) w hA hl hk (by omega) hn
  rw [show ((1 + m : Nat) : Int) = 1 + (m : Int) by omega] at h
  exact h.mono fun _ _ ⟨A', c', h1, h2, h3, _⟩ => ⟨A', c', h1, h2.bs, h3⟩
theorem turned_cap (A : Option Addr) (l : List Int) (c k m : Nat) (w : World) (hA : Bs w A l) (hl : Bytes l) (hk : k < l.length) (hm : m < 255) (hn : l.length ≤ 100000) :
    Calls Tryd.prog 14 #[.slice A l.length c, .int .i64 k, .int .i64 (1 + (m : Int))] w fun e w' => ∃ A' c', e = .returned (.slice A' (turnL l k (1 + m)).length c') ∧ (Bs w' A' (turnL l k (1 + m)) ∧ (turnL l k (1 + m)).length ≤ c' ∧ (c' : Int) ≤ 9223372036854775807) ∧ Below w.heap.size w w' := by
  have h := turned_any A l c k (1 + m) w hA hl hk (by omega) hn
  rw [show ((1 + m : Nat) : Int) = 1 + (m : Int) by omega] at h
  exact h.mono fun _ _ ⟨A', c', h1, h2, h3, h4⟩ => ⟨A', c', h1, ⟨h2.bs, h4⟩, h3⟩
end Go.Proofs.YtepcikghhnfacaaDoor

/- The laws' lwBytes: two slices of the same bytes are the same text. -/
namespace Go.Proofs.YtepcikghhnfacaaDoor
open Go.RowKit Go.Deep
theorem conv_bs (w : World) (A : Option Addr) (l : List Int) (c : Nat) (h : Bs w A l) : (convert 22 9 (.slice A l.length c)).run Tryd.prog w = .ok (.string (strOfNums l)) w := by
  rcases h with rfl | ⟨b, off, rfl, _, h⟩
  · rw [List.length_nil, run_convert_bytes_string w 22 9 5 _ 0 c Tryd.underlying22 Tryd.underlying5 Tryd.underlying9]
    cases A <;> simp [Conv.bytesToString, loadCells]
    all_goals rfl
  · exact run_convert_bytes_arg w 22 5 Tryd.underlying22 Tryd.underlying5 b off _ c l rfl h 9 Tryd.underlying9
set_option maxHeartbeats 400000 in
theorem lwB_same (A B : Option Addr) (l : List Int) (c d : Nat) (w : World) (hA : Bs w A l) (hB : Bs w B l) :
    Calls Tryd.prog 13 #[.slice A l.length c, .slice B l.length d] w fun e w' => e = .returned (.bool true) ∧ w = w' := by
  have h1 := conv_bs w A l c hA
  have h2 := conv_bs w B l d hB
  clear hA hB
  go_enter Tryd.func13, Tryd.ntmps13
  go_wp2
  go_ret
  exact ⟨rfl, rfl⟩
end Go.Proofs.YtepcikghhnfacaaDoor
